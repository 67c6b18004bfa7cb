/-
  Facts. Condition: each theorem's own.
-/
import Derived.Test.YtpifdbphmnifdaaGreatDoorYF14
set_option maxRecDepth 100000
set_option maxHeartbeats 8000000
section
variable {p:Prop}
theorem Uf(h:p:=by first | assumption | exact Pg | exact(Below.refl _ _).drew | exact Ja4 (by assumption) _ | exact Ja4 Pg _ | exact Ja4 (Below.refl _ _).drew _):p:=h
theorem Ug(h:p:=by rw[cell_of_row _ _ _ _ _ _ ((h.block _ l7).trans k7)];rfl):p:=h
theorem Uh(h:p:=by rw[cell_of_row _ _ _ _ _ _ (KB.out _ (B7.out.trans (h.mono B7.out.size)))];rfl):p:=h
theorem Ui(h:p:=by rw[<-h7];exact heap_alloc_new wr _):p:=h
theorem Uj(h:p:=by rw[<-h7];exact(Below.refl _ _).alloc Ph _):p:=h
theorem Uk(h:p:=by rw[cell_of_row _ _ _ _ _ _ (KB.out _ HX.out)];rfl):p:=h
theorem Ul(h:p:=by rw[Jbd _ hx,<-HSX.out];exact Tx.add HZS SR.out):p:=h
theorem Um(h:p:=by rw[List.take_zero,List.map_nil,List.append_nil];exact TX0):p:=h
theorem Un(h:p:=by obtain⟨y0,y1,y2⟩:=h;dsimp only[pt];go_simp;try with_reducible rfl):p:=h
theorem Uo(h:p:=by rw[<-hw7d];exact(Below.refl _ _).drew):p:=h
theorem Up(h:p:=by rw[cell_of_row _ _ _ _ _ _ k3];rfl):p:=h
theorem Uq(h:p:=by rintro r w1 ⟨rfl,b⟩;have B:=Pe b;clear b C;go_wp2_with fail;go_ret;exact⟨rfl,B.out⟩):p:=h
theorem Ur(h:p:=by rintro e w3 ⟨rfl,b3⟩;go_wp2_with fail;go_ret2;exact⟨rfl,b1.trans ((b2.trans (b3.mono b2.size)).mono b1.size)⟩):p:=h
theorem Us(h:p:=by go_wp2_with fail;go_ret2;exact⟨rfl,b1.trans (b2.mono b1.size)⟩):p:=h
theorem Ut(h:p:=by first | exact Pg | exact(Below.refl _ _).drew):p:=h
theorem Uu(h:p:=by rw[<-h3];exact(Below.refl _ _).alloc Ph _):p:=h
theorem Uv(h:p:=by rw[hT] at HZS |-;clear hT hlt;clear HZS hk;have HE:=Pe (HZ.out _ (B3.out.trans (HX.out.mono B3.out.size)));go_wp2_with fail;go_ret;exact⟨rfl,HE.out⟩):p:=h
theorem Uw(h:p:=by rw[<-hnm];rfl):p:=h
theorem Ux(h:p:=by rw[<-h3];exact heap_alloc_new w _):p:=h
theorem Uy(h:p:=by rw[<-h.2];exact Pg):p:=h
theorem Uz(h:p:=by rw[h.2];exact Pg):p:=h
theorem U0(h:p:=by rintro e w4 ⟨rfl,b4⟩;go_wp2_with fail;go_ret2;exact⟨rfl,b1.trans ((b2.trans (b4.mono b2.size)).mono b1.size)⟩):p:=h
theorem U1(h:p:=by rw[List.take_zero,List.map_nil,List.append_nil];exact Tx.nil):p:=h
theorem U2(h:p:=by unfold Go.Proofs.YtpifdbphmnifdaaGreatDoor.fmtR;rw[if_neg Ka]):p:=h
theorem U3(h:p:=by rintro e w2 ⟨rfl,b2⟩;exact Us):p:=h
end
open Go.Proofs.Tryz
namespace Go.Proofs.YtpifdbphmnifdaaGreatDoor
namespace S1
open Go.RowKit
theorem J10(s:ByteArray)(h:0<s.size):s.toList.isEmpty=false:=by
 rw[Lib.toList_data];have:s.data.toList.length=s.size:=rfl;cases hl:s.data.toList with
 | nil=>rw[hl] at this;simp at this;omega
 | cons a t=>rfl
theorem J11(s:ByteArray)(h:s.size=0)(w:World):
  Pc 356 #[.string s] w (.bool false):=by
 obtain rfl:s=⟨#[]⟩:=by
  obtain⟨⟨l⟩⟩:=s;have:l.length=0:=h;cases l with
  | nil=>rfl
  | cons a t=>simp at this
 go_enter func356,ntmps356;go_wp2_with fail;go_ret;exact Js
theorem Jwl(s:ByteArray)(h:0<s.size)(h0:s[0].toNat=48)(w:World):
  Pc 356 #[.string s] w (.bool false):=by
 have hn:=J10 s h;have k0:∀W,(Instr.index 9 (.string s) (.int .i64 0)).run prog W=.ok (.int .u8 s[0].toNat) W:=Je7 s 0 h;have c0:(((s[0].toNat:Nat):Int) != 48)=false:=by rw[h0];rfl
 clear h0;go_enter func356,ntmps356;go_wp2_with fail;go_ret;exact Js
theorem Jwm(s:ByteArray)(h:0<s.size)(h0:s[0].toNat≠48)(hd:digs s.data.toList=false)(w:World):
  Pc 356 #[.string s] w (.bool false):=by
 have hn:=J10 s h;have k0:∀W,(Instr.index 9 (.string s) (.int .i64 0)).run prog W=.ok (.int .u8 s[0].toNat) W:=Je7 s 0 h;have c0:(((s[0].toNat:Nat):Int) != 48)=true:=Jaf Ka;have HD:=Pe hd;clear h0 hd;go_enter func356,ntmps356;go_wp2_with fail;refine(allDigits_no s HD.out _).mono ?_;exact Zt
theorem J5v(s:ByteArray)(h:0<s.size)(h0:s[0].toNat≠48)(hd:digs s.data.toList=true)(w:World):
  Pc 356 #[.string s] w (.bool true):=by
 have hn:=J10 s h;have k0:∀W,(Instr.index 9 (.string s) (.int .i64 0)).run prog W=.ok (.int .u8 s[0].toNat) W:=Je7 s 0 h;have c0:(((s[0].toNat:Nat):Int) != 48)=true:=Jaf Ka;have HD:=Pe hd;clear h0 hd;go_enter func356,ntmps356;go_wp2_with fail;refine(allDigits_yes s HD.out _).mono ?_;exact Zt
theorem Jel(l:List UInt8)(w:World):
  Pc 356 #[.string (str l)] w (.bool (posD l)):=by
 have hz:=Jai l;cases l with
 | nil=>exact J11 _ hz w
 | cons c t =>
  have h:0<(str (c::t)).size:=by rw[hz];simp
  have hc:(str (c::t))[0]=c:=rfl;by_cases h0:c.toNat=48
  ·obtain rfl:c=48:=UInt8.toNat_inj.1 h0
   have hp:posD (48::t)=false:=by unfold posD;simp
   rw[hp];exact Jwl _ h h0 w
  ·have hne:c≠48:=fun hx=>h0 (by rw[hx];rfl)
   cases hd:digs (c::t) with
   | false =>
    have hp:posD (c::t)=false:=by unfold posD;rw[hd];simp
    rw[hp];exact Jwm _ h h0 hd w
   | true =>
    have hp:posD (c::t)=true:=(Jd1 _).2 ⟨Ke,by simp[hne],hd⟩;rw[hp];exact J5v _ h h0 hd w
theorem Jem(l:List UInt8)(hd:digs l=true)(hl:l.length<=6)(w:World):
  Calls prog 322 #[.string (str l)] w fun e w'=>e=.returned (.int .i64 (valN l))/\Po w w' :=
 Jpd (str l) hd (by rw[Jai];exact hl) w
theorem J12(l:List UInt8)(h:l.length≠2)(w:World):
  Pc 355 #[.string (str l)] w (.tuple #[.int .i64 0,.bool false]):=by
 have hz:=Jai l;have c0:(((str l).size:Int) != 2)=true:=Jaf Ka;clear hz h;generalize str l=s at c0 |-;go_enter func355,ntmps355;exact Jr
theorem Jwn(l:List UInt8)(h:l.length=2)(hd:digs l=false)(w:World):
  Pc 355 #[.string (str l)] w (.tuple #[.int .i64 0,.bool false]):=by
 have hz:=Jai l;have c0:(((str l).size:Int) != 2)=false:=by rw[hz,h];rfl
 have HC:=Pe (allDigits_no (str l) hd);clear hz h hd;generalize str l=s at c0 HC |-;go_enter func355,ntmps355;go_wp2_with fail;refine(HC.out _).mono ?_;exact Y6
theorem J13(l:List UInt8)(h:l.length=2)(hd:digs l=true)(hv:¬valN l<60)(w:World):
  Pc 355 #[.string (str l)] w (.tuple #[.int .i64 0,.bool false]):=by
 have hz:=Jai l;have c0:(((str l).size:Int) != 2)=false:=by rw[hz,h];rfl
 have HC:=Pe (allDigits_yes (str l) hd);have HV:=Pe (Jem l hd Ka);clear hz h hd;generalize str l=s at c0 HC HV |-;go_enter func355,ntmps355;go_wp2_with fail;refine(HC.out _).mono ?_;rintro e w1 ⟨rfl,b1⟩;go_wp2_with fail;refine(HV.out _).mono ?_;rintro e w2 ⟨rfl,b2⟩;go_wp2_with fail;refine(Jew _ Ka _).mono ?_;rintro e w3 ⟨rfl,rfl⟩;exact Us
theorem J5w(l:List UInt8)(h:l.length=2)(hd:digs l=true)(hv:valN l<60)(w:World):
  Pc 355 #[.string (str l)] w (.tuple #[.int .i64 (valN l),.bool true]):=by
 have hz:=Jai l;have c0:(((str l).size:Int) != 2)=false:=by rw[hz,h];rfl
 have HC:=Pe (allDigits_yes (str l) hd);have HV:=Pe (Jem l hd Ka);clear hz h hd;generalize str l=s at c0 HC HV |-;go_enter func355,ntmps355;go_wp2_with fail;refine(HC.out _).mono ?_;rintro e w1 ⟨rfl,b1⟩;go_wp2_with fail;refine(HV.out _).mono ?_;rintro e w2 ⟨rfl,b2⟩;go_wp2_with fail;refine(Jdd _ Ka Ka _).mono ?_;rintro e w3 ⟨rfl,rfl⟩;go_wp2_with fail;refine(HV.out _).mono ?_;exact U0
theorem J5x(l:List UInt8)(h:Jcf l=false)(w:World):
  Pc 355 #[.string (str l)] w (.tuple #[.int .i64 0,.bool false]):=by
 by_cases h2:l.length=2
 ·cases hd:digs l with
  | false=>exact Jwn l h2 hd w
  | true =>
   by_cases hv:valN l<60
   ·rw[(Jdo l).2 ⟨h2,hd,hv⟩] at h;cases h
   ·exact J13 l h2 hd hv w
 ·exact J12 l h2 w
theorem J14(l:List UInt8)(h:Jcf l=true)(w:World):
  Pc 355 #[.string (str l)] w (.tuple #[.int .i64 (valN l),.bool true]):=by
 obtain⟨h2,hd,hv⟩:=(Jdo l).1 h;exact J5w l h2 hd hv w
theorem J15(l:List UInt8)(h:posD l=false)(w:World):
  Pc 325 #[.string (str l)] w (.tuple #[.int .i64 0,.bool false]):=by
 have hc:=Jel l;rw[h] at hc;have HC:=Pe hc;clear hc h;generalize str l=s at HC |-;go_enter func325,ntmps325;go_wp2_with fail;refine(HC.out _).mono ?_;exact Y6
theorem J16(l:List UInt8)(h:posD l=true)(hl:¬l.length<=2)(w:World):
  Pc 325 #[.string (str l)] w (.tuple #[.int .i64 0,.bool false]):=by
 have hc:=Jel l;rw[h] at hc;have HC:=Pe hc;have hz:2<(str l).size:=Qb;have hi:(2:Int)<(str l).size:=Ka;clear hc h hl;generalize str l=s at HC hz hi |-;go_enter func325,ntmps325;go_wp2_with fail;refine(HC.out _).mono ?_;exact Y6
theorem J17(l:List UInt8)(h:posD l=true)(hl:l.length<=2)(hv:¬valN l<60)(w:World):
  Pc 325 #[.string (str l)] w (.tuple #[.int .i64 0,.bool false]):=by
 have hc:=Jel l;rw[h] at hc;have HC:=Pe hc;have HV:=Pe (Jem l ((Jd1 l).1 h).2.2 Ka);have hz:¬2<(str l).size:=Qb;have hd:decide (2<(str l).size)=false:=Pj hz;have hi:¬(2:Int)<(str l).size:=Ka;have hj:decide ((2:Int)<(str l).size)=false:=Pj hi;clear hc h hl;generalize str l=s at HC HV hz hi hd hj |-;go_enter func325,ntmps325;go_wp2_with fail;refine(HC.out _).mono ?_;rintro e w1 ⟨rfl,b1⟩;go_wp2_with fail;refine(HV.out _).mono ?_;rintro e w2 ⟨rfl,b2⟩;go_wp2_with fail;refine(Jew _ Ka _).mono ?_;rintro e w3 ⟨rfl,rfl⟩;exact Us
theorem J5y(l:List UInt8)(h:posD l=true)(hl:l.length<=2)(hv:valN l<60)(w:World):
  Pc 325 #[.string (str l)] w (.tuple #[.int .i64 (valN l),.bool true]):=by
 have hc:=Jel l;rw[h] at hc;have HC:=Pe hc;have HV:=Pe (Jem l ((Jd1 l).1 h).2.2 Ka);have hz:¬2<(str l).size:=Qb;have hd:decide (2<(str l).size)=false:=Pj hz;have hi:¬(2:Int)<(str l).size:=Ka;have hj:decide ((2:Int)<(str l).size)=false:=Pj hi;clear hc h hl;generalize str l=s at HC HV hz hi hd hj |-;go_enter func325,ntmps325;go_wp2_with fail;refine(HC.out _).mono ?_;rintro e w1 ⟨rfl,b1⟩;go_wp2_with fail;refine(HV.out _).mono ?_;rintro e w2 ⟨rfl,b2⟩;go_wp2_with fail;refine(Jdd _ Ka Ka _).mono ?_;rintro e w3 ⟨rfl,rfl⟩;go_wp2_with fail;refine(HV.out _).mono ?_;exact U0
theorem J5z(l:List UInt8)(h:Jdi l=false)(w:World):
  Pc 325 #[.string (str l)] w (.tuple #[.int .i64 0,.bool false]):=by
 cases hp:posD l with
 | false=>exact J15 l hp w
 | true =>
  by_cases h2:l.length<=2
  ·by_cases hv:valN l<60
   ·rw[(Jeb l).2 ⟨hp,h2,hv⟩] at h;cases h
   ·exact J17 l hp h2 hv w
  ·exact J16 l hp h2 w
theorem J18(l:List UInt8)(h:Jdi l=true)(w:World):
  Pc 325 #[.string (str l)] w (.tuple #[.int .i64 (valN l),.bool true]):=by
 obtain⟨hp,h2,hv⟩:=(Jeb l).1 h;exact J5y l hp h2 hv w
theorem Jfd(l:List UInt8):∃v:Int,0<=v/\v<60/\(Jcf l=true->v=valN l)/\∀w:World,
  Pc 355 #[.string (str l)] w (.tuple #[.int .i64 v,.bool (Jcf l)]):=by
 cases h:Jcf l with
 | false=>exact⟨0,Ka,Ka,(fun hx=>by cases hx),J5x l h⟩
 | true=>exact⟨valN l,Ka,by have:=((Jdo l).1 h).2.2;omega,fun _=>rfl,J14 l h⟩
theorem first_any(l:List UInt8):∃v:Int,0<=v/\v<60/\(Jdi l=true->v=valN l)/\∀w:World,
  Pc 325 #[.string (str l)] w (.tuple #[.int .i64 v,.bool (Jdi l)]):=by
 cases h:Jdi l with
 | false=>exact⟨0,Ka,Ka,(fun hx=>by cases hx),J5z l h⟩
 | true=>exact⟨valN l,Ka,by have:=((Jeb l).1 h).2.2;omega,fun _=>rfl,J18 l h⟩
def hRes(found mok sok pos big:Bool)(v m s:Int):Int×Int :=
 if found&&mok&&sok&&pos then(if big then(0,2) else(v*3600+m*60+s,0)) else(0,3)
theorem Jlh(hs ts ms ss:ByteArray)(found mok sok pos big:Bool)(m s:Int)(m0:0<=m)(m1:m<60)(s0:0<=s)(s1:s<60)(v:Int)(v0:0<=v)(v1:v<=99)
  (hc:∀w:World,Pc 245 #[.string ts,.string ⟨#[109]⟩] w (.tuple #[.string ms,.string ss,.bool found]))
  (hm:∀w:World,Pc 355 #[.string ms] w (.tuple #[.int .i64 m,.bool mok]))
  (hz:∀w:World,Pc 355 #[.string ss] w (.tuple #[.int .i64 s,.bool sok]))
  (hp:∀w:World,Pc 356 #[.string hs] w (.bool pos))
  (hb:big=true->(2:Int)<(hs.size:Int)) (hl:big=false->¬(2:Int)<(hs.size:Int))
  (hv:pos=true->big=false->∀w:World,Pc 322 #[.string hs] w (.int .i64 v)) (w:World) :
  Calls prog 323 #[.string hs,.string ts] w fun e w' =>
   e=.returned (.tuple #[.int .i64 (hRes found mok sok pos big v m s).1,.int .i64 (hRes found mok sok pos big v m s).2])/\Po w w':=by
 have HC:=Pe hc;have HM:=Pe hm;have HZ:=Pe hz;have HP:=Pe hp;have HV:=Pe hv;have HB:=Pe hb;have HL:=Pe hl;clear hc hm hz hp hv hb hl;cases found
 ·go_enter func323,ntmps323
  go_wp2_with fail;refine(HC.out _).mono ?_;rintro e w1 ⟨rfl,b1⟩;go_wp2_with fail;refine(HM.out _).mono ?_;rintro e w2 ⟨rfl,b2⟩;go_wp2_with fail;refine(HZ.out _).mono ?_;exact Ur
 cases mok
 ·go_enter func323,ntmps323
  go_wp2_with fail;refine(HC.out _).mono ?_;rintro e w1 ⟨rfl,b1⟩;go_wp2_with fail;refine(HM.out _).mono ?_;rintro e w2 ⟨rfl,b2⟩;go_wp2_with fail;refine(HZ.out _).mono ?_;exact Ur
 cases sok
 ·go_enter func323,ntmps323
  go_wp2_with fail;refine(HC.out _).mono ?_;rintro e w1 ⟨rfl,b1⟩;go_wp2_with fail;refine(HM.out _).mono ?_;rintro e w2 ⟨rfl,b2⟩;go_wp2_with fail;refine(HZ.out _).mono ?_;exact Ur
 cases pos
 ·go_enter func323,ntmps323
  go_wp2_with fail;refine(HC.out _).mono ?_;rintro e w1 ⟨rfl,b1⟩;go_wp2_with fail;refine(HM.out _).mono ?_;rintro e w2 ⟨rfl,b2⟩;go_wp2_with fail;refine(HZ.out _).mono ?_;rintro e w3 ⟨rfl,b3⟩;go_wp2_with fail;refine(HP.out _).mono ?_;exact Yu
 cases big
 ·have i2:=HL.out rfl
  have HW:=Pe (HV.out rfl rfl);clear HV;go_enter func323,ntmps323;go_wp2_with fail;refine(HC.out _).mono ?_;rintro e w1 ⟨rfl,b1⟩;go_wp2_with fail;refine(HM.out _).mono ?_;rintro e w2 ⟨rfl,b2⟩;go_wp2_with fail;refine(HZ.out _).mono ?_;rintro e w3 ⟨rfl,b3⟩;go_wp2_with fail;refine(HP.out _).mono ?_;rintro e w4 ⟨rfl,b4⟩;go_wp2_with fail;refine(HW.out _).mono ?_;rintro e w5 ⟨rfl,b5⟩;go_wp2_with fail;refine(Jev _ _ _ Ka Ka Ka Ka Ka Ka _).mono ?_;rintro e w6 ⟨rfl,rfl⟩;go_wp2_with fail;go_ret2;exact⟨rfl,((b1.trans (b2.mono b1.size)).trans ((b3.trans (b4.mono b3.size)).mono (Nat.le_trans b1.size b2.size))).trans (b5.mono (Nat.le_trans (Nat.le_trans b1.size b2.size) (Nat.le_trans b3.size b4.size)))⟩
 ·have i2:=HB.out rfl
  go_enter func323,ntmps323;go_wp2_with fail;refine(HC.out _).mono ?_;rintro e w1 ⟨rfl,b1⟩;go_wp2_with fail;refine(HM.out _).mono ?_;rintro e w2 ⟨rfl,b2⟩;go_wp2_with fail;refine(HZ.out _).mono ?_;rintro e w3 ⟨rfl,b3⟩;go_wp2_with fail;refine(HP.out _).mono ?_;exact Yu
theorem Jun(l:List UInt8)(hd:digs l=true)(h:l.length<=2):valN l<=99:=by
 have h1:=Jlk l hd;have h2:10 ^ l.length<=10 ^ 2:=Nat.pow_le_pow_right Kd h;omega
theorem J19(H T:List UInt8)(hl:T.length<=9223372036854775807)(w:World):
  Pc 323 #[.string (str H),.string (str T)] w (.tuple #[.int .i64 (Jgn H T).1,.int .i64 (Jgn H T).2]):=by
 have hz:=Jai H;have hsz:∀b:Bool,b=decide (2<H.length)->(b=true->(2:Int)<((str H).size:Int))/\(b=false->¬(2:Int)<((str H).size:Int)):=by
  intro b hb;subst hb;rw[hz];exact Kb
 by_cases h:109∈T
 ·obtain⟨M,S,rfl,hn,e1,e2⟩:=Jmh 109 T h
  obtain⟨m,m0,m1,me,cm⟩:=Jfd M;obtain⟨s,s0,s1,se,cs⟩:=Jfd S;have key:=Jlh (str H) (str (M++109::S)) (str M) (str S) true (Jcf M) (Jcf S) (posD H) (decide (2<H.length)) m s m0 m1 s0 s1 (if posD H=true/\H.length<=2 then valN H else 0)
   (by split <;> omega) (by split;· have:=Jun H ((Jd1 H).1 (by simp_all)).2.2 (by simp_all);omega
                            ·omega)
   (Jmw 109 M S hn hl) cm cs (Jel H) (hsz _ rfl).1 (hsz _ rfl).2
   (fun hp hb=>by
    have hb2:H.length<=2:=Zh;rw[if_pos ⟨hp,hb2⟩];exact Jem H ((Jd1 H).1 hp).2.2 Ka) w
  have e:hRes true (Jcf M) (Jcf S) (posD H) (decide (2<H.length)) (if posD H=true/\H.length<=2 then valN H else 0) m s=Jgn H (M++109::S):=by
   unfold hRes Jgn;rw[e1,e2];cases hM:Jcf M with
   | false=>simp
   | true =>
    cases hS:Jcf S with
    | false=>simp
    | true =>
     cases hP:posD H with
     | false=>simp
     | true =>
      rw[me hM,se hS];by_cases h2:2<H.length
      ·exact Ye
      ·simp[h2,show H.length<=2 by omega]
  rw[e] at key;exact key
 ·obtain⟨m,m0,m1,_,cm⟩:=Jfd T
  obtain⟨s,s0,s1,_,cs⟩:=Jfd [];have key:=Jlh (str H) (str T) (str T) (str []) false (Jcf T) (Jcf []) (posD H) (decide (2<H.length)) m s m0 m1 s0 s1 (if posD H=true/\H.length<=2 then valN H else 0)
   (by split <;> omega) (by split;· have:=Jun H ((Jd1 H).1 (by simp_all)).2.2 (by simp_all);omega
                            ·omega)
   (Jez 109 T h) cm cs (Jel H) (hsz _ rfl).1 (hsz _ rfl).2
   (fun hp hb=>by
    have hb2:H.length<=2:=Zh;rw[if_pos ⟨hp,hb2⟩];exact Jem H ((Jd1 H).1 hp).2.2 Ka) w
  have e:hRes false (Jcf T) (Jcf []) (posD H) (decide (2<H.length)) (if posD H=true/\H.length<=2 then valN H else 0) m s=Jgn H T:=by
   unfold hRes Jgn;simp[h]
  rw[e] at key;exact key
def mRes(mok sok:Bool)(m s:Int):Int×Int:=if mok&&sok then(m*60+s,0) else(0,3)
theorem Jp9(ms ss:ByteArray)(mok sok:Bool)(m s:Int)(m0:0<=m)(m1:m<60)(s0:0<=s)(s1:s<60)
  (hm:∀w:World,Pc 325 #[.string ms] w (.tuple #[.int .i64 m,.bool mok]))
  (hz:∀w:World,Pc 355 #[.string ss] w (.tuple #[.int .i64 s,.bool sok])) (w:World) :
  Pc 324 #[.string ms,.string ss] w (.tuple #[.int .i64 (mRes mok sok m s).1,.int .i64 (mRes mok sok m s).2]):=by
 have HM:=Pe hm;have HZ:=Pe hz;clear hm hz;cases mok
 ·go_enter func324,ntmps324
  go_wp2_with fail;refine(HM.out _).mono ?_;rintro e w1 ⟨rfl,b1⟩;go_wp2_with fail;refine(HZ.out _).mono ?_;exact U3
 cases sok
 ·go_enter func324,ntmps324
  go_wp2_with fail;refine(HM.out _).mono ?_;rintro e w1 ⟨rfl,b1⟩;go_wp2_with fail;refine(HZ.out _).mono ?_;exact U3
 ·go_enter func324,ntmps324
  go_wp2_with fail;refine(HM.out _).mono ?_;rintro e w1 ⟨rfl,b1⟩;go_wp2_with fail;refine(HZ.out _).mono ?_;rintro e w2 ⟨rfl,b2⟩;go_wp2_with fail;refine(Jev 0 m s Ka Ka Ka Ka Ka Ka _).mono ?_;rintro e w3 ⟨rfl,rfl⟩;go_wp2_with fail;go_ret2;exact⟨J8w (by simp[mRes]) rfl,b1.trans (b2.mono b1.size)⟩
theorem Jr4(M S:List UInt8)(w:World):
  Pc 324 #[.string (str M),.string (str S)] w (.tuple #[.int .i64 (Jeu M S).1,.int .i64 (Jeu M S).2]):=by
 obtain⟨m,m0,m1,me,cm⟩:=first_any M;obtain⟨s,s0,s1,se,cs⟩:=Jfd S;have key:=Jp9 (str M) (str S) (Jdi M) (Jcf S) m s m0 m1 s0 s1 cm cs w;have e:mRes (Jdi M) (Jcf S) m s=Jeu M S:=by
  unfold mRes Jeu;cases hM:Jdi M with
  | false=>simp
  | true =>
   cases hS:Jcf S with
   | false=>simp
   | true=>rw[me hM,se hS];simp
 rw[e] at key;exact key
theorem Qbk(l:List UInt8)(hn:List.isSuffixOf [115] l=false)(hl:l.length<=9223372036854775807)(w:World):
  Pc 255 #[.string (str l)] w (.tuple #[.int .i64 0,.int .i64 3]):=by
 have HC:=Pe (Jji 115 l hn hl);clear hn hl;generalize str l=s at HC |-;go_enter func255,ntmps255;go_wp2_with fail;refine(HC.out _).mono ?_;rintro e w1 ⟨rfl,rfl⟩;exact Jr
theorem pd_h(s r H T:ByteArray)(v e0:Int)
  (hc:∀w:World,Pb 39 #[.string s,.string ⟨#[115]⟩] w (.tuple #[.string r,.bool true]))
  (hh:∀w:World,Pc 245 #[.string r,.string ⟨#[104]⟩] w (.tuple #[.string H,.string T,.bool true]))
  (hp:∀w:World,Pc 323 #[.string H,.string T] w (.tuple #[.int .i64 v,.int .i64 e0])) (w:World) :
  Pc 255 #[.string s] w (.tuple #[.int .i64 v,.int .i64 e0]):=by
 have HC:=Pe hc;have HH:=Pe hh;have HP:=Pe hp;clear hc hh hp;go_enter func255,ntmps255;go_wp2_with fail;refine(HC.out _).mono ?_;rintro e w1 ⟨rfl,rfl⟩;go_wp2_with fail;refine(HH.out _).mono ?_;rintro e w1 ⟨rfl,b1⟩;go_wp2_with fail;refine(HP.out _).mono ?_;exact U3
theorem pd_m(s r M S:ByteArray)(v e0:Int)
  (hc:∀w:World,Pb 39 #[.string s,.string ⟨#[115]⟩] w (.tuple #[.string r,.bool true]))
  (hh:∀w:World,Pc 245 #[.string r,.string ⟨#[104]⟩] w (.tuple #[.string r,.string (str []),.bool false]))
  (hm:∀w:World,Pc 245 #[.string r,.string ⟨#[109]⟩] w (.tuple #[.string M,.string S,.bool true]))
  (hp:∀w:World,Pc 324 #[.string M,.string S] w (.tuple #[.int .i64 v,.int .i64 e0])) (w:World) :
  Pc 255 #[.string s] w (.tuple #[.int .i64 v,.int .i64 e0]):=by
 have HC:=Pe hc;have HH:=Pe hh;have HM:=Pe hm;have HP:=Pe hp;clear hc hh hm hp;go_enter func255,ntmps255;go_wp2_with fail;refine(HC.out _).mono ?_;rintro e w1 ⟨rfl,rfl⟩;go_wp2_with fail;refine(HH.out _).mono ?_;rintro e w1 ⟨rfl,b1⟩;go_wp2_with fail;refine(HM.out _).mono ?_;rintro e w2 ⟨rfl,b2⟩;go_wp2_with fail;refine(HP.out _).mono ?_;exact Ur
theorem Qbl(s r:ByteArray)(h0:(r.toList==[48])=true)
  (hc:∀w:World,Pb 39 #[.string s,.string ⟨#[115]⟩] w (.tuple #[.string r,.bool true]))
  (hh:∀w:World,Pc 245 #[.string r,.string ⟨#[104]⟩] w (.tuple #[.string r,.string (str []),.bool false]))
  (hm:∀w:World,Pc 245 #[.string r,.string ⟨#[109]⟩] w (.tuple #[.string r,.string (str []),.bool false])) (w:World) :
  Pc 255 #[.string s] w (.tuple #[.int .i64 0,.int .i64 0]):=by
 have HC:=Pe hc;have HH:=Pe hh;have HM:=Pe hm;clear hc hh hm;go_enter func255,ntmps255;go_wp2_with fail;refine(HC.out _).mono ?_;rintro e w1 ⟨rfl,rfl⟩;go_wp2_with fail;refine(HH.out _).mono ?_;rintro e w1 ⟨rfl,b1⟩;go_wp2_with fail;refine(HM.out _).mono ?_;exact U3
theorem pd_s(s r:ByteArray)(h0:(r.toList==[48])=false)(v:Int)(ok:Bool)
  (hc:∀w:World,Pb 39 #[.string s,.string ⟨#[115]⟩] w (.tuple #[.string r,.bool true]))
  (hh:∀w:World,Pc 245 #[.string r,.string ⟨#[104]⟩] w (.tuple #[.string r,.string (str []),.bool false]))
  (hm:∀w:World,Pc 245 #[.string r,.string ⟨#[109]⟩] w (.tuple #[.string r,.string (str []),.bool false]))
  (hf:∀w:World,Pc 325 #[.string r] w (.tuple #[.int .i64 v,.bool ok])) (w:World) :
  Pc 255 #[.string s] w (.tuple #[.int .i64 (bif ok then v else 0),.int .i64 (bif ok then 0 else 3)]):=by
 have HC:=Pe hc;have HH:=Pe hh;have HM:=Pe hm;have HF:=Pe hf;clear hc hh hm hf;cases ok;all_goals
  simp only[cond_true,cond_false];go_enter func255,ntmps255;go_wp2_with fail;refine(HC.out _).mono ?_;rintro e w1 ⟨rfl,rfl⟩;go_wp2_with fail;refine(HH.out _).mono ?_;rintro e w1 ⟨rfl,b1⟩;go_wp2_with fail;refine(HM.out _).mono ?_;rintro e w2 ⟨rfl,b2⟩;go_wp2_with fail;refine(HF.out _).mono ?_;exact Ur
theorem parseDur_any(l:List UInt8)(hl:l.length<=9223372036854775807)(w:World):
  Pc 255 #[.string (str l)] w (.tuple #[.int .i64 (durR l).1,.int .i64 (durR l).2]):=by
 cases hs:List.isSuffixOf [115] l with
 | false =>
  have e:durR l=(0,3):=by unfold durR;rw[hs];rfl
  rw[e];exact Qbk l hs hl w
 | true =>
  obtain⟨r,rfl,er⟩:=Jpb l hs;have e:durR (r++[115])=Jjb r:=by unfold durR;rw[if_pos hs,er]
  rw[e];have hr:r.length<=9223372036854775807:=by simp at hl;omega
  have hc:=Jlb 115 r hl;by_cases hh:104∈r
  ·obtain⟨H,T,rfl,hn,e1,e2⟩:=Jmh 104 r hh
   have e:Jjb (H++104::T)=Jgn H T:=by unfold Jjb;rw[if_pos hh,e1,e2]
   rw[e];exact pd_h _ _ _ _ _ _ hc (Jmw 104 H T hn hr) (J19 H T (by simp at hr;omega)) w
  ·by_cases hm:109∈r
   ·obtain⟨M,S,rfl,hn,e1,e2⟩:=Jmh 109 r hm
    have e:Jjb (M++109::S)=Jeu M S:=by unfold Jjb;rw[if_neg hh,if_pos hm,e1,e2]
    rw[e];exact pd_m _ _ _ _ _ _ hc (Jez 104 _ hh) (Jmw 109 M S hn hr) (Jr4 M S) w
   ·by_cases h0:r=[48]
    ·have e:Jjb r=(0,0):=by unfold Jjb;rw[if_neg hh,if_neg hm,if_pos h0]
     rw[e];exact Qbl _ _ (by rw[Lib.toList_data,h0];rfl) hc (Jez 104 _ hh) (Jez 109 _ hm) w
    ·obtain⟨v,_,_,ve,cf⟩:=first_any r
     have e:Jjb r=(bif Jdi r then v else 0,bif Jdi r then 0 else 3):=by
      unfold Jjb;rw[if_neg hh,if_neg hm,if_neg h0];cases hF:Jdi r with
      | false=>rfl
      | true=>rw[ve hF];rfl
     rw[e];exact pd_s _ _ (by
      rw[Lib.toList_data,beq_eq_false_iff_ne];exact h0) v (Jdi r) hc (Jez 104 _ hh) (Jez 109 _ hm) cf w
open Go
end S1
section
open Go.RowKit
structure Gw (F_:Fm) (w0:World):Prop where
 num:∀n,-9223372036854775808<=n->n<=9223372036854775807->∀w:World,Po w0 w->Pc 59 #[.int .i64 n] w (.string (str (F_.numT n)))
 prc:∀n,0<=n->n<=1000000->∀w:World,Po w0 w->Pc 66 #[.int .i64 n] w (.string (str (F_.prcT n)))
 tim:∀n,0<=n->n<=172800->∀w:World,Po w0 w->Pc 63 #[.int .i64 n] w (.string (str (F_.timT n)))
 dur:∀n,0<=n->n<=86400->∀w:World,Po w0 w->Pc 65 #[.int .i64 n] w (.string (str (F_.durT n)))
 day:∀n,0<=n->n<=36524->∀w:World,Po w0 w->Pc 62 #[.int .i64 n] w (.string (str (F_.dayT n)))
 mds:∀n,0<=n->n<=255->∀w:World,Po w0 w->Pc 67 #[.int .i64 n] w (.tuple #[.string (str (F_.mdsT n)),.int .i64 0])
theorem Juo(b:Bool)(w:World):Calls prog 60 #[.bool b] w fun e w'=>e=.returned (.string (str (flgT b)))/\w'=w:=by
 cases b <;>
 ·go_enter func60,ntmps60
  exact Kc
theorem Jr5(b:Bool)(w:World):Calls prog 60 #[.bool b] w fun e w'=>e=.returned (.string (str (flgT b)))/\Po w w' :=
 (Juo b w).mono fun _ _ h=>⟨h.1,Uz⟩
theorem J2a(s a d:Int)(b l:Bool)(w:World):Pc 64 #[.agg #[.int .i64 s,.int .i64 a,.int .i64 d,.bool b,.bool l]] w (.string (str (prmT b l))):=by
 cases b <;> cases l <;>
 ·go_enter func64,ntmps64
  exact Yw
section
variable {w:World} {n:Int} {s:ByteArray} {e:Int}
theorem Jwo(C:Pc 150 #[.int .i64 n] w (.tuple #[.string s,.int .i64 e])):Pc 63 #[.int .i64 n] w (.string s):=by
 have C:=Pe C;go_enter func63,ntmps63;go_wp2_with fail;refine C.out.mono ?_;exact Uq
theorem Jr6(C:Pc 151 #[.int .i64 n] w (.tuple #[.string s,.int .i64 e])):Pc 65 #[.int .i64 n] w (.string s):=by
 have C:=Pe C;go_enter func65,ntmps65;go_wp2_with fail;refine C.out.mono ?_;exact Uq
theorem J50(C:Pc 149 #[.int .i64 n] w (.tuple #[.string s,.int .i64 e])):Pc 62 #[.int .i64 n] w (.string s):=by
 have C:=Pe C;go_enter func62,ntmps62;go_wp2_with fail;refine C.out.mono ?_;exact Uq
theorem Jwp(C:Pc 152 #[.int .i64 n] w (.tuple #[.string s,.int .i64 e])):Pc 66 #[.int .i64 n] w (.string s):=by
 have C:=Pe C;go_enter func66,ntmps66;go_wp2_with fail;refine C.out.mono ?_;exact Uq
end
def tx(R:List (List Bs)):ByteArray:=str (Jax (R.map Jan))
def rx(fs:List Bs):ByteArray:=str (Jan fs)++str [10]
theorem J8r(R:List (List Bs))(fs:List Bs):tx R++rx fs=tx (R++[fs]):=by
 unfold tx rx;rw[Jas,Jas,List.map_append,Jja];congr 1;simp[Jax]
theorem rx_le{fs:List Bs}(h:Shr fs):(rx fs).size<=70000:=by
 have:=h.line;unfold rx;rw[Jas,Jai,Pq,List.length_singleton];omega
def Tx(R:List (List Bs))(n:Nat)(s:Value):Prop:=s=.string (tx R)/\Hid ((tx R).size<=70000*n)
theorem Tx.nil:Tx [] 0 (.string { data:=#[] }):=⟨rfl,Pe Ph⟩
section
variable {R:List (List Bs)} {n:Nat} {fs:List Bs}
theorem Jjt(h:(tx R).size<=70000*n)(hs:Shr fs):(tx R).size+(rx fs).size<=70000*(n+1):=by
 have:=rx_le hs;omega
theorem Tx.fit(h:Hid ((tx R).size<=70000*n))(hn:n<=20000)(hs:Shr fs):¬9223372036854775807<(tx R).size+(rx fs).size:=by
 have:=Jjt h.out hs;omega
theorem Tx.add(h:Hid ((tx R).size<=70000*n))(hs:Shr fs):Tx (R++[fs]) (n+1) (.string (tx R++rx fs)):=by
 refine⟨by rw[J8r],Pe ?_⟩;rw[<-J8r,ByteArray.size_append];exact Jjt h.out hs
theorem Tx.mono{m:Nat}{s:Value}(h:Tx R n s)(hm:n<=m):Tx R m s:=⟨h.1,Pe (Nat.le_trans h.2.out (Nat.mul_le_mul_left _ hm))⟩
end
variable {Z X:World} {P:Program} {v:Value}
theorem Jna{w:World}(f:Value)(fs:List Bs)(hf:Lst w f fs)(hs:Shr fs):Pc 58 #[f] w (.string (rx fs)):=by
 have h7:=hs.line;have e:S4.joinR fs=(Jan fs,0):=by
  have:=hs.1;unfold S4.joinR;rw[if_neg Ka,if_neg Ka]
 have C:=S4.rjoin_any f fs (by have:=hs.1;omega) (fun x hx=>by have:=hs.2 x hx;omega) w hf;rw[e] at C;have C:=Pe C;have g:¬9223372036854775807<(Jan fs).length+1:=Ka;clear hf hs e h7;go_enter func58,ntmps58;go_wp2_with fail;refine C.out.mono ?_;exact Uq
theorem Ja4{a w:World}(h:Po a w)(o:Obj):Po a (w.alloc o):=h.alloc h.size o
theorem Jb3{f:FuncId}{vals:Array Value}{w:World}(C:∀X,Po w X->Calls P f vals X fun e w'=>e=.returned v/\Po X w')(b:Po w Z)(h:Po Z X):
  Calls P f vals X fun e w'=>e=.returned v/\Po Z w' :=
 (C X (b.trans (h.mono b.size))).mono fun _ _ q=>⟨q.1,h.trans (q.2.mono h.size)⟩
theorem Jd6{o:Obj}{f:Value}{fs:List Bs}(hf:Lst (X.alloc o) f fs)(hs:Shr fs)(h:Po Z X):
  Calls prog 58 #[f] (X.alloc o) fun e w'=>e=.returned (.string (rx fs))/\Po Z w' :=
 (Jna f fs hf hs).mono fun _ _ q=>⟨q.1,(Ja4 h o).trans (q.2.mono (Ja4 h o).size)⟩
theorem Jqa{o:Obj}{f:Value}{fs:List Bs}(hf:Lst (Z.alloc o) f fs)(hs:Shr fs):
  Calls prog 58 #[f] (Z.alloc o).drew fun e w'=>e=.returned (.string (rx fs))/\Po Z w':=by
 have bd:Below (Z.alloc o).heap.size (Z.alloc o) (Z.alloc o).drew:=(Below.refl _ _).drew;have bz:=Ja4 (Below.refl Z.heap.size Z) o;exact(Jna f fs (hf.below bd) hs).mono fun _ _ q=>⟨q.1,bz.trans ((bd.trans (q.2.mono bd.size)).mono bz.size)⟩
theorem Jwq{w:World}{g o:Nat}(h:w.cell? ⟨g,o,none⟩=some v):g<w.heap.size:=by
 by_cases hl:g<w.heap.size
 ·exact hl
 ·exfalso
  have e:w.heap[g]?=none:=Array.getElem?_eq_none Ka;simp[World.cell?,e] at h
theorem J51(h:World.drew Z=X)(m:Nat)(hm:m<8):Calls prog 61 #[] X fun e w'=>e=.returned (.slice (some ⟨Z.heap.size,0,none⟩) 8 8)/\w'.cell? ⟨Z.heap.size,0+m*1,none⟩=some (.string (str (nmR m)))/\Z.heap.size<w'.heap.size/\Po Z w':=by
 subst h;have bd:Po Z Z.drew:=(Below.refl _ _).drew;refine(S15.rnames_any _).mono fun e w' q=>⟨q.1,?_,?_,bd.trans (q.2.2.mono bd.size)⟩
 ·have:=q.2.1 m hm
  rwa [show 0+m*1=m by omega]
 ·have:=q.2.1 0 Kd
  exact Jwq this
theorem monoT{md:Region.Mode}{ops:Array Oper}{Q:Exit->Act->World->Prop}{S S':World->Prop}{T:List Sk}{fuel:Nat}{l:List Bool}{a:Act}{w:World}(h:∀X,S' X->S X)(H:wpT P md ops Q S' T fuel l a w):wpT P md ops Q S T fuel l a w :=
 fun h1 h2=>Jjp h _ _ _ _ (H h1 h2)
theorem J52{a:Act}{oi:Oper}{w:World}(t t':TypeId)(x y:Operand)(ho:oi.op=.binOp .add t x y t')(s r:ByteArray)(hx:a.eval x=.string s)(hy:a.eval y=.string r)(g:¬9223372036854775807<s.size+r.size):
  (execOp a.eval oi).run P w=.ok (.value (.string (s++r))) w:=by
 unfold execOp;simp only[ho,hx,hy];go_simp
theorem Qbm(wd:Nat->Bool){j:Nat}(h:j<7):(wkT wd).take (j+1)=(wkT wd).take j++[if wd j then 49 else 48]:=by
 rcases (by omega:j=0\/j=1\/j=2\/j=3\/j=4\/j=5\/j=6) with rfl | rfl | rfl | rfl | rfl | rfl | rfl <;> rfl
theorem J2b{w:World}{b:Nat}{x y:Value}{T:TypeId}{wd:Nat->Bool}{j:Nat}(k:w.heap[b]?=some (.cells #[v,.bool (wd 0),.bool (wd 1),.bool (wd 2),.bool (wd 3),.bool (wd 4),.bool (wd 5),.bool (wd 6),x,y] T (0,0)))(h:j<7):
  w.cell? ⟨b,1+j,none⟩=some (.bool (wd j)):=by
 rw[cell_of_row _ _ _ _ _ _ k];rcases (by omega:j=0\/j=1\/j=2\/j=3\/j=4\/j=5\/j=6) with rfl | rfl | rfl | rfl | rfl | rfl | rfl <;> rfl
theorem J2c(w0:World):Gw fmR w0 where
 num:=fun n h0 h1 w _=>(S3.rformat_any n h0 h1 w).mono fun _ _ h=>⟨h.1,Uy⟩
 prc:=fun n h0 h1 w _=>Jwp ((S3.rfprice_yes n n.toNat (Int.toNat_of_nonneg h0).symm h1 w).mono fun _ _ h=>⟨h.1,Uy⟩)
 tim:=fun n h0 h1 w _=>Jwo (Jrh n h0 h1 w)
 dur:=fun n h0 h1 w _=>Jr6 (Jri n h0 Ka w)
 day:=fun n h0 h1 w _=>by
  obtain⟨x,y⟩:=J03 n.toNat 1200 (by rw[S2.bef_end];omega);have:=S2.rdformat_yes (monD 1200 n.toNat) n.toNat y x w;rw[Int.toNat_of_nonneg h0] at this;exact J50 this
 mds:=fun n h0 h1 w _=>by
  have:=S15.rfmt_any n w;have e:Go.Proofs.YtpifdbphmnifdaaGreatDoor.fmtR n=(textR n.toNat,0):=U2;rw[e] at this;exact this
theorem Jwr{F_:Fm}{w:World}{A0 A1 A2 A3 A4 A5 A6 A7 A8 A9:Option Addr}{n0 n1 n2 n3 n4 n5 n6 n7 n8 n9:Nat}{T:Tt}(GW:Gw F_ w)
  (HL:S13.LstS w (.slice A0 T.st.length n0) T.st/\S15.LstR w (.slice A1 T.ro.length n1) T.ro/\S14.LstC w (.slice A2 T.ca.length n2) T.ca/\S14.LstX w (.slice A3 T.ex.length n3) T.ex/\Jcs w (.slice A4 T.tr.length n4) T.tr/\LstF w (.slice A5 T.fr.length n5) T.fr/\S19.LstH w (.slice A6 T.th.length n6) T.th/\S19.LstU w (.slice A7 T.gu.length n7) T.gu/\S20.LstF w (.slice A8 T.pa.length n8) T.pa/\S21.LstPd w (.slice A9 T.pr.length n9) T.pr) (V:Val T) (L:Lim T) (SH:Sht F_) :
  Pc 35 #[.agg #[.slice A0 T.st.length n0,.slice A1 T.ro.length n1,.slice A2 T.ca.length n2,.slice A3 T.ex.length n3,.slice A4 T.tr.length n4,.slice A5 T.fr.length n5,.slice A6 T.th.length n6,.slice A7 T.gu.length n7,.slice A8 T.pa.length n8,.slice A9 T.pr.length n9,.int .i64 T.di,.int .i64 T.wi,.int .i64 T.cp]] w (.string (tx ((((T.st.map (rSt F_))++T.ro.map (rRo))++T.ca.map (rCa F_))++T.ex.map (rEx F_ T)))):=by
 suffices hs:∀Z:World->Prop,(∀w',Po w w'->Z w')->Calls prog 35 #[.agg #[.slice A0 T.st.length n0,.slice A1 T.ro.length n1,.slice A2 T.ca.length n2,.slice A3 T.ex.length n3,.slice A4 T.tr.length n4,.slice A5 T.fr.length n5,.slice A6 T.th.length n6,.slice A7 T.gu.length n7,.slice A8 T.pa.length n8,.slice A9 T.pr.length n9,.int .i64 T.di,.int .i64 T.wi,.int .i64 T.cp]] w fun e w'=>e=.returned (.string (tx ((((T.st.map (rSt F_))++T.ro.map (rRo))++T.ca.map (rCa F_))++T.ex.map (rEx F_ T))))/\Z w' from hs _ (fun _ h=>h)
 intro Z hZ;have HZ:=Pe hZ;have GW:=Pe GW;have HH:=Pe HL;clear HL hZ;obtain⟨w3,h3⟩:=Pi (w.alloc (Ja8 A0 A1 A2 A3 A4 A5 A6 A7 A8 A9 n0 n1 n2 n3 n4 n5 n6 n7 n8 n9 T));have b3:Po w w3:=Uu;have k3:w3.heap[w.heap.size]?=some (Ja8 A0 A1 A2 A3 A4 A5 A6 A7 A8 A9 n0 n1 n2 n3 n4 n5 n6 n7 n8 n9 T):=Ux;have l3:w.heap.size<w3.heap.size:=(Pn k3).1;have KB:=Pe (fun(Y:World) (h:Po w3 Y)=>(h.block _ l3).trans k3);have B3:=Pe b3;have p0:w3.cell? ⟨w.heap.size,0,none⟩=some (.slice A0 T.st.length n0):=Up;clear b3 k3;go_enter func35,ntmps35;go_wp2_with fail;clear p0 h3;go_loopw [3,4] (fun s i wr=>∃k:Nat,i=.int .i64 k/\k<=T.st.length/\Tx ([]++(T.st.take k).map (rSt F_)) (0+k) s/\Hid (Po w3 wr)) (fun _ i _=>T.st.length - (intOf i).toNat);case atStart=>exact⟨0,rfl,Nat.zero_le _,U1,Pe Pg⟩
 case round =>
  obtain⟨k,rfl,hk,⟨rfl,HZS⟩,HX⟩:=hrel;have p0:wr.cell? ⟨w.heap.size,0,none⟩=some (.slice A0 T.st.length n0):=Uk;by_cases hlt:k<T.st.length
  ·have gk:(0:Int)<=(k:Int)/\(k:Int)<(T.st.length:Int):=⟨Ka,Ka⟩
   obtain⟨⟨id,z,f,ch⟩,hx⟩:=Jah hlt;have hm:=List.mem_of_getElem? hx;obtain⟨⟨v0,v1⟩,v2,v3⟩:=V.st _ hm;dsimp only at v0 v1 v2 v3;have SR:=Pe (J1o V L SH hm);clear hm;obtain⟨nm,hnm⟩:=Pi (str id);obtain⟨b,o,rfl,hb,r0,r1,r2,r3⟩:=S13.four_at ((HH.out.1).below (B3.out.trans (HX.out.mono B3.out.size))) hx hnm;obtain⟨w7,h7⟩:=Pi (wr.alloc (.cells #[.string nm,.int .i64 z,.bool f,.int .i64 ch] 112 (0,0)));have b7:Po wr w7:=Uj;have k7:w7.heap[wr.heap.size]?=some (.cells #[.string nm,.int .i64 z,.bool f,.int .i64 ch] 112 (0,0)):=Ui;have l7:wr.heap.size<w7.heap.size:=(Pn k7).1;have B7:=Pe (HX.out.trans (b7.mono HX.out.size));have SF:Hid (∀W:World,Po w7 W->W.cell? ⟨wr.heap.size,0,none⟩=some (.string nm)/\W.cell? ⟨wr.heap.size,1,none⟩=some (.int .i64 z)/\W.cell? ⟨wr.heap.size,2,none⟩=some (.bool f)/\W.cell? ⟨wr.heap.size,3,none⟩=some (.int .i64 ch)):=Pe (fun W h=>⟨Ug,Ug,Ug,Ug⟩);have KW:=Pe k7;clear b7 k7;have lb:=L.st;have gz:=Tx.fit HZS Ka SR.out;obtain⟨sx,hsx⟩:=Pi (tx ([]++(T.st.take k).map (rSt F_)));rw[hsx] at gz |-;have HSX:=Pe hsx;clear hsx;go_wp2_with fail;try rw[h7]
   go_region_held3 (fun W=>W.cell? ⟨wr.heap.size,0,none⟩=some (.string nm)/\W.cell? ⟨wr.heap.size,1,none⟩=some (.int .i64 z)/\W.cell? ⟨wr.heap.size,2,none⟩=some (.bool f)/\W.cell? ⟨wr.heap.size,3,none⟩=some (.int .i64 ch)) (first | assumption | exact SF.out _ Uf) (first
    | (go_at_call 59;with_reducible refine(Jb3 (GW.out.num z v0 v1) (B3.out.trans (B7.out.mono B3.out.size)) (Ut:Po w7 _)).mono ?_;rintro _ x1 ⟨rfl,e1⟩;have s1:=SF.out _ e1)
    | (go_at_call 60;with_reducible refine(Jb3 (fun X (_:Po w X)=>Jr5 f X) (B3.out.trans (B7.out.mono B3.out.size)) e1).mono ?_;rintro _ x2 ⟨rfl,e2⟩;have s2:=SF.out _ e2)
    | (go_at_call 59;with_reducible refine(Jb3 (GW.out.num ch v2 v3) (B3.out.trans (B7.out.mono B3.out.size)) e2).mono ?_;rintro _ x3 ⟨rfl,e3⟩;have s3:=SF.out _ e3)
    | (go_at_call 58;refine(Jd6 (Jay _ _ (rSt F_ (id,z,f,ch)) Uw 5 rfl) (SR.out) e3).mono ?_;rintro _ xz ⟨rfl,ez⟩;have sz:=SF.out _ ez))
   go_wp2_with fail;go_roundw;case rel=>exact⟨k+1,Kj,Ka,Ul,Pe (B7.out.trans (ez.mono B7.out.size))⟩
   case measure=>exact Q7
  ·have d:decide (k<T.st.length)=false:=Kg
   have hT:T.st.take k=T.st:=List.take_of_length_le Ka;rw[hT,List.nil_append] at HZS |-;clear hT hlt;have TX0:Tx (T.st.map (rSt F_)) 64 _:=Tx.mono ⟨rfl,HZS⟩ (by have:=L.st;omega:0+k<=64);clear HZS hk;go_wp2_with fail;clear p0 d;go_loopw [3,6] (fun s i wr=>∃k:Nat,i=.int .i64 k/\k<=T.ro.length/\Tx ((T.st.map (rSt F_))++(T.ro.take k).map (rRo)) (64+k) s/\Hid (Po w3 wr)) (fun _ i _=>T.ro.length - (intOf i).toNat);case atStart=>exact⟨0,rfl,Nat.zero_le _,Um,Pe HX.out⟩
   case round =>
    clear HX TX0;obtain⟨k,rfl,hk,⟨rfl,HZS⟩,HX⟩:=hrel;have p1:wr.cell? ⟨w.heap.size,1,none⟩=some (.slice A1 T.ro.length n1):=Uk;by_cases hlt:k<T.ro.length
    ·have gk:(0:Int)<=(k:Int)/\(k:Int)<(T.ro.length:Int):=⟨Ka,Ka⟩
     obtain⟨⟨id,mo,f⟩,hx⟩:=Jah hlt;have hm:=List.mem_of_getElem? hx;obtain⟨v0,v1⟩:=V.ro _ hm;dsimp only at v0 v1;have SR:=Pe (J1v L hm);clear hm;obtain⟨mo,q0⟩:∃m:Nat,mo=(m:Int):=⟨mo.toNat,Ka⟩;subst q0;have gm:(0:Int)<=(mo:Int)/\(mo:Int)<8:=⟨Ka,Ka⟩;obtain⟨nm,hnm⟩:=Pi (str id);obtain⟨b,o,rfl,hb,r0,r1,r2⟩:=S15.three_at ((HH.out.2.1).below (B3.out.trans (HX.out.mono B3.out.size))) hx hnm;obtain⟨w7,h7⟩:=Pi (wr.alloc (.cells #[.string nm,.int .i64 (mo:Int),.bool f] 114 (0,0)));have b7:Po wr w7:=Uj;have k7:w7.heap[wr.heap.size]?=some (.cells #[.string nm,.int .i64 (mo:Int),.bool f] 114 (0,0)):=Ui;have l7:wr.heap.size<w7.heap.size:=(Pn k7).1;have B7:=Pe (HX.out.trans (b7.mono HX.out.size));have SF:Hid (∀W:World,Po w7 W->W.cell? ⟨wr.heap.size,0,none⟩=some (.string nm)/\W.cell? ⟨wr.heap.size,1,none⟩=some (.int .i64 (mo:Int))/\W.cell? ⟨wr.heap.size,2,none⟩=some (.bool f)):=Pe (fun W h=>⟨Ug,Ug,Ug⟩);have KW:=Pe k7;clear b7 k7;have lb:=L.ro;have gz:=Tx.fit HZS Ka SR.out;obtain⟨sx,hsx⟩:=Pi (tx ((T.st.map (rSt F_))++(T.ro.take k).map (rRo)));rw[hsx] at gz |-;have HSX:=Pe hsx;clear hsx;obtain⟨w7d,hw7d⟩:=Pi (World.drew w7);have dw:Po w7 w7d:=Uo;go_wp2_with fail;refine Jbf (S:=fun W=>W.cell? ⟨wr.heap.size,0,none⟩=some (.string nm)/\W.cell? ⟨wr.heap.size,1,none⟩=some (.int .i64 (mo:Int))/\W.cell? ⟨wr.heap.size,2,none⟩=some (.bool f)) _ 15 rfl Kl Kl Kl (Jbl 15 0) Kl (by rw[hw7d];exact SF.out _ dw) (fun _=>?_);rw[hw7d];refine Jbb (L:=[(0,54,.string sx),(1,55,pt wr.heap.size 0),(2,56,.string nm),(4,58,pt wr.heap.size 1),(5,59,.int .i64 (mo:Int)),(8,62,pt wr.heap.size 2),(9,63,.bool f)]) (.q (.q (.cons rfl rfl (.inl ⟨rfl,fun _ h=>Un⟩) (.q (.cons rfl rfl (.inl ⟨rfl,fun _ h=>Un⟩) (.q (.cons rfl rfl (.inl ⟨rfl,fun _ h=>Un⟩) .nil))))))) [0,1,2,4,5,8,9] rfl rfl Kl (fun _ _ _ _ _ h=>h) (SF.out _ dw) ?_;refine Jb7 (i:=3) (R:=fun u X=>u=.slice (some ⟨w7.heap.size,0,none⟩) 8 8/\X.cell? ⟨w7.heap.size,0+mo*1,none⟩=some (.string (str (nmR mo)))/\w7.heap.size<X.heap.size/\Po w7 X) 57 _ rfl Kl rfl rfl rfl Kl ((J51 hw7d mo Ka).mono fun e w' h=>⟨_,h.1,rfl,h.2⟩) ?_;rintro u x1 ⟨rfl,cn,l1,e1⟩;refine⟨SF.out _ e1,?_⟩;refine monoT (S':=fun X=>Po x1 X) (fun X b=>SF.out _ (e1.trans (b.mono e1.size))) ?_;refine Jbb (L:=[(6,60,pt w7.heap.size (0+mo*1)),(7,61,.string (str (nmR mo)))]) (.cons rfl rfl (.inl ⟨rfl,fun _ _=>Jav 66 9 (.tmp 57) (.tmp 59) Kl w7.heap.size 0 8 8 mo 1 Kl Kl Ka underlying66 (fun w=>by simp[sizeOf9])⟩) (.cons rfl rfl (.inl ⟨rfl,fun _ h=>by have y0:=(h.cell (p:=⟨w7.heap.size,0+mo*1,none⟩) l1).trans cn;rw[show 0+mo*1=mo by omega] at y0;dsimp only[pt];go_simp;try with_reducible rfl⟩) .nil)) [6,7] rfl rfl Kl (fun _ _ _ _ _ h=>h) Pg ?_;refine Jb7 (i:=10) (R:=fun u X=>u=.string (str (flgT f))/\X=x1) 64 _ rfl Kl rfl rfl rfl Kl ((Juo f x1).mono fun e w' h=>⟨_,h.1,rfl,h.2⟩) ?_;rintro u x2 ⟨rfl,rfl⟩;refine⟨Pg,?_⟩;obtain⟨xs,hxs⟩:=Pi (x2.alloc (.cells #[.string (str wRo),.string nm,.string (str (nmR mo)),.string (str (flgT f))] 9 (0,0)));have LL:Lst xs (.slice (some ⟨x2.heap.size,0,none⟩) 4 4) (rRo (id,(mo:Int),f)):=by rw[<-hxs];exact Jay _ _ (rRo (id,(mo:Int),f)) Uw 4 rfl
     have es:Po x2 xs:=by rw[<-hxs];exact(Below.refl _ _).alloc Ph _
     refine Je1 (i:=11) (v:=.slice (some ⟨x2.heap.size,0,none⟩) 4 4) (w':=xs) 65 _ rfl Kl rfl rfl rfl (by rw[<-hxs];kernel_rfl) es rfl ?_;refine Jb7 (i:=12) (R:=fun u X=>u=.string (rx (rRo (id,(mo:Int),f)))/\Po x2 X) 66 _ rfl Kl rfl rfl rfl Kl ((Jna _ _ LL SR.out).mono fun e w' h=>⟨_,h.1,rfl,es.trans (h.2.mono es.size)⟩) ?_;rintro u xz ⟨rfl,e2⟩;refine⟨e2,?_⟩;have ez:=e1.trans (e2.mono e1.size);clear LL es e1 l1 cn;refine Jbb (L:=[(13,67,.string (sx++rx (rRo (id,(mo:Int),f)))),(14,3,.string (sx++rx (rRo (id,(mo:Int),f))))]) (.cons rfl rfl (.inl ⟨rfl,fun _ _=>J52 9 9 (.tmp 54) (.tmp 66) Kl sx (rx _) Kl Kl gz⟩) (.q .nil)) [13,14] rfl rfl Kl (fun _ _ _ _ _ h=>h) e2 ?_;refine Jcl Kl ?_;go_wp2_with fail;go_roundw;case rel=>exact⟨k+1,Kj,Ka,Ul,Pe (B7.out.trans (ez.mono B7.out.size))⟩
     case measure=>exact Q7
    ·have d:decide (k<T.ro.length)=false:=Kg
     have hT:T.ro.take k=T.ro:=List.take_of_length_le Ka;rw[hT] at HZS |-;clear hT hlt;have TX0:Tx ((T.st.map (rSt F_))++T.ro.map (rRo)) 128 _:=Tx.mono ⟨rfl,HZS⟩ (by have:=L.ro;omega:64+k<=128);clear HZS hk;go_wp2_with fail;clear p1 d;go_loopw [3,8] (fun s i wr=>∃k:Nat,i=.int .i64 k/\k<=T.ca.length/\Tx (((T.st.map (rSt F_))++T.ro.map (rRo))++(T.ca.take k).map (rCa F_)) (128+k) s/\Hid (Po w3 wr)) (fun _ i _=>T.ca.length - (intOf i).toNat);case atStart=>exact⟨0,rfl,Nat.zero_le _,Um,Pe HX.out⟩
     case round =>
      clear HX TX0;obtain⟨k,rfl,hk,⟨rfl,HZS⟩,HX⟩:=hrel;have p2:wr.cell? ⟨w.heap.size,2,none⟩=some (.slice A2 T.ca.length n2):=Uk;by_cases hlt:k<T.ca.length
      ·have gk:(0:Int)<=(k:Int)/\(k:Int)<(T.ca.length:Int):=⟨Ka,Ka⟩
       obtain⟨⟨id,wd,fm,te⟩,hx⟩:=Jah hlt;have hm:=List.mem_of_getElem? hx;obtain⟨⟨v0,v1⟩,v2,v3⟩:=V.ca _ hm;dsimp only at v0 v1 v2 v3;have SR:=Pe (J1p V L SH hm);clear hm;obtain⟨nm,hnm⟩:=Pi (str id);obtain⟨b,o,rfl,hb,r0,mk,r8,r9⟩:=S14.ten_at ((HH.out.2.2.1).below (B3.out.trans (HX.out.mono B3.out.size))) hx hnm;have r1:wr.cell? ⟨b,o+k*10+1,none⟩=some (.bool (wd 0)):=mk 0 Ka;have r2:wr.cell? ⟨b,o+k*10+2,none⟩=some (.bool (wd 1)):=mk 1 Ka;have r3:wr.cell? ⟨b,o+k*10+3,none⟩=some (.bool (wd 2)):=mk 2 Ka;have r4:wr.cell? ⟨b,o+k*10+4,none⟩=some (.bool (wd 3)):=mk 3 Ka;have r5:wr.cell? ⟨b,o+k*10+5,none⟩=some (.bool (wd 4)):=mk 4 Ka;have r6:wr.cell? ⟨b,o+k*10+6,none⟩=some (.bool (wd 5)):=mk 5 Ka;have r7:wr.cell? ⟨b,o+k*10+7,none⟩=some (.bool (wd 6)):=mk 6 Ka;obtain⟨w7,h7⟩:=Pi (wr.alloc (.cells #[.string nm,.bool (wd 0),.bool (wd 1),.bool (wd 2),.bool (wd 3),.bool (wd 4),.bool (wd 5),.bool (wd 6),.int .i64 fm,.int .i64 te] 61 (0,0)));have b7:Po wr w7:=Uj;have k7:w7.heap[wr.heap.size]?=some (.cells #[.string nm,.bool (wd 0),.bool (wd 1),.bool (wd 2),.bool (wd 3),.bool (wd 4),.bool (wd 5),.bool (wd 6),.int .i64 fm,.int .i64 te] 61 (0,0)):=Ui;have l7:wr.heap.size<w7.heap.size:=(Pn k7).1;have B7:=Pe (HX.out.trans (b7.mono HX.out.size));obtain⟨TB,hTB⟩:=Pi (wr.heap.size);rw[hTB] at k7 l7;have SF:Hid (∀W:World,Po w7 W->W.cell? ⟨TB,0,none⟩=some (.string nm)/\W.cell? ⟨TB,8,none⟩=some (.int .i64 fm)/\W.cell? ⟨TB,9,none⟩=some (.int .i64 te)):=Pe (fun W h=>⟨Ug,Ug,Ug⟩);have KW:=Pe k7;clear b7 k7;have lb:=L.ca;have gz:=Tx.fit HZS Ka SR.out;obtain⟨sx,hsx⟩:=Pi (tx (((T.st.map (rSt F_))++T.ro.map (rRo))++(T.ca.take k).map (rCa F_)));rw[hsx] at gz |-;have HSX:=Pe hsx;clear hsx;go_wp2_with fail;try rw[h7]
       go_loopw [10,11] (fun s i wr=>∃j:Nat,i=.int .i64 j/\j<=7/\s=.string (str ((wkT wd).take j))/\wr=w7) (fun _ i _=>7 - (intOf i).toNat)
       case atStart=>exact⟨0,rfl,Ka,rfl,rfl⟩
       case round =>
        obtain⟨j,rfl,hj,rfl,hq⟩:=hrel;subst hq;by_cases hl:j<7
        ·have gj:(0:Int)<=(j:Int)/\(j:Int)<7:=⟨Ka,Ka⟩
         have cj:=J2b KW.out hl;have WT:=Pe (Qbm wd hl);cases hd:wd j <;> rw[hd] at cj WT <;>
         ·go_wp2_with fail
          go_roundw
          case rel=>exact⟨j+1,Kj,Ka,by rw[WT.out,<-Jas];rfl,by first | rfl | trivial⟩
          case measure=>exact Q7
        ·obtain rfl:j=7:=Ka
         go_wp2_with fail;go_region_held3 (fun W=>W.cell? ⟨TB,0,none⟩=some (.string nm)/\W.cell? ⟨TB,8,none⟩=some (.int .i64 fm)/\W.cell? ⟨TB,9,none⟩=some (.int .i64 te)) (first | assumption | exact SF.out _ Uf) (first
          | (go_at_call 62;with_reducible refine(Jb3 (GW.out.day fm v0 v1) (B3.out.trans (B7.out.mono B3.out.size)) (by first | exact Pg | exact(Below.refl _ _).drew:Po wr _)).mono ?_;rintro _ x1 ⟨rfl,e1⟩;have s1:=SF.out _ e1)
          | (go_at_call 62;with_reducible refine(Jb3 (GW.out.day te v2 v3) (B3.out.trans (B7.out.mono B3.out.size)) e1).mono ?_;rintro _ x2 ⟨rfl,e2⟩;have s2:=SF.out _ e2)
          | (go_at_call 58;refine(Jd6 (Jay _ _ (rCa F_ (id,wd,fm,te)) Uw 5 rfl) (SR.out) e2).mono ?_;rintro _ xz ⟨rfl,ez⟩;have sz:=SF.out _ ez))
         go_wp2_with fail;go_roundw;case rel=>exact⟨k+1,Kj,Ka,Ul,Pe (B7.out.trans (ez.mono B7.out.size))⟩
         case measure=>exact Q7
      ·have d:decide (k<T.ca.length)=false:=Kg
       have hT:T.ca.take k=T.ca:=List.take_of_length_le Ka;rw[hT] at HZS |-;clear hT hlt;have TX0:Tx (((T.st.map (rSt F_))++T.ro.map (rRo))++T.ca.map (rCa F_)) 192 _:=Tx.mono ⟨rfl,HZS⟩ (by have:=L.ca;omega:128+k<=192);clear HZS hk;go_wp2_with fail;clear p2 d;go_loopw [3,12] (fun s i wr=>∃k:Nat,i=.int .i64 k/\k<=T.ex.length/\Tx ((((T.st.map (rSt F_))++T.ro.map (rRo))++T.ca.map (rCa F_))++(T.ex.take k).map (rEx F_ T)) (192+k) s/\Hid (Po w3 wr)) (fun _ i _=>T.ex.length - (intOf i).toNat);case atStart=>exact⟨0,rfl,Nat.zero_le _,Um,Pe HX.out⟩
       case round =>
        clear HX TX0;obtain⟨k,rfl,hk,⟨rfl,HZS⟩,HX⟩:=hrel;have p3:wr.cell? ⟨w.heap.size,3,none⟩=some (.slice A3 T.ex.length n3):=Uk;by_cases hlt:k<T.ex.length
        ·have gk:(0:Int)<=(k:Int)/\(k:Int)<(T.ex.length:Int):=⟨Ka,Ka⟩
         obtain⟨⟨ci,dy,ad⟩,hx⟩:=Jah hlt;have hm:=List.mem_of_getElem? hx;obtain⟨⟨v0,v1⟩,v2,v3⟩:=V.ex _ hm;dsimp only at v0 v1 v2 v3;have SR:=Pe (J1q V L SH hm);clear hm;obtain⟨m1,q1⟩:∃m:Nat,ci=(m:Int):=⟨ci.toNat,Ka⟩;subst q1;have g1:(0:Int)<=(m1:Int)/\(m1:Int)<(T.ca.length:Int):=⟨Ka,Ka⟩;obtain⟨⟨z1_0,z1_1,z1_2,z1_3⟩,hx1⟩:=Jah (l:=T.ca) (k:=m1) Ka;have a1:=Jbh (f:=fun x=>x.1) (rfl:(m1:Int)=(m1:Int)) hx1;dsimp only at a1;obtain⟨nm1,hnm1⟩:=Pi (str z1_0);obtain⟨b1,o1,rfl,hb1,y1,-⟩:=S14.ten_at HH.out.2.2.1 hx1 hnm1;obtain⟨b,o,rfl,hb,r0,r1,r2⟩:=S14.three_at ((HH.out.2.2.2.1).below (B3.out.trans (HX.out.mono B3.out.size))) hx;obtain⟨w7,h7⟩:=Pi (wr.alloc (.cells #[.int .i64 (m1:Int),.int .i64 dy,.bool ad] 116 (0,0)));have b7:Po wr w7:=Uj;have k7:w7.heap[wr.heap.size]?=some (.cells #[.int .i64 (m1:Int),.int .i64 dy,.bool ad] 116 (0,0)):=Ui;have l7:wr.heap.size<w7.heap.size:=(Pn k7).1;have B7:=Pe (HX.out.trans (b7.mono HX.out.size));have SF:Hid (∀W:World,Po w7 W->W.cell? ⟨w.heap.size,2,none⟩=some (.slice (some ⟨b1,o1,none⟩) T.ca.length n2)/\W.cell? ⟨wr.heap.size,0,none⟩=some (.int .i64 (m1:Int))/\W.cell? ⟨wr.heap.size,1,none⟩=some (.int .i64 dy)/\W.cell? ⟨b1,o1+m1*10,none⟩=some (.string nm1)):=Pe (fun W h=>⟨Uh,Ug,Ug,((B3.out.trans ((B7.out.trans (h.mono B7.out.size)).mono B3.out.size)).cell (p:=⟨b1,o1+m1*10,none⟩) hb1).trans y1⟩);have KW:=Pe k7;clear b7 k7;have lb:=L.ex;have gz:=Tx.fit HZS Ka SR.out;obtain⟨sx,hsx⟩:=Pi (tx ((((T.st.map (rSt F_))++T.ro.map (rRo))++T.ca.map (rCa F_))++(T.ex.take k).map (rEx F_ T)));rw[hsx] at gz |-;have HSX:=Pe hsx;clear hsx;cases hv:ad <;> rw[hv] at h7 r2 <;> have HV:=Pe hv <;> have H7:=Pe h7 <;> clear hv h7
         all_goals
          go_wp2_with fail;rw[H7.out];go_region_held3 (fun W=>W.cell? ⟨w.heap.size,2,none⟩=some (.slice (some ⟨b1,o1,none⟩) T.ca.length n2)/\W.cell? ⟨wr.heap.size,0,none⟩=some (.int .i64 (m1:Int))/\W.cell? ⟨wr.heap.size,1,none⟩=some (.int .i64 dy)/\W.cell? ⟨b1,o1+m1*10,none⟩=some (.string nm1)) (first | assumption | exact SF.out _ Uf) (first
           | (go_at_call 62;with_reducible refine(Jb3 (GW.out.day dy v2 v3) (B3.out.trans (B7.out.mono B3.out.size)) (Ut:Po w7 _)).mono ?_;rintro _ x1 ⟨rfl,e1⟩;have s1:=SF.out _ e1)
           | (go_at_call 58;refine(Jd6 (Jay _ _ (rEx F_ T ((m1:Int),dy,ad)) (by rw[HV.out];rw[<-hnm1,<-a1];rfl) 4 rfl) (SR.out) e1).mono ?_;rintro _ xz ⟨rfl,ez⟩;have sz:=SF.out _ ez))
          go_wp2_with fail;go_roundw;case rel=>exact⟨k+1,Kj,Ka,Ul,Pe (B7.out.trans (ez.mono B7.out.size))⟩
          case measure=>exact Q7
        ·have d:decide (k<T.ex.length)=false:=Kg
         have hT:T.ex.take k=T.ex:=List.take_of_length_le Ka;exact Uv
end
end Go.Proofs.YtpifdbphmnifdaaGreatDoor
