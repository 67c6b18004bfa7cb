/-
  Facts. Condition: each theorem's own.
-/
import Derived.Test.YtpifdbphmnifdaaGreatDoorYC21
set_option maxRecDepth 100000
set_option maxHeartbeats 8000000
section
variable {p:Prop}
theorem Gk (h:p:=by rintro e w3 ⟨rfl,b3⟩;go_wp2_with fail;go_ret2;exact⟨rfl,b1.trans ((b2.trans (b3.mono b2.size)).mono b1.size)⟩):p:=h
theorem Gl (h:p:=by go_wp2_with fail;go_ret2;exact⟨rfl,b1.trans (b2.mono b1.size)⟩):p:=h
theorem Gm (h:p:=by rw [cell_of_row _ _ _ _ _ _ H2];rfl):p:=h
theorem Gn (h:p:=by go_enter func142,ntmps142;go_wp2_with fail;go_ret;exact⟨rfl,B.out _⟩):p:=h
theorem Gp (h:p:=by rintro r w2 ⟨rfl,rfl⟩;go_wp2_with fail;go_ret;exact⟨rfl,B.out⟩):p:=h
theorem Gq (h:p:=by exact⟨by show -9223372036854775808≤_+_;omega,by show _+_≤(9223372036854775807:Int);omega⟩):p:=h
theorem Gr (h:p:=by exact⟨Kl,Kl⟩):p:=h
theorem Gs (h:p:=by rintro e w4 ⟨rfl,b4⟩;go_wp2_with fail;go_ret2;exact⟨rfl,b1.trans ((b2.trans (b4.mono b2.size)).mono b1.size)⟩):p:=h
theorem Gu (h:p:=by rintro e w2 ⟨rfl,b2⟩;exact Gl):p:=h
end
open Go.Proofs.Tryz
namespace Go.Proofs.YtpifdbphmnifdaaGreatDoor
namespace S1
open Go.RowKit
theorem J1t (s:ByteArray) (h:0<s.size):s.toList.isEmpty=false:=by
 rw [Lib.toList_data];have:s.data.toList.length=s.size:=rfl;cases hl:s.data.toList with
 | nil=>rw [hl] at this;simp at this;omega
 | cons a t=>rfl
theorem J1u (s:ByteArray) (h:s.size=0) (w:World) :
  Pc 356 #[.string s] w (.bool false):=by
 obtain rfl:s=⟨#[]⟩:=by
  obtain⟨⟨l⟩⟩:=s;have:l.length=0:=h;cases l with
  | nil=>rfl
  | cons a t=>simp at this
 go_enter func356,ntmps356;go_wp2_with fail;exact U1
theorem Jwa (s:ByteArray) (h:0<s.size) (h0:s[0].toNat=48) (w:World) :
  Pc 356 #[.string s] w (.bool false):=by
 have hn:=J1t s h;have k0:∀W,(Instr.index 9 (.string s) (.int .i64 0)).run prog W=.ok (.int .u8 s[0].toNat) W:=Je2 s 0 h;have c0:(((s[0].toNat:Nat):Int) != 48)=false:=by rw [h0];rfl
 clear h0;go_enter func356,ntmps356;go_wp2_with fail;exact U1
theorem Jwb (s:ByteArray) (h:0<s.size) (h0:s[0].toNat≠48) (hd:digs s.data.toList=false) (w:World) :
  Pc 356 #[.string s] w (.bool false):=by
 have hn:=J1t s h;have k0:∀W,(Instr.index 9 (.string s) (.int .i64 0)).run prog W=.ok (.int .u8 s[0].toNat) W:=Je2 s 0 h;have c0:(((s[0].toNat:Nat):Int) != 48)=true:=Jaf Kd;have HD:=Pe hd;clear h0 hd;go_enter func356,ntmps356;go_wp2_with fail;refine (allDigits_no s HD.out _).mono ?_;exact Zp
theorem J55 (s:ByteArray) (h:0<s.size) (h0:s[0].toNat≠48) (hd:digs s.data.toList=true) (w:World) :
  Pc 356 #[.string s] w (.bool true):=by
 have hn:=J1t s h;have k0:∀W,(Instr.index 9 (.string s) (.int .i64 0)).run prog W=.ok (.int .u8 s[0].toNat) W:=Je2 s 0 h;have c0:(((s[0].toNat:Nat):Int) != 48)=true:=Jaf Kd;have HD:=Pe hd;clear h0 hd;go_enter func356,ntmps356;go_wp2_with fail;refine (allDigits_yes s HD.out _).mono ?_;exact Zp
theorem Jel (l:List UInt8) (w:World) :
  Pc 356 #[.string (str l)] w (.bool (posD l)):=by
 have hz:=Jao l;cases l with
 | nil=>exact J1u _ hz w
 | cons c t =>
  have h:0<(str (c::t)).size:=by rw [hz];simp
  have hc:(str (c::t))[0]=c:=rfl;by_cases h0:c.toNat=48
  ·obtain rfl:c=48:=UInt8.toNat_inj.1 h0
   have hp:posD (48::t)=false:=by unfold posD;simp
   rw [hp];exact Jwa _ h h0 w
  ·have hne:c≠48:=fun hx=>h0 (by rw [hx];rfl)
   cases hd:digs (c::t) with
   | false =>
    have hp:posD (c::t)=false:=by unfold posD;rw [hd];simp
    rw [hp];exact Jwb _ h h0 hd w
   | true =>
    have hp:posD (c::t)=true:=(Jc6 _).2 ⟨Kj,by simp [hne],hd⟩;rw [hp];exact J55 _ h h0 hd w
theorem Jem (l:List UInt8) (hd:digs l=true) (hl:l.length≤6) (w:World) :
  Calls prog 322 #[.string (str l)] w fun e w'=>e=.returned (.int .i64 (valN l))∧Pn w w' :=
 Jot (str l) hd (by rw [Jao];exact hl) w
theorem J1v (l:List UInt8) (h:l.length≠2) (w:World) :
  Pc 355 #[.string (str l)] w (.tuple #[.int .i64 0,.bool false]):=by
 have hz:=Jao l;have c0:(((str l).size:Int) != 2)=true:=Jaf Kd;clear hz h;generalize str l=s at c0 ⊢;go_enter func355,ntmps355;go_wp2_with fail;go_ret2;exact Jr
theorem Jwc (l:List UInt8) (h:l.length=2) (hd:digs l=false) (w:World) :
  Pc 355 #[.string (str l)] w (.tuple #[.int .i64 0,.bool false]):=by
 have hz:=Jao l;have c0:(((str l).size:Int) != 2)=false:=by rw [hz,h];rfl
 have HC:=Pe (allDigits_no (str l) hd);clear hz h hd;generalize str l=s at c0 HC ⊢;go_enter func355,ntmps355;go_wp2_with fail;refine (HC.out _).mono ?_;exact Y1
theorem J1w (l:List UInt8) (h:l.length=2) (hd:digs l=true) (hv:¬valN l<60) (w:World) :
  Pc 355 #[.string (str l)] w (.tuple #[.int .i64 0,.bool false]):=by
 have hz:=Jao l;have c0:(((str l).size:Int) != 2)=false:=by rw [hz,h];rfl
 have HC:=Pe (allDigits_yes (str l) hd);have HV:=Pe (Jem l hd Kd);clear hz h hd;generalize str l=s at c0 HC HV ⊢;go_enter func355,ntmps355;go_wp2_with fail;refine (HC.out _).mono ?_;rintro e w1 ⟨rfl,b1⟩;go_wp2_with fail;refine (HV.out _).mono ?_;rintro e w2 ⟨rfl,b2⟩;go_wp2_with fail;refine (Jes _ Kd _).mono ?_;rintro e w3 ⟨rfl,rfl⟩;exact Gl
theorem J56 (l:List UInt8) (h:l.length=2) (hd:digs l=true) (hv:valN l<60) (w:World) :
  Pc 355 #[.string (str l)] w (.tuple #[.int .i64 (valN l),.bool true]):=by
 have hz:=Jao l;have c0:(((str l).size:Int) != 2)=false:=by rw [hz,h];rfl
 have HC:=Pe (allDigits_yes (str l) hd);have HV:=Pe (Jem l hd Kd);clear hz h hd;generalize str l=s at c0 HC HV ⊢;go_enter func355,ntmps355;go_wp2_with fail;refine (HC.out _).mono ?_;rintro e w1 ⟨rfl,b1⟩;go_wp2_with fail;refine (HV.out _).mono ?_;rintro e w2 ⟨rfl,b2⟩;go_wp2_with fail;refine (Jdd _ Kd Kd _).mono ?_;rintro e w3 ⟨rfl,rfl⟩;go_wp2_with fail;refine (HV.out _).mono ?_;exact Gs
theorem J57 (l:List UInt8) (h:Jbu l=false) (w:World) :
  Pc 355 #[.string (str l)] w (.tuple #[.int .i64 0,.bool false]):=by
 by_cases h2:l.length=2
 ·cases hd:digs l with
  | false=>exact Jwc l h2 hd w
  | true =>
   by_cases hv:valN l<60
   ·rw [(Jc3 l).2 ⟨h2,hd,hv⟩] at h;cases h
   ·exact J1w l h2 hd hv w
 ·exact J1v l h2 w
theorem J1x (l:List UInt8) (h:Jbu l=true) (w:World) :
  Pc 355 #[.string (str l)] w (.tuple #[.int .i64 (valN l),.bool true]):=by
 obtain⟨h2,hd,hv⟩:=(Jc3 l).1 h;exact J56 l h2 hd hv w
theorem J1y (l:List UInt8) (h:posD l=false) (w:World) :
  Pc 325 #[.string (str l)] w (.tuple #[.int .i64 0,.bool false]):=by
 have hc:=Jel l;rw [h] at hc;have HC:=Pe hc;clear hc h;generalize str l=s at HC ⊢;go_enter func325,ntmps325;go_wp2_with fail;refine (HC.out _).mono ?_;exact Y1
theorem J1z (l:List UInt8) (h:posD l=true) (hl:¬l.length≤2) (w:World) :
  Pc 325 #[.string (str l)] w (.tuple #[.int .i64 0,.bool false]):=by
 have hc:=Jel l;rw [h] at hc;have HC:=Pe hc;have hz:2<(str l).size:=K8;have hi:(2:Int)<(str l).size:=Kd;clear hc h hl;generalize str l=s at HC hz hi ⊢;go_enter func325,ntmps325;go_wp2_with fail;refine (HC.out _).mono ?_;exact Y1
theorem J10 (l:List UInt8) (h:posD l=true) (hl:l.length≤2) (hv:¬valN l<60) (w:World) :
  Pc 325 #[.string (str l)] w (.tuple #[.int .i64 0,.bool false]):=by
 have hc:=Jel l;rw [h] at hc;have HC:=Pe hc;have HV:=Pe (Jem l ((Jc6 l).1 h).2.2 Kd);have hz:¬2<(str l).size:=K8;have hd:decide (2<(str l).size)=false:=Pj hz;have hi:¬(2:Int)<(str l).size:=Kd;have hj:decide ((2:Int)<(str l).size)=false:=Pj hi;clear hc h hl;generalize str l=s at HC HV hz hi hd hj ⊢;go_enter func325,ntmps325;go_wp2_with fail;refine (HC.out _).mono ?_;rintro e w1 ⟨rfl,b1⟩;go_wp2_with fail;refine (HV.out _).mono ?_;rintro e w2 ⟨rfl,b2⟩;go_wp2_with fail;refine (Jes _ Kd _).mono ?_;rintro e w3 ⟨rfl,rfl⟩;exact Gl
theorem J58 (l:List UInt8) (h:posD l=true) (hl:l.length≤2) (hv:valN l<60) (w:World) :
  Pc 325 #[.string (str l)] w (.tuple #[.int .i64 (valN l),.bool true]):=by
 have hc:=Jel l;rw [h] at hc;have HC:=Pe hc;have HV:=Pe (Jem l ((Jc6 l).1 h).2.2 Kd);have hz:¬2<(str l).size:=K8;have hd:decide (2<(str l).size)=false:=Pj hz;have hi:¬(2:Int)<(str l).size:=Kd;have hj:decide ((2:Int)<(str l).size)=false:=Pj hi;clear hc h hl;generalize str l=s at HC HV hz hi hd hj ⊢;go_enter func325,ntmps325;go_wp2_with fail;refine (HC.out _).mono ?_;rintro e w1 ⟨rfl,b1⟩;go_wp2_with fail;refine (HV.out _).mono ?_;rintro e w2 ⟨rfl,b2⟩;go_wp2_with fail;refine (Jdd _ Kd Kd _).mono ?_;rintro e w3 ⟨rfl,rfl⟩;go_wp2_with fail;refine (HV.out _).mono ?_;exact Gs
theorem J59 (l:List UInt8) (h:Jdc l=false) (w:World) :
  Pc 325 #[.string (str l)] w (.tuple #[.int .i64 0,.bool false]):=by
 cases hp:posD l with
 | false=>exact J1y l hp w
 | true =>
  by_cases h2:l.length≤2
  ·by_cases hv:valN l<60
   ·rw [(Jc4 l).2 ⟨hp,h2,hv⟩] at h;cases h
   ·exact J10 l hp h2 hv w
  ·exact J1z l hp h2 w
theorem J11 (l:List UInt8) (h:Jdc l=true) (w:World) :
  Pc 325 #[.string (str l)] w (.tuple #[.int .i64 (valN l),.bool true]):=by
 obtain⟨hp,h2,hv⟩:=(Jc4 l).1 h;exact J58 l hp h2 hv w
theorem Je8 (l:List UInt8):∃v:Int,0≤v∧v<60∧(Jbu l=true→v=valN l)∧∀w:World,
  Pc 355 #[.string (str l)] w (.tuple #[.int .i64 v,.bool (Jbu l)]):=by
 cases h:Jbu l with
 | false=>exact⟨0,Kd,Kd,(fun hx=>by cases hx),J57 l h⟩
 | true=>exact⟨valN l,Kd,by have:=((Jc3 l).1 h).2.2;omega,fun _=>rfl,J1x l h⟩
theorem first_any (l:List UInt8):∃v:Int,0≤v∧v<60∧(Jdc l=true→v=valN l)∧∀w:World,
  Pc 325 #[.string (str l)] w (.tuple #[.int .i64 v,.bool (Jdc l)]):=by
 cases h:Jdc l with
 | false=>exact⟨0,Kd,Kd,(fun hx=>by cases hx),J59 l h⟩
 | true=>exact⟨valN l,Kd,by have:=((Jc4 l).1 h).2.2;omega,fun _=>rfl,J11 l h⟩
def hRes (found mok sok pos big:Bool) (v m s:Int):Int×Int :=
 if found&&mok&&sok&&pos then (if big then (0,2) else (v*3600+m*60+s,0)) else (0,3)
theorem Jle (hs ts ms ss:ByteArray) (found mok sok pos big:Bool) (m s:Int) (m0:0≤m) (m1:m<60) (s0:0≤s) (s1:s<60) (v:Int) (v0:0≤v) (v1:v≤99)
  (hc:∀w:World,Pc 245 #[.string ts,.string ⟨#[109]⟩] w (.tuple #[.string ms,.string ss,.bool found]))
  (hm:∀w:World,Pc 355 #[.string ms] w (.tuple #[.int .i64 m,.bool mok]))
  (hz:∀w:World,Pc 355 #[.string ss] w (.tuple #[.int .i64 s,.bool sok]))
  (hp:∀w:World,Pc 356 #[.string hs] w (.bool pos))
  (hb:big=true→(2:Int)<(hs.size:Int)) (hl:big=false→¬(2:Int)<(hs.size:Int))
  (hv:pos=true→big=false→∀w:World,Pc 322 #[.string hs] w (.int .i64 v)) (w:World) :
  Calls prog 323 #[.string hs,.string ts] w fun e w' =>
   e=.returned (.tuple #[.int .i64 (hRes found mok sok pos big v m s).1,.int .i64 (hRes found mok sok pos big v m s).2])∧Pn w w':=by
 have HC:=Pe hc;have HM:=Pe hm;have HZ:=Pe hz;have HP:=Pe hp;have HV:=Pe hv;have HB:=Pe hb;have HL:=Pe hl;clear hc hm hz hp hv hb hl;cases found
 ·go_enter func323,ntmps323
  go_wp2_with fail;refine (HC.out _).mono ?_;rintro e w1 ⟨rfl,b1⟩;go_wp2_with fail;refine (HM.out _).mono ?_;rintro e w2 ⟨rfl,b2⟩;go_wp2_with fail;refine (HZ.out _).mono ?_;exact Gk
 cases mok
 ·go_enter func323,ntmps323
  go_wp2_with fail;refine (HC.out _).mono ?_;rintro e w1 ⟨rfl,b1⟩;go_wp2_with fail;refine (HM.out _).mono ?_;rintro e w2 ⟨rfl,b2⟩;go_wp2_with fail;refine (HZ.out _).mono ?_;exact Gk
 cases sok
 ·go_enter func323,ntmps323
  go_wp2_with fail;refine (HC.out _).mono ?_;rintro e w1 ⟨rfl,b1⟩;go_wp2_with fail;refine (HM.out _).mono ?_;rintro e w2 ⟨rfl,b2⟩;go_wp2_with fail;refine (HZ.out _).mono ?_;exact Gk
 cases pos
 ·go_enter func323,ntmps323
  go_wp2_with fail;refine (HC.out _).mono ?_;rintro e w1 ⟨rfl,b1⟩;go_wp2_with fail;refine (HM.out _).mono ?_;rintro e w2 ⟨rfl,b2⟩;go_wp2_with fail;refine (HZ.out _).mono ?_;rintro e w3 ⟨rfl,b3⟩;go_wp2_with fail;refine (HP.out _).mono ?_;exact Y0
 cases big
 ·have i2:=HL.out rfl
  have HW:=Pe (HV.out rfl rfl);clear HV;go_enter func323,ntmps323;go_wp2_with fail;refine (HC.out _).mono ?_;rintro e w1 ⟨rfl,b1⟩;go_wp2_with fail;refine (HM.out _).mono ?_;rintro e w2 ⟨rfl,b2⟩;go_wp2_with fail;refine (HZ.out _).mono ?_;rintro e w3 ⟨rfl,b3⟩;go_wp2_with fail;refine (HP.out _).mono ?_;rintro e w4 ⟨rfl,b4⟩;go_wp2_with fail;refine (HW.out _).mono ?_;rintro e w5 ⟨rfl,b5⟩;go_wp2_with fail;refine (Jer _ _ _ Kd Kd Kd Kd Kd Kd _).mono ?_;rintro e w6 ⟨rfl,rfl⟩;go_wp2_with fail;go_ret2;exact⟨rfl,((b1.trans (b2.mono b1.size)).trans ((b3.trans (b4.mono b3.size)).mono (Nat.le_trans b1.size b2.size))).trans (b5.mono (Nat.le_trans (Nat.le_trans b1.size b2.size) (Nat.le_trans b3.size b4.size)))⟩
 ·have i2:=HB.out rfl
  go_enter func323,ntmps323;go_wp2_with fail;refine (HC.out _).mono ?_;rintro e w1 ⟨rfl,b1⟩;go_wp2_with fail;refine (HM.out _).mono ?_;rintro e w2 ⟨rfl,b2⟩;go_wp2_with fail;refine (HZ.out _).mono ?_;rintro e w3 ⟨rfl,b3⟩;go_wp2_with fail;refine (HP.out _).mono ?_;exact Y0
theorem Juf (l:List UInt8) (hd:digs l=true) (h:l.length≤2):valN l≤99:=by
 have h1:=Jlg l hd;have h2:10 ^ l.length≤10 ^ 2:=Nat.pow_le_pow_right Kl h;omega
theorem J12 (H T:List UInt8) (hl:T.length≤9223372036854775807) (w:World) :
  Pc 323 #[.string (str H),.string (str T)] w (.tuple #[.int .i64 (Jfo H T).1,.int .i64 (Jfo H T).2]):=by
 have hz:=Jao H;have hsz:∀b:Bool,b=decide (2<H.length)→(b=true→(2:Int)<((str H).size:Int))∧(b=false→¬(2:Int)<((str H).size:Int)):=by
  intro b hb;subst hb;rw [hz];exact Ke
 by_cases h:109∈T
 ·obtain⟨M,S,rfl,hn,e1,e2⟩:=Jmb 109 T h
  obtain⟨m,m0,m1,me,cm⟩:=Je8 M;obtain⟨s,s0,s1,se,cs⟩:=Je8 S;have key:=Jle (str H) (str (M++109::S)) (str M) (str S) true (Jbu M) (Jbu S) (posD H) (decide (2<H.length)) m s m0 m1 s0 s1 (if posD H=true∧H.length≤2 then valN H else 0)
   (by split <;> omega) (by split;· have:=Juf H ((Jc6 H).1 (by simp_all)).2.2 (by simp_all);omega
                            ·omega)
   (Jmp 109 M S hn hl) cm cs (Jel H) (hsz _ rfl).1 (hsz _ rfl).2
   (fun hp hb=>by
    have hb2:H.length≤2:=Zf;rw [if_pos ⟨hp,hb2⟩];exact Jem H ((Jc6 H).1 hp).2.2 Kd) w
  have e:hRes true (Jbu M) (Jbu S) (posD H) (decide (2<H.length)) (if posD H=true∧H.length≤2 then valN H else 0) m s=Jfo H (M++109::S):=by
   unfold hRes Jfo;rw [e1,e2];cases hM:Jbu M with
   | false=>simp
   | true =>
    cases hS:Jbu S with
    | false=>simp
    | true =>
     cases hP:posD H with
     | false=>simp
     | true =>
      rw [me hM,se hS];by_cases h2:2<H.length
      ·exact X7
      ·simp [h2,show H.length≤2 by omega]
  rw [e] at key;exact key
 ·obtain⟨m,m0,m1,_,cm⟩:=Je8 T
  obtain⟨s,s0,s1,_,cs⟩:=Je8 [];have key:=Jle (str H) (str T) (str T) (str []) false (Jbu T) (Jbu []) (posD H) (decide (2<H.length)) m s m0 m1 s0 s1 (if posD H=true∧H.length≤2 then valN H else 0)
   (by split <;> omega) (by split;· have:=Juf H ((Jc6 H).1 (by simp_all)).2.2 (by simp_all);omega
                            ·omega)
   (Jev 109 T h) cm cs (Jel H) (hsz _ rfl).1 (hsz _ rfl).2
   (fun hp hb=>by
    have hb2:H.length≤2:=Zf;rw [if_pos ⟨hp,hb2⟩];exact Jem H ((Jc6 H).1 hp).2.2 Kd) w
  have e:hRes false (Jbu T) (Jbu []) (posD H) (decide (2<H.length)) (if posD H=true∧H.length≤2 then valN H else 0) m s=Jfo H T:=by
   unfold hRes Jfo;simp [h]
  rw [e] at key;exact key
def mRes (mok sok:Bool) (m s:Int):Int×Int:=if mok&&sok then (m*60+s,0) else (0,3)
theorem Jps (ms ss:ByteArray) (mok sok:Bool) (m s:Int) (m0:0≤m) (m1:m<60) (s0:0≤s) (s1:s<60)
  (hm:∀w:World,Pc 325 #[.string ms] w (.tuple #[.int .i64 m,.bool mok]))
  (hz:∀w:World,Pc 355 #[.string ss] w (.tuple #[.int .i64 s,.bool sok])) (w:World) :
  Pc 324 #[.string ms,.string ss] w (.tuple #[.int .i64 (mRes mok sok m s).1,.int .i64 (mRes mok sok m s).2]):=by
 have HM:=Pe hm;have HZ:=Pe hz;clear hm hz;cases mok
 ·go_enter func324,ntmps324
  go_wp2_with fail;refine (HM.out _).mono ?_;rintro e w1 ⟨rfl,b1⟩;go_wp2_with fail;refine (HZ.out _).mono ?_;exact Gu
 cases sok
 ·go_enter func324,ntmps324
  go_wp2_with fail;refine (HM.out _).mono ?_;rintro e w1 ⟨rfl,b1⟩;go_wp2_with fail;refine (HZ.out _).mono ?_;exact Gu
 ·go_enter func324,ntmps324
  go_wp2_with fail;refine (HM.out _).mono ?_;rintro e w1 ⟨rfl,b1⟩;go_wp2_with fail;refine (HZ.out _).mono ?_;rintro e w2 ⟨rfl,b2⟩;go_wp2_with fail;refine (Jer 0 m s Kd Kd Kd Kd Kd Kd _).mono ?_;rintro e w3 ⟨rfl,rfl⟩;go_wp2_with fail;go_ret2;exact⟨J8h (by simp [mRes]) rfl,b1.trans (b2.mono b1.size)⟩
theorem Jru (M S:List UInt8) (w:World) :
  Pc 324 #[.string (str M),.string (str S)] w (.tuple #[.int .i64 (Jdk M S).1,.int .i64 (Jdk M S).2]):=by
 obtain⟨m,m0,m1,me,cm⟩:=first_any M;obtain⟨s,s0,s1,se,cs⟩:=Je8 S;have key:=Jps (str M) (str S) (Jdc M) (Jbu S) m s m0 m1 s0 s1 cm cs w;have e:mRes (Jdc M) (Jbu S) m s=Jdk M S:=by
  unfold mRes Jdk;cases hM:Jdc M with
  | false=>simp
  | true =>
   cases hS:Jbu S with
   | false=>simp
   | true=>rw [me hM,se hS];simp
 rw [e] at key;exact key
theorem Qbs (l:List UInt8) (hn:List.isSuffixOf [115] l=false) (hl:l.length≤9223372036854775807) (w:World) :
  Pc 255 #[.string (str l)] w (.tuple #[.int .i64 0,.int .i64 3]):=by
 have HC:=Pe (Jjn 115 l hn hl);clear hn hl;generalize str l=s at HC ⊢;go_enter func255,ntmps255;go_wp2_with fail;refine (HC.out _).mono ?_;rintro e w1 ⟨rfl,rfl⟩;go_wp2_with fail;go_ret2;exact Jr
theorem pd_h (s r H T:ByteArray) (v e0:Int)
  (hc:∀w:World,Pb 39 #[.string s,.string ⟨#[115]⟩] w (.tuple #[.string r,.bool true]))
  (hh:∀w:World,Pc 245 #[.string r,.string ⟨#[104]⟩] w (.tuple #[.string H,.string T,.bool true]))
  (hp:∀w:World,Pc 323 #[.string H,.string T] w (.tuple #[.int .i64 v,.int .i64 e0])) (w:World) :
  Pc 255 #[.string s] w (.tuple #[.int .i64 v,.int .i64 e0]):=by
 have HC:=Pe hc;have HH:=Pe hh;have HP:=Pe hp;clear hc hh hp;go_enter func255,ntmps255;go_wp2_with fail;refine (HC.out _).mono ?_;rintro e w1 ⟨rfl,rfl⟩;go_wp2_with fail;refine (HH.out _).mono ?_;rintro e w1 ⟨rfl,b1⟩;go_wp2_with fail;refine (HP.out _).mono ?_;exact Gu
theorem pd_m (s r M S:ByteArray) (v e0:Int)
  (hc:∀w:World,Pb 39 #[.string s,.string ⟨#[115]⟩] w (.tuple #[.string r,.bool true]))
  (hh:∀w:World,Pc 245 #[.string r,.string ⟨#[104]⟩] w (.tuple #[.string r,.string (str []),.bool false]))
  (hm:∀w:World,Pc 245 #[.string r,.string ⟨#[109]⟩] w (.tuple #[.string M,.string S,.bool true]))
  (hp:∀w:World,Pc 324 #[.string M,.string S] w (.tuple #[.int .i64 v,.int .i64 e0])) (w:World) :
  Pc 255 #[.string s] w (.tuple #[.int .i64 v,.int .i64 e0]):=by
 have HC:=Pe hc;have HH:=Pe hh;have HM:=Pe hm;have HP:=Pe hp;clear hc hh hm hp;go_enter func255,ntmps255;go_wp2_with fail;refine (HC.out _).mono ?_;rintro e w1 ⟨rfl,rfl⟩;go_wp2_with fail;refine (HH.out _).mono ?_;rintro e w1 ⟨rfl,b1⟩;go_wp2_with fail;refine (HM.out _).mono ?_;rintro e w2 ⟨rfl,b2⟩;go_wp2_with fail;refine (HP.out _).mono ?_;exact Gk
theorem Qbt (s r:ByteArray) (h0:(r.toList==[48])=true)
  (hc:∀w:World,Pb 39 #[.string s,.string ⟨#[115]⟩] w (.tuple #[.string r,.bool true]))
  (hh:∀w:World,Pc 245 #[.string r,.string ⟨#[104]⟩] w (.tuple #[.string r,.string (str []),.bool false]))
  (hm:∀w:World,Pc 245 #[.string r,.string ⟨#[109]⟩] w (.tuple #[.string r,.string (str []),.bool false])) (w:World) :
  Pc 255 #[.string s] w (.tuple #[.int .i64 0,.int .i64 0]):=by
 have HC:=Pe hc;have HH:=Pe hh;have HM:=Pe hm;clear hc hh hm;go_enter func255,ntmps255;go_wp2_with fail;refine (HC.out _).mono ?_;rintro e w1 ⟨rfl,rfl⟩;go_wp2_with fail;refine (HH.out _).mono ?_;rintro e w1 ⟨rfl,b1⟩;go_wp2_with fail;refine (HM.out _).mono ?_;exact Gu
theorem pd_s (s r:ByteArray) (h0:(r.toList==[48])=false) (v:Int) (ok:Bool)
  (hc:∀w:World,Pb 39 #[.string s,.string ⟨#[115]⟩] w (.tuple #[.string r,.bool true]))
  (hh:∀w:World,Pc 245 #[.string r,.string ⟨#[104]⟩] w (.tuple #[.string r,.string (str []),.bool false]))
  (hm:∀w:World,Pc 245 #[.string r,.string ⟨#[109]⟩] w (.tuple #[.string r,.string (str []),.bool false]))
  (hf:∀w:World,Pc 325 #[.string r] w (.tuple #[.int .i64 v,.bool ok])) (w:World) :
  Pc 255 #[.string s] w (.tuple #[.int .i64 (bif ok then v else 0),.int .i64 (bif ok then 0 else 3)]):=by
 have HC:=Pe hc;have HH:=Pe hh;have HM:=Pe hm;have HF:=Pe hf;clear hc hh hm hf;cases ok;all_goals
  simp only [cond_true,cond_false];go_enter func255,ntmps255;go_wp2_with fail;refine (HC.out _).mono ?_;rintro e w1 ⟨rfl,rfl⟩;go_wp2_with fail;refine (HH.out _).mono ?_;rintro e w1 ⟨rfl,b1⟩;go_wp2_with fail;refine (HM.out _).mono ?_;rintro e w2 ⟨rfl,b2⟩;go_wp2_with fail;refine (HF.out _).mono ?_;exact Gk
theorem parseDur_any (l:List UInt8) (hl:l.length≤9223372036854775807) (w:World) :
  Pc 255 #[.string (str l)] w (.tuple #[.int .i64 (durR l).1,.int .i64 (durR l).2]):=by
 cases hs:List.isSuffixOf [115] l with
 | false =>
  have e:durR l=(0,3):=by unfold durR;rw [hs];rfl
  rw [e];exact Qbs l hs hl w
 | true =>
  obtain⟨r,rfl,er⟩:=Jor l hs;have e:durR (r++[115])=Je0 r:=by unfold durR;rw [if_pos hs,er]
  rw [e];have hr:r.length≤9223372036854775807:=by simp at hl;omega
  have hc:=Jlb 115 r hl;by_cases hh:104∈r
  ·obtain⟨H,T,rfl,hn,e1,e2⟩:=Jmb 104 r hh
   have e:Je0 (H++104::T)=Jfo H T:=by unfold Je0;rw [if_pos hh,e1,e2]
   rw [e];exact pd_h _ _ _ _ _ _ hc (Jmp 104 H T hn hr) (J12 H T (by simp at hr;omega)) w
  ·by_cases hm:109∈r
   ·obtain⟨M,S,rfl,hn,e1,e2⟩:=Jmb 109 r hm
    have e:Je0 (M++109::S)=Jdk M S:=by unfold Je0;rw [if_neg hh,if_pos hm,e1,e2]
    rw [e];exact pd_m _ _ _ _ _ _ hc (Jev 104 _ hh) (Jmp 109 M S hn hr) (Jru M S) w
   ·by_cases h0:r=[48]
    ·have e:Je0 r=(0,0):=by unfold Je0;rw [if_neg hh,if_neg hm,if_pos h0]
     rw [e];exact Qbt _ _ (by rw [Lib.toList_data,h0];rfl) hc (Jev 104 _ hh) (Jev 109 _ hm) w
    ·obtain⟨v,_,_,ve,cf⟩:=first_any r
     have e:Je0 r=(bif Jdc r then v else 0,bif Jdc r then 0 else 3):=by
      unfold Je0;rw [if_neg hh,if_neg hm,if_neg h0];cases hF:Jdc r with
      | false=>rfl
      | true=>rw [ve hF];rfl
     rw [e];exact pd_s _ _ (by
      rw [Lib.toList_data,beq_eq_false_iff_ne];exact h0) v (Jdc r) hc (Jev 104 _ hh) (Jev 109 _ hm) cf w
open Go
end S1
section
open Go
open Go.RowKit
def Jdn (w:World):Prop:=S2.Good w∧S3.Good w∧S15.GoodR w∧Jpr w
theorem Jdn.below {w w':World} (h:Jdn w) (b:Pn w w'):Jdn w':=⟨h.1.below b,h.2.1.below b,h.2.2.1.below b,h.2.2.2.below b⟩
theorem J6a (l:Bs) (w:World):Pc 254 #[.string (str l)] w (.tuple #[.int .i64 (Joq l).1,.int .i64 (Joq l).2]):=by
 unfold Joq;by_cases hf:Jb0 l=true
 ·rw [if_pos hf]
  by_cases hp:Ji8 (Jbt l 0) (Jbt l 3) (Jbt l 6)
  ·rw [if_pos hp];exact Jzw (str l) hf hp w
  ·rw [if_neg hp];exact Jvh (str l) hf hp w
 ·rw [if_neg hf];exact Jou (str l) (by simpa using hf) w
theorem Jug (s:Bs):∀(l:List Bs) (k:Nat),(fdF (isN s) k l=-1∧l.findIdx? (fun x=>decide (x=s))=none)∨∃j:Nat,fdF (isN s) k l=(k:Int)+(j:Int)∧l.findIdx? (fun x=>decide (x=s))=some j
 | [],_=>.inl ⟨rfl,rfl⟩
 | x::l,k=>by
  unfold fdF;rw [List.findIdx?_cons];by_cases h:x=s
  ·have e:isN s x=true:=Pk h
   rw [if_pos e,if_pos (Pk h)];exact .inr ⟨0,Kj,rfl⟩
  ·have e:¬isN s x=true:=fun q=>h (of_decide_eq_true q)
   rw [if_neg e,if_neg (fun q=>h (of_decide_eq_true q))];rcases Jug s l (k+1) with ⟨h1,h2⟩ | ⟨j,h1,h2⟩
   ·exact .inl ⟨h1,by rw [h2];rfl⟩
   ·exact .inr ⟨j+1,by rw [h1];omega,by rw [h2];rfl⟩
theorem J13 (s:Bs):(fnd 3 nmL s).1=max (Jeq s) 0∧decide ((fnd 3 nmL s).2=0)=decide (0≤Jeq s):=by
 unfold Jeq fdT fnd;rcases Jug s nmL 0 with ⟨h1,h2⟩ | ⟨j,h1,h2⟩
 ·rw [h1,h2];exact V4
 ·rw [h1,h2]
  refine⟨?_,?_⟩
  ·show (j:Int)=max ((0:Nat)+(j:Int)) 0
   omega
  ·show decide ((0:Int)=0)=decide (0≤((0:Nat):Int)+(j:Int))
   rw [Pk rfl,Pk Kd]
theorem Qfd {w0:World} (hg:Jdn w0):Fo fmR w0 where
 num:=fun a ha w b=>S3.parse_any a Kd w (hg.below b).2.1
 prc:=fun a ha w b=>S3.pprice_any a Kd w (hg.below b).2.1
 tim:=fun a _ w _=>J6a a w
 dur:=fun a ha w _=>S1.parseDur_any a Kd w
 day:=fun a _ w b=>S2.dparse_any (str a) w (hg.below b).1
 mds:=fun a ha w b=>(S15.kprs_any a _ rfl Kd w (hg.below b).2.2.1).mono fun e w' h=>⟨h.1,by rw [←h.2];exact Pg⟩
 mode:=fun a _ w b=>(S15.parse_any a _ rfl w (hg.below b).2.2.1).mono fun e w' h=>⟨by rw [(J13 a).1,(J13 a).2];exact h.1,by rw [←h.2];exact Pg⟩
theorem Qfe (l:Bs):B64 (S2.dayR l).1:=by
 unfold S2.dayR;split
 ·split
  ·next h =>
   obtain⟨h1,h2,h3,h4,h5,h6⟩:=h;show B64 (S2.dayOf _ _ _)
   generalize (S2.val4 l:Int)=y at *;generalize (Jbt l 5:Int)=m at *;generalize (Jbt l 8:Int)=d at *;unfold S2.dayOf;have e1:=S2.bef_at (y - 2000).toNat (m - 1).toNat Kd;have e2:=S2.bef_succ (12*(y - 2000).toNat+(m - 1).toNat);have e3:=S2.bef_le (show 12*(y - 2000).toNat+(m - 1).toNat+1≤1200 by omega);have e4:S2.mon (12*(y - 2000).toNat+(m - 1).toNat)=S2.monN (y - 2000).toNat (m - 1).toNat:=by
    unfold S2.mon;rw [show (12*(y - 2000).toNat+(m - 1).toNat) / 12=(y - 2000).toNat by omega,show (12*(y - 2000).toNat+(m - 1).toNat) % 12=(m - 1).toNat by omega]
   rw [S2.bef_end] at e3;constructor <;> omega
  ·exact Gr
 ·exact Gr
theorem Qff (l:Bs):B64 (Joq l).1:=by
 unfold Joq;split
 ·split
  ·next h =>
   unfold Ji8 at h;exact Gq
  ·exact Gr
 ·exact Gr
theorem Qbu {l:Bs} (h:digs l=true) (hl:l.length≤2):valN l<100:=by
 have:=Jlg l h;have h2:10 ^ l.length≤10 ^ 2:=Nat.pow_le_pow_right Kl hl;omega
theorem Qfg (l:Bs):B64 (durR l).1:=by
 unfold durR;split
 ·unfold Je0
  split
  ·unfold Jfo
   split
   ·next h =>
    obtain⟨-,h1,h2,h3⟩:=h;split
    ·exact Gr
    ·next h4 =>
     have a:=Qbu ((Jc6 _).1 h3).2.2 Kd;have b:=((Jc3 _).1 h1).2.2;have c:=((Jc3 _).1 h2).2.2;exact Gq
   ·exact Gr
  ·split
   ·unfold Jdk
    split
    ·next h =>
     have b:=((Jc4 _).1 h.1).2.2;have c:=((Jc3 _).1 h.2).2.2;exact Gq
    ·exact Gr
   ·split
    ·exact Gr
    ·split
     ·next h =>
      have b:=((Jc4 _).1 h).2.2;exact⟨by show -9223372036854775808≤((_:Nat):Int);omega,by show ((_:Nat):Int)≤(9223372036854775807:Int);omega⟩
     ·exact Gr
 ·exact Gr
theorem Qbv:FmB fmR:=⟨Qff,Qfg,Qfe⟩
theorem Jfh {w:World} (hg:Jdn w) (s:Bs) (hs:s.length≤1099511627776):Calls prog 10 #[.string (str s)] w fun e w'=>PaR fmR s w e w' :=
 Qbr fmR Qbv (fun _ b=>Qfd (hg.below b)) hg.2.2.2 s hs
def s1 (x:Bs):List Value:=[.string (str x)]
theorem Qfh (x:Bs):(s1 x).length=1:=rfl
theorem J14:(prog.info? 9).map (fun i=>(i.zero,i.size,i.bytes))=some (some (.string ⟨#[]⟩),1,16):=Kk
def Wst (w0:World) (F:Nat) (ls:List Bs) (W:World):Prop:=∃v,Gst w0 F 125 [v] [tRow w0.heap.size ⟨9,1,v,ls.length,fl s1 ls⟩] W
def Wsx (w0:World) (F:Nat) (ls:List Bs) (xs:List Tng) (W:World):Prop:=∃v,Gst w0 F 125 [v] (tRow w0.heap.size ⟨9,1,v,ls.length,fl s1 ls⟩::xs) W
theorem Jfi (s:ByteArray) (n:Int) (w:World):Calls prog 145 #[.string s,.int .i64 n] w fun e w'=>e=.returned (.string s)∧w'=w:=by
 go_enter func145,ntmps145;exact Ki
theorem Qfi {w0 W:World} {F:Nat} {ls:List Bs} {xs:List Tng} (h:Wsx w0 F ls xs W) (hl:ls.length≤1000000) (f:Value) (fs:List Bs) (hf:Lst W f fs) (hn:fs.length≤64) (hx:∀x∈fs,x.length≤16384) :
  Calls prog 134 #[.pointer (some ⟨F,0,none⟩),f] W fun e w'=>e=.returned (.tuple #[])∧Wsx w0 F (ls++[(S4.joinR fs).1]) xs w':=by
 suffices hs:∀Z:World→Prop,(∀w',Wsx w0 F (ls++[(S4.joinR fs).1]) xs w'→Z w')→Calls prog 134 #[.pointer (some ⟨F,0,none⟩),f] W fun e w'=>e=.returned (.tuple #[])∧Z w' from hs _ (fun _ h=>h)
 intro Z hZ;have HZ:=Pe hZ;clear hZ;obtain⟨v,G⟩:=h;obtain⟨A0,c0,hv0,-⟩:=Jbx (G.row (i:=0) rfl);have hv0:v=.slice A0 ls.length c0:=hv0;subst hv0;obtain⟨W1,hW1⟩:=Pi (World.drew W);have bd:Pn W W1:=by rw [←hW1];exact (Below.refl _ _).drew
 have G1:=G.on bd;have hf1:Lst W1 f fs:=hf.below bd;have C0:=Pe (S4.fjoin_any f fs Kd hx W1 hf1);have S0:∀X,Gst w0 F 125 [.slice A0 ls.length c0] (tRow w0.heap.size ⟨9,1,.slice A0 ls.length c0,ls.length,fl s1 ls⟩::xs) X→X.cell? ⟨F,0,none⟩=some (.slice A0 ls.length c0):=fun X h=>(h.cell (i:=0) rfl).1
 generalize S4.joinR fs=jr at C0 HZ;obtain⟨ln,er⟩:=jr;dsimp only at C0 HZ;clear hf hf1 hx bd G;go_enter func134,ntmps134;go_wp2_with fail;refine Jeg (S:=fun X=>X.cell? ⟨F,0,none⟩=some (.slice A0 ls.length c0)) _ 15 14 rfl Kk Kk Kk (Jbm 15 0) Kk ?_;rw [hW1];refine Jd6 (L:=[(0,4,pt F 0),(1,5,pt F 0),(2,6,pt F 0),(3,7,pt F 0),(4,8,.slice A0 ls.length c0),(5,9,f)]) rfl (.q (.q (.q (.q (.cons rfl rfl (.inl ⟨rfl,fun _ h=>Uj⟩) (.q .nil)))))) [0,1,2,3,4,5] rfl rfl Kk (fun _ _ _ _ _ h=>h) (S0 _ G1) ?_;refine Qd3 (i:=6) (R:=fun u X=>u=.tuple #[.string (str ln),.int .i64 er]∧Pn W1 X) 10 _ rfl Kk rfl rfl rfl Kk (C0.out.mono fun e w' h=>⟨_,h.1,rfl,h.2⟩) ?_;rintro u w2 ⟨rfl,b2⟩;have G2:=G1.on b2;refine⟨S0 _ G2,?_⟩;refine Jd6 (L:=[(7,11,.string (str ln)),(8,12,.int .i64 er)]) rfl (.q (.q .nil)) [7,8] rfl rfl Kk (fun _ _ _ _ _ h=>h) (S0 _ G2) ?_;refine Qd3 (i:=9) (R:=fun u X=>u=.string (str ln)∧X=w2) 13 _ rfl Kk rfl rfl rfl Kk ((Jfi (str ln) er w2).mono fun e w' h=>⟨_,h.1,rfl,h.2⟩) ?_;rintro u w3 ⟨rfl,rfl⟩;refine⟨S0 _ G2,?_⟩;obtain⟨w6,h6⟩:=Pi (w3.alloc (.cells #[.string (str ln)] 9 (0,0)));have G6:=G2.on (W':=w6) Wz;have y6:=heap_alloc_new w3 (.cells #[.string (str ln)] 9 (0,0));rw [h6] at y6;refine Jc5 (i:=10) (v:=.slice (some ⟨w3.heap.size,0,none⟩) 1 1) (w':=w6) 14 _ rfl Kk rfl rfl rfl Ue (S0 _ G6) rfl ?_;obtain⟨v7,w7,hr7,o7,g7,p7⟩:=Jca (enc:=s1) Qfh Kl underlying66 J14 rfl Kl w6 66 w0.heap.size (.slice A0 ls.length c0) ls ln (fun u hu=>by simp only [s1,List.mem_cons,List.not_mem_nil,or_false] at hu;subst hu;rfl) (G6.row (i:=0) rfl) _ _ y6 rfl G6.base.size Kd;obtain⟨A7,c7,e7,-⟩:=Jbx o7;subst e7;have G7:=G6.turn (i:=0) (t':=tRow w0.heap.size ⟨9,1,.slice A7 (ls++[ln]).length c7,(ls++[ln]).length,fl s1 (ls++[ln])⟩) rfl g7 (tRow.at o7) p7;refine Jc5 (i:=11) (v:=.slice A7 (ls++[ln]).length c7) (w':=w7) 15 _ rfl Kk rfl rfl rfl (Ja7 (s:=.tmp 8) (x:=.tmp 14) (ST:=66) Kk Kk Kk hr7) (G7.cell (i:=0) rfl).1 rfl ?_;refine Jhy (L:=[(12,16,pt F 0),(13,17,pt F 0)]) (.q (.q .nil)) [12,13] rfl rfl Kk (G7.cell (i:=0) rfl).1 ?_;obtain⟨k0,k1⟩:=G7.cell (i:=0) rfl;refine Jeh (w':=w7.setCell ⟨F,0,none⟩ (.slice A7 (ls++[ln]).length c7)) _ rfl Kk rfl rfl rfl Wx ?_;refine Jhm Kk ?_;have GE:=Pe (HZ.out _ ⟨_,G7.put 0 (.slice A7 (ls++[ln]).length c7)⟩);clear G7 G6 G2 G1 k0 k1 hr7 o7 g7 p7 y6 h6 S0;generalize w7.setCell ⟨F,0,none⟩ (.slice A7 (ls++[ln]).length c7)=w8 at GE ⊢;go_wp2_with fail;go_end0;exact⟨rfl,GE.out⟩
def Wrs (w0:World) (F:Nat) (R:List (List Bs)) (W:World):Prop:=Wst w0 F (R.map Jas) W
structure Fw (F_:Fm) (w0:World):Prop where
 num:∀n,-9223372036854775808≤n→n≤9223372036854775807→∀w:World,Pn w0 w→Pc 135 #[.int .i64 n] w (.string (str (F_.numT n)))
 prc:∀n,0≤n→n≤1000000→∀w:World,Pn w0 w→Pc 225 #[.int .i64 n] w (.tuple #[.string (str (F_.prcT n)),.int .i64 0])
 tim:∀n,0≤n→n≤172800→∀w:World,Pn w0 w→Pc 223 #[.int .i64 n] w (.tuple #[.string (str (F_.timT n)),.int .i64 0])
 dur:∀n,0≤n→n≤86400→∀w:World,Pn w0 w→Pc 224 #[.int .i64 n] w (.tuple #[.string (str (F_.durT n)),.int .i64 0])
 day:∀n,0≤n→n≤36524→∀w:World,Pn w0 w→Pc 222 #[.int .i64 n] w (.tuple #[.string (str (F_.dayT n)),.int .i64 0])
 mds:∀n,0≤n→n≤255→∀w:World,Pn w0 w→Pc 146 #[.int .i64 n] w (.tuple #[.string (str (F_.mdsT n)),.int .i64 0])
 mode:∀m:Nat,m<8→∀w:World,Pn w0 w→Pc 137 #[.int .i64 (m:Int)] w (.tuple #[.string (str (nmR m)),.bool true])
theorem Jlf (b:Bool) (x y:ByteArray) (w:World):Calls prog 140 #[.bool b,.string x,.string y] w fun e w'=>e=.returned (.string (if b then x else y))∧w'=w:=by
 cases b with
 | true =>
  go_enter func140,ntmps140;exact Ki
 | false =>
  go_enter func140,ntmps140;exact Ki
theorem Jgx (b:Bool) (w:World):Calls prog 136 #[.bool b] w fun e w'=>e=.returned (.string (str (flgT b)))∧w'=w:=by
 have C:=Pe (Jlf b (str wYes) (str wNo) w);have e:(if b then str wYes else str wNo)=str (flgT b):=by cases b <;> rfl
 rw [e] at C;generalize str (flgT b)=s at C ⊢;go_enter func136,ntmps136;go_wp2_with fail;refine C.out.mono ?_;rintro r w1 ⟨rfl,rfl⟩;exact Ki
section
variable {w:World} {n:Int} {s:ByteArray} {e:Int}
theorem Jgy (C:Pc 223 #[.int .i64 n] w (.tuple #[.string s,.int .i64 e])):Pc 141 #[.int .i64 n] w (.string s):=by
 have C:=Pe C;go_enter func141,ntmps141;go_wp2_with fail;refine C.out.mono ?_;rintro r w1 ⟨rfl,b⟩;have B:=Pe b;have D:=Pe (Jfi s e w1);clear b C;go_wp2_with fail;refine D.out.mono ?_;exact Gp
theorem Jdo (C:Pc 224 #[.int .i64 n] w (.tuple #[.string s,.int .i64 e])):Pc 143 #[.int .i64 n] w (.string s):=by
 have C:=Pe C;go_enter func143,ntmps143;go_wp2_with fail;refine C.out.mono ?_;rintro r w1 ⟨rfl,b⟩;have B:=Pe b;have D:=Pe (Jfi s e w1);clear b C;go_wp2_with fail;refine D.out.mono ?_;exact Gp
theorem Jm1 (C:Pc 222 #[.int .i64 n] w (.tuple #[.string s,.int .i64 e])):Pc 139 #[.int .i64 n] w (.string s):=by
 have C:=Pe C;go_enter func139,ntmps139;go_wp2_with fail;refine C.out.mono ?_;rintro r w1 ⟨rfl,b⟩;have B:=Pe b;have D:=Pe (Jfi s e w1);clear b C;go_wp2_with fail;refine D.out.mono ?_;exact Gp
theorem Jhq (C:Pc 225 #[.int .i64 n] w (.tuple #[.string s,.int .i64 e])):Pc 144 #[.int .i64 n] w (.string s):=by
 have C:=Pe C;go_enter func144,ntmps144;go_wp2_with fail;refine C.out.mono ?_;rintro r w1 ⟨rfl,b⟩;have B:=Pe b;have D:=Pe (Jfi s e w1);clear b C;go_wp2_with fail;refine D.out.mono ?_;exact Gp
end
theorem Qfj {w0:World} (hg:Jdn w0):Fw fmR w0 where
 num:=fun n h0 h1 w _=>S3.format_any n h0 h1 w
 prc:=fun n h0 h1 w _=>by
  have:=S3.fprice_yes n n.toNat (Int.toNat_of_nonneg h0).symm h1 w;exact this
 tim:=fun n h0 h1 w _=>Jve n h0 h1 w
 dur:=fun n h0 h1 w _=>Jvf n h0 Kd w
 day:=fun n h0 h1 w b=>by
  obtain⟨x,y⟩:=J0i n.toNat 1200 (by rw [S2.bef_end];omega);have:=S2.dformat_yes (monD 1200 n.toNat) n.toNat y x w (hg.below b).1;rwa [Int.toNat_of_nonneg h0] at this
 mds:=fun n h0 h1 w b=>by
  have:=S15.kfmt_any n Kd Kd w (hg.below b).2.2.1;have e:Go.Proofs.YtpifdbphmnifdaaGreatDoor.fmtR n=(textR n.toNat,0):=by unfold Go.Proofs.YtpifdbphmnifdaaGreatDoor.fmtR;rw [if_neg Kd]
  rw [e] at this;exact this
 mode:=fun m hm w b=>(S15.name_any m hm w (hg.below b).2.2.1).mono fun e w' h=>⟨h.1,by rw [←h.2];exact Pg⟩
theorem J15 (s a d:Int) (b l:Bool) (w:World):Pc 142 #[.agg #[.int .i64 s,.int .i64 a,.int .i64 d,.bool b,.bool l]] w (.string (str (prmT b l))):=by
 have e1:∀t fr,(w.alloc (.cells #[.int .i64 s,.int .i64 a,.int .i64 d,.bool b,.bool l] t fr)).cell? ⟨w.heap.size,3,none⟩=some (.bool b):=fun t fr=>by
  rw [cell_of_row _ _ _ _ _ _ (heap_alloc_new w _)];rfl
 have e2:∀t fr,(w.alloc (.cells #[.int .i64 s,.int .i64 a,.int .i64 d,.bool b,.bool l] t fr)).cell? ⟨w.heap.size,4,none⟩=some (.bool l):=fun t fr=>by
  rw [cell_of_row _ _ _ _ _ _ (heap_alloc_new w _)];rfl
 have B:Hid (∀o,Pn w (w.alloc o)):=Pe (fun o=>(Below.refl _ _).alloc Ph o);cases b with
 | true =>
  cases l with
  | true =>
   exact Gn
  | false =>
   exact Gn
 | false =>
  cases l with
  | true =>
   exact Gn
  | false =>
   exact Gn
def wkF (k:Nat→Bool) (j:Nat):Array Value:=((List.range 7).map fun i=>if i<j then Value.int .u8 (if k i then 49 else 48) else .int .u8 0).toArray
theorem Juh (k:Nat→Bool) (j:Nat) (hj:j<7) (d:Int) (hd:d=if k j then 49 else 48):(wkF k j).setIfInBounds j (.int .u8 d)=wkF k (j+1):=by
 subst hd;match j,hj with
 | 0,_ | 1,_ | 2,_ | 3,_ | 4,_ | 5,_ | 6,_=>rfl
theorem Qfk (k:Nat→Bool) (j:Nat) (hj:j<7):(wkF k j)[j]?=some (.int .u8 0):=by
 match j,hj with
 | 0,_ | 1,_ | 2,_ | 3,_ | 4,_ | 5,_ | 6,_=>rfl
abbrev wkA (k:Nat→Bool):Array Value:=#[.bool (k 0),.bool (k 1),.bool (k 2),.bool (k 3),.bool (k 4),.bool (k 5),.bool (k 6)]
theorem Qfl (k:Nat→Bool) (j:Nat) (hj:j<7):(wkA k)[j]?=some (.bool (k j)):=by
 match j,hj with
 | 0,_ | 1,_ | 2,_ | 3,_ | 4,_ | 5,_ | 6,_=>rfl
theorem Qbw (k:Nat→Bool) (j:Nat) (hj:j<7) (W:World):(Instr.index 59 (.agg (wkA k)) (.int .i64 (j:Int))).run prog W=.ok (.bool (k j)) W:=by
 have hT:=underlying59;have h:=Qfl k j hj;have hn:(0:Int)≤(j:Int)∧(j:Int)<7:=Kd;generalize wkA k=c at h;simp [Instr.index,run_underlying hT,asIntOf,hn,h,go_sem];try (intro q;omega)
theorem Qbx (B k:Nat) (hk:k<7) (W:World):(Instr.indexAt 228 (.pointer (some ⟨B,0,none⟩)) (.int .i64 (k:Int))).run prog W=.ok (.pointer (some ⟨B,k,none⟩)) W:=by
 have hT:=underlying228;have he:prog.elem 228=5:=Ju;have hl:prog.arrayLen 228=7:=Jt;rw [run_indexAt_array W 228 _ _ _ (by rw [he,hl];exact hT),hl,he,if_pos Kd];simp [sizeOf5,Addr.add];try exact fun h=>h.symm
theorem J16 (k:Nat→Bool) (w:World):Pc 138 #[.agg (wkA k)] w (.string (str (wkT k))):=by
 have H0:(w.alloc (.cells (wkA k) 59 (0,0))).heap[w.heap.size]?=some (.cells (wkA k) 59 (0,0)):=heap_alloc_new w _;obtain⟨w1,h1⟩:=Pi (w.alloc (.cells (wkA k) 59 (0,0)));rw [h1] at H0;have hs1:w1.heap.size=w.heap.size+1:=by rw [←h1];simp
 have b1:Pn w w1:=by rw [←h1];exact (Below.refl _ _).alloc Ph _
 obtain⟨w2,h2⟩:=Pi (w1.alloc (.cells #[.int .u8 0,.int .u8 0,.int .u8 0,.int .u8 0,.int .u8 0,.int .u8 0,.int .u8 0] 228 (0,0)));have b2:Pn w w2:=by rw [←h2];exact b1.alloc Kd _
 have H1:w2.heap[w1.heap.size]?=some (.cells (wkF k 0) 228 (0,0)):=by rw [←h2];exact heap_alloc_new w1 _
 have H2:w2.heap[w.heap.size]?=some (.cells (wkA k) 59 (0,0)):=by rw [←h2];exact Jjw _ _ H0
 rw [hs1] at H1;have c0:w2.cell? ⟨w.heap.size,0,none⟩=some (.bool (k 0)):=Gm;have c1:w2.cell? ⟨w.heap.size,1,none⟩=some (.bool (k 1)):=Gm;have c2:w2.cell? ⟨w.heap.size,2,none⟩=some (.bool (k 2)):=Gm;have c3:w2.cell? ⟨w.heap.size,3,none⟩=some (.bool (k 3)):=Gm;have c4:w2.cell? ⟨w.heap.size,4,none⟩=some (.bool (k 4)):=Gm;have c5:w2.cell? ⟨w.heap.size,5,none⟩=some (.bool (k 5)):=Gm;have c6:w2.cell? ⟨w.heap.size,6,none⟩=some (.bool (k 6)):=Gm;have I0:Hid (w2.heap[w.heap.size+1]?=some (.cells (wkF k 0) 228 (0,0))∧Pn w w2):=Pe ⟨H1,b2⟩;clear H1 H2 b2 b1 H0;go_enter func138,ntmps138;go_wp2_with fail;clear c0 c1 c2 c3 c4 c5 c6 h1 h2 hs1;go_loopw [7] (fun i wr=>∃j:Nat,i=.int .i64 j∧j≤7∧Hid (wr.heap[w.heap.size+1]?=some (.cells (wkF k j) 228 (0,0))∧Pn w wr)) (fun i _=>7 - (intOf i).toNat);case atStart=>exact⟨0,rfl,Nat.zero_le _,I0⟩
 case round =>
  obtain⟨j,rfl,hj,HK⟩:=hrel;by_cases hlt:j<7
  ·have gk:(j:Int)<7:=Kd
   have ia:=fun X=>Qbw k j hlt X
   have ix:=fun X=>Qbx (w.heap.size+1) j hlt X
   have m0:wr.cell? ⟨w.heap.size+1,j,none⟩=some (.int .u8 0):=by rw [cell_of_row _ _ _ _ _ _ HK.out.1];exact Qfk k j hlt
   have f0:=frozen_of_row wr (w.heap.size+1) j _ _ HK.out.1;have st:∀d,d=(if k j then 49 else 48:Int)→Hid ((wr.setCell ⟨w.heap.size+1,j,none⟩ (.int .u8 d)).heap[w.heap.size+1]?=some (.cells (wkF k (j+1)) 228 (0,0))∧Pn w (wr.setCell ⟨w.heap.size+1,j,none⟩ (.int .u8 d))):=fun d hd=>Pe ⟨by rw [heap_setCell_same _ _ _ _ _ _ HK.out.1,Juh k j hlt d hd],Jc8 HK.out.2 (Jbp wr _ _ _) (fun q e=>by cases e;omega)⟩
   have st2:Hid ((((wr.setCell ⟨w.heap.size+1,j,none⟩ (.int .u8 48)).setCell ⟨w.heap.size+1,j,none⟩ (.int .u8 49))).heap[w.heap.size+1]?=some (.cells ((wkF k j).setIfInBounds j (.int .u8 49)) 228 (0,0))∧Pn w ((wr.setCell ⟨w.heap.size+1,j,none⟩ (.int .u8 48)).setCell ⟨w.heap.size+1,j,none⟩ (.int .u8 49))):=Pe ⟨by
    rw [heap_setCell_same _ _ _ _ _ _ (heap_setCell_same _ _ _ _ _ _ HK.out.1)];congr 2;simp [Array.setIfInBounds_setIfInBounds],Jc8 (Jc8 HK.out.2 (Jbp wr _ _ _) (fun q e=>by cases e;omega)) (Jbp _ _ _ _) (fun q e=>by cases e;omega)⟩
   cases hk:k j with
   | true =>
    rw [hk] at ia;have K2:Hid ((((wr.setCell ⟨w.heap.size+1,j,none⟩ (.int .u8 48)).setCell ⟨w.heap.size+1,j,none⟩ (.int .u8 49))).heap[w.heap.size+1]?=some (.cells (wkF k (j+1)) 228 (0,0))∧Pn w ((wr.setCell ⟨w.heap.size+1,j,none⟩ (.int .u8 48)).setCell ⟨w.heap.size+1,j,none⟩ (.int .u8 49))):=Pe (by
     have:=st2.out;rwa [Juh k j hlt 49 (by rw [hk];rfl)] at this)
    clear st st2 HK I0 hk;go_wp2_with fail;go_roundw;case rel=>exact⟨j+1,Kg,Kd,K2⟩
    case measure=>exact Qz
   | false =>
    rw [hk] at ia;have K2:=st 48 (by rw [hk];rfl);clear st st2 HK I0 hk;go_wp2_with fail;go_roundw;case rel=>exact⟨j+1,Kg,Kd,K2⟩
    case measure=>exact Qz
  ·obtain rfl:j=7:=Kd
   have d:decide (((7:Nat):Int)<7)=false:=rfl;have CV:(convert 155 9 (.slice (some ⟨w.heap.size+1,0,none⟩) 7 7)).run prog wr=.ok (.string (str (wkT k))) wr:=by
    refine run_convert_bytes_back wr 155 9 5 ⟨w.heap.size+1,0,none⟩ 7 (wkT k) underlying155 underlying5 underlying9 (fun j hj=>?_);have hj:j<7:=hj;have hadd:(⟨w.heap.size+1,0,none⟩:Addr).add j=⟨w.heap.size+1,j,none⟩:=Ks;rw [hadd,cell_of_row _ _ _ _ _ _ HK.out.1];match j,hj with
    | 0,_=>show some (Value.int .u8 (if k 0 then 49 else 48))=some (.int .u8 (((if k 0 then 49 else 48:UInt8).toNat:Int)));cases k 0 <;> rfl
    | 1,_=>show some (Value.int .u8 (if k 1 then 49 else 48))=some (.int .u8 (((if k 1 then 49 else 48:UInt8).toNat:Int)));cases k 1 <;> rfl
    | 2,_=>show some (Value.int .u8 (if k 2 then 49 else 48))=some (.int .u8 (((if k 2 then 49 else 48:UInt8).toNat:Int)));cases k 2 <;> rfl
    | 3,_=>show some (Value.int .u8 (if k 3 then 49 else 48))=some (.int .u8 (((if k 3 then 49 else 48:UInt8).toNat:Int)));cases k 3 <;> rfl
    | 4,_=>show some (Value.int .u8 (if k 4 then 49 else 48))=some (.int .u8 (((if k 4 then 49 else 48:UInt8).toNat:Int)));cases k 4 <;> rfl
    | 5,_=>show some (Value.int .u8 (if k 5 then 49 else 48))=some (.int .u8 (((if k 5 then 49 else 48:UInt8).toNat:Int)));cases k 5 <;> rfl
    | 6,_=>show some (Value.int .u8 (if k 6 then 49 else 48))=some (.int .u8 (((if k 6 then 49 else 48:UInt8).toNat:Int)));cases k 6 <;> rfl
   have B:=Pe HK.out.2;clear HK I0;obtain⟨s,hs⟩:=Pi (str (wkT k));rw [hs] at CV;have HS:=Pe hs;clear hs;go_wp2_with fail;go_ret;exact⟨by cases HS.out;rfl,B.out⟩
theorem Jd7 {w:World} {b:Nat} {a:Nat→Option Addr} {c:Nat→Nat} {T:Tt} (h:w.heap[b]?=some (Jbh a c T)):w.cell? ⟨b,0,none⟩=some (.slice (a 0) T.st.length (c 0))∧w.cell? ⟨b,1,none⟩=some (.slice (a 1) T.ro.length (c 1))∧w.cell? ⟨b,2,none⟩=some (.slice (a 2) T.ca.length (c 2))∧w.cell? ⟨b,3,none⟩=some (.slice (a 3) T.ex.length (c 3))∧w.cell? ⟨b,4,none⟩=some (.slice (a 4) T.tr.length (c 4))∧w.cell? ⟨b,5,none⟩=some (.slice (a 5) T.fr.length (c 5))∧w.cell? ⟨b,6,none⟩=some (.slice (a 6) T.th.length (c 6))∧w.cell? ⟨b,7,none⟩=some (.slice (a 7) T.gu.length (c 7))∧w.cell? ⟨b,8,none⟩=some (.slice (a 8) T.pa.length (c 8))∧w.cell? ⟨b,9,none⟩=some (.slice (a 9) T.pr.length (c 9))∧w.cell? ⟨b,10,none⟩=some (.int .i64 T.di)∧w.cell? ⟨b,11,none⟩=some (.int .i64 T.wi)∧w.cell? ⟨b,12,none⟩=some (.int .i64 T.cp):=⟨Ge,Ge,Ge,Ge,Ge,Ge,Ge,Ge,Ge,Ge,Ge,Ge,Ge⟩
theorem Qby (F_:Fm) {w:World} {a:Nat→Option Addr} {c:Nat→Nat} {T:Tt} (h:TtL w a c T) (man:manT T=true) (ok:OkTt T) (ln:LnTt T)
  (CN:∀w1:World,Pn w w1→(ttC T).2.2=0→Calls prog 34 #[ttV a c T] w1 fun e w'=>∃v,e=.returned v∧Lst w' v ((rows F_ T).map Jas)∧Pn w1 w')
  (hn:(ttC T).2.2=0→(rows F_ T).length≤20000∧(∀l∈(rows F_ T).map Jas,l.length≤16384)∧S4.textR ((rows F_ T).map Jas)=if 65536<(Jez F_ T).length then ([],5) else (Jez F_ T,0)) :
  Pc 14 #[ttV a c T] w (.tuple #[.string (str (feedF F_ T).1),.int .i64 (feedF F_ T).2]):=by
 obtain⟨w7,h7⟩:=Pi (w.alloc (Jbh a c T));obtain⟨b7,s7,c7⟩:=Jcb h7;have CC:=ckM a c T w7 man ok ln (h.below b7);by_cases h0:(ttC T).2.2=0
 ·obtain⟨n1,n2,n3⟩:=hn h0
  have hf:feedF F_ T=S4.textR ((rows F_ T).map Jas):=by unfold feedF;rw [if_neg (fun q=>q h0),n3]
  rw [hf];rw [h0] at CC;have CN:=Pe (fun w1 b=>CN w1 b h0);have CT:=Pe (fun v w2 (hv:Lst w2 v ((rows F_ T).map Jas))=>S4.ftext_any v ((rows F_ T).map Jas) (by rw [Pq];exact n1) n2 w2 hv);have CC:=Pe CC;generalize S4.textR ((rows F_ T).map Jas)=tr at CT ⊢;generalize (ttC T).1=t1 at CC;generalize (ttC T).2.1=t2 at CC;have H7:=Pe (And.intro b7 (And.intro s7 c7));obtain⟨q0,q1,q2,q3,q4,q5,q6,q7,q8,q9,q10,q11,q12⟩:=Jd7 c7;clear n1 n2 n3 hf h man ok ln hn h0 b7 s7 c7;go_enter func14,ntmps14;go_wp2_with fail;refine CC.out.mono ?_;rintro r w1 ⟨rfl,b1⟩;have B1:=Pe (H7.out.1.trans (b1.mono H7.out.1.size));have C2:=Pe (CN.out w1 B1.out);clear q0 q1 q2 q3 q4 q5 q6 q7 q8 q9 q10 q11 q12;obtain⟨q0,q1,q2,q3,q4,q5,q6,q7,q8,q9,q10,q11,q12⟩:=Jd7 (w:=w1) ((b1.block _ H7.out.2.1).trans H7.out.2.2);clear b1 CC CN;go_wp2_with fail;refine C2.out.mono ?_;rintro r w2 ⟨v,rfl,hv,b2⟩;have C3:=Pe (CT.out v w2 hv);have B2:=Pe (B1.out.trans (b2.mono B1.out.size));clear hv b2 C2 CT B1;go_wp2_with fail;refine C3.out.mono ?_;rintro r w3 ⟨rfl,b3⟩;have B3:=Pe (B2.out.trans (b3.mono B2.out.size));clear b3 C3 B2;go_wp2_with fail;go_ret2;exact⟨rfl,B3.out⟩
 ·have hf:feedF F_ T=([],(ttC T).2.2):=by unfold feedF;rw [if_pos h0]
  rw [hf];generalize (ttC T).2.2=t3 at CC h0 ⊢;have CC:=Pe CC;have H7:=Pe (And.intro b7 (And.intro s7 c7));obtain⟨q0,q1,q2,q3,q4,q5,q6,q7,q8,q9,q10,q11,q12⟩:=Jd7 c7;clear CN hn h man ok ln hf b7 s7 c7;go_enter func14,ntmps14;go_wp2_with fail;refine CC.out.mono ?_;rintro r w1 ⟨rfl,b1⟩;have B1:=Pe (H7.out.1.trans (b1.mono H7.out.1.size));clear b1 CC;go_wp2_with fail;go_ret2;exact⟨rfl,B1.out⟩
abbrev faV (a:Nat→Option Addr) (c:Nat→Nat) (T:Tt):Value:=.agg #[.slice (a 9) T.pr.length (c 9),.int .i64 T.di,.int .i64 T.wi,.int .i64 T.cp]
theorem Qbz {w0 W:World} {F:Nat} (hF:w0.heap.size≤F) (hb:W.heap[F]?=some (.cells #[.slice none 0 0] 125 (0,0))) (b:Pn w0 W):Wrs w0 F [] W:=by
 refine⟨.slice none 0 0,⟨hb,hF,fun i t h=>?_,fun i t h e=>?_,fun i j x y hij hx hy g hg e=>?_,b⟩⟩
 ·match i with
  | 0=>cases h;exact tRow.at (World.ownsRow_nil _ _ _ _)
  | i+1=>simp at h
 ·match i with
  | 0=>cases h;cases e
  | i+1=>simp at h
 ·match i with
  | 0=>cases hx;cases hg
  | i+1=>simp at hx
theorem fl_s1 (l:List Bs):fl s1 l=sts l:=by
 induction l with
 | nil=>rfl
 | cons x l ih=>show .string (str x)::fl s1 l=_;rw [ih];rfl
theorem Qfm {W:World} {base n:Nat} {v:Value} {l:List Bs} (h:W.ownsRow base 9 1 v n (fl s1 l)) (hn:n=l.length:=by rfl):Lst W v l:=by
 subst hn;rw [fl_s1] at h;exact OwnS.lst (base:=base) h
theorem J17 {w₀:World} {a:Nat→Option Addr} {c:Nat→Nat} {T:Tt} {R1 R2 R3 R4:List (List Bs)}
  (P:∀(w:World) F,Pn w₀ w→w.heap.size≤F→(∀W,Wrs w F [] W→Calls prog 54 #[.pointer (some ⟨F,0,none⟩),ttV a c T] W fun e w'=>e=.returned (.tuple #[])∧Wrs w F R1 w')∧(∀W,Wrs w F R1 W→Calls prog 55 #[.pointer (some ⟨F,0,none⟩),ttV a c T] W fun e w'=>e=.returned (.tuple #[])∧Wrs w F R2 w')∧(∀W,Wrs w F R2 W→Calls prog 56 #[.pointer (some ⟨F,0,none⟩),ttV a c T] W fun e w'=>e=.returned (.tuple #[])∧Wrs w F R3 w')∧(∀W,Wrs w F R3 W→Calls prog 57 #[.pointer (some ⟨F,0,none⟩),faV a c T] W fun e w'=>e=.returned (.tuple #[])∧Wrs w F R4 w')) :
  Calls prog 34 #[ttV a c T] w₀ fun e w'=>∃v,e=.returned v∧Lst w' v (R4.map Jas)∧Pn w₀ w':=by
 obtain⟨w7,h7⟩:=Pi (w₀.alloc (Jbh a c T));obtain⟨b7,s7,c7⟩:=Jcb h7;have e7:w7.heap.size=w₀.heap.size+1:=by rw [←h7];simp
 obtain⟨w2,h2⟩:=Pi (w7.alloc (.cells #[.slice none 0 0] 125 (0,0)));have y2:w2.heap[w7.heap.size]?=some (.cells #[.slice none 0 0] 125 (0,0)):=by rw [←h2];exact heap_alloc_new _ _
 have n2:Pn w7 w2:=by rw [←h2];exact (Below.refl _ _).alloc Ph _
 have W2:=Qbz Ph y2 n2;have PP:=Pe (P w7 w7.heap.size b7 Ph);have KB:=Pe (fun (W:World) (R:List (List Bs)) (h:Wrs w7 w7.heap.size R W)=>(by
  obtain⟨v,G⟩:=h;exact (G.base.block _ s7).trans c7:W.heap[w₀.heap.size]?=some (Jbh a c T)))
 have KE:=Pe (fun (W:World) (h:Wrs w7 w7.heap.size R4 W)=>(by
  obtain⟨v,G⟩:=h;exact⟨v,(G.cell (i:=0) rfl).1,Qfm (G.row (i:=0) rfl),b7.trans (G.base.mono Kd)⟩:∃v,W.cell? ⟨w7.heap.size,0,none⟩=some v∧Lst W v (R4.map Jas)∧Pn w₀ W))
 have C1:=Pe (PP.out.1 w2 W2);obtain⟨q0,q1,q2,q3,q4,q5,q6,q7,q8,q9,q10,q11,q12⟩:=Jd7 (KB.out w2 _ W2);rw [e7] at C1 PP KE KB;clear P W2 y2 n2 b7 s7 c7;go_enter func34,ntmps34;go_wp2_with fail;refine C1.out.mono ?_;rintro r w3 ⟨rfl,s1⟩;clear q0 q1 q2 q3 q4 q5 q6 q7 q8 q9 q10 q11 q12;obtain⟨q0,q1,q2,q3,q4,q5,q6,q7,q8,q9,q10,q11,q12⟩:=Jd7 (w:=w3) (KB.out w3 _ s1);have C2:=Pe (PP.out.2.1 w3 s1);have S1:=Pe s1;clear s1 C1;go_wp2_with fail;refine C2.out.mono ?_;rintro r w4 ⟨rfl,s2⟩;clear q0 q1 q2 q3 q4 q5 q6 q7 q8 q9 q10 q11 q12;obtain⟨q0,q1,q2,q3,q4,q5,q6,q7,q8,q9,q10,q11,q12⟩:=Jd7 (w:=w4) (KB.out w4 _ s2);have C3:=Pe (PP.out.2.2.1 w4 s2);have S2:=Pe s2;clear s2 C2;go_wp2_with fail;refine C3.out.mono ?_;rintro r w5 ⟨rfl,s3⟩;clear q0 q1 q2 q3 q4 q5 q6 q7 q8 q9 q10 q11 q12;obtain⟨q0,q1,q2,q3,q4,q5,q6,q7,q8,q9,q10,q11,q12⟩:=Jd7 (w:=w5) (KB.out w5 _ s3);have C4:=Pe (PP.out.2.2.2 w5 s3);have S3:=Pe s3;clear s3 C3;go_wp2_with fail;refine C4.out.mono ?_;rintro r w6 ⟨rfl,s4⟩;clear q0 q1 q2 q3 q4 q5 q6 q7 q8 q9 q10 q11 q12;obtain⟨v,q0,hv,hb⟩:=KE.out w6 s4;have HV:=Pe (And.intro hv hb);clear s4 C4 hv hb;go_wp2_with fail;go_ret;exact⟨v,rfl,HV.out⟩
end
end Go.Proofs.YtpifdbphmnifdaaGreatDoor
