/-
  Facts of the proof. Condition: each theorem's own.
-/
import Derived.Test.YtpifdbphmnifdaaGreatDoorYI24
set_option maxRecDepth 100000
set_option maxHeartbeats 8000000
open Go.Proofs.Tryz
namespace Go.Proofs.YtpifdbphmnifdaaGreatDoor
namespace S1
open Go.RowKit
theorem Jyc (s:ByteArray) (h:0<s.size):s.toList.isEmpty=false:=by
 rw [Lib.toList_data];have:s.data.toList.length=s.size:=rfl;cases hl:s.data.toList with
 | nil=>rw [hl] at this;simp at this;omega
 | cons a t=>rfl
theorem Jyd (s:ByteArray) (h:s.size=0) (w:World) :
  Calls prog 356 #[.string s] w fun e w'=>e=.returned (.bool false)∧Below w.heap.size w w':=by
 obtain rfl:s=⟨#[]⟩:=by
  obtain⟨⟨l⟩⟩:=s;have:l.length=0:=h;cases l with
  | nil=>rfl
  | cons a t=>simp at this
 go_enter func356,ntmps356
 go_wp2_with fail
 go_ret;exact⟨rfl,Below.refl _ _⟩
theorem Js1 (s:ByteArray) (h:0<s.size) (h0:s[0].toNat=48) (w:World) :
  Calls prog 356 #[.string s] w fun e w'=>e=.returned (.bool false)∧Below w.heap.size w w':=by
 have hn:=Jyc s h;have k0:∀W,(Instr.index 9 (.string s) (.int .i64 0)).run prog W=.ok (.int .u8 s[0].toNat) W:=Jd9 s 0 h;have c0:(((s[0].toNat:Nat):Int) != 48)=false:=by rw [h0];rfl
 clear h0;go_enter func356,ntmps356
 go_wp2_with fail
 go_ret;exact⟨rfl,Below.refl _ _⟩
theorem Js2 (s:ByteArray) (h:0<s.size) (h0:s[0].toNat≠48) (hd:digs s.data.toList=false) (w:World) :
  Calls prog 356 #[.string s] w fun e w'=>e=.returned (.bool false)∧Below w.heap.size w w':=by
 have hn:=Jyc s h;have k0:∀W,(Instr.index 9 (.string s) (.int .i64 0)).run prog W=.ok (.int .u8 s[0].toNat) W:=Jd9 s 0 h;have c0:(((s[0].toNat:Nat):Int) != 48)=true:=Jae (by omega);have HD:=Lib.hid hd;clear h0 hd;go_enter func356,ntmps356
 go_wp2_with fail
 refine (allDigits_no s HD.out _).mono ?_;rintro e w1 ⟨rfl,b1⟩;go_wp2_with fail
 go_ret;exact⟨rfl,b1⟩
theorem J2t (s:ByteArray) (h:0<s.size) (h0:s[0].toNat≠48) (hd:digs s.data.toList=true) (w:World) :
  Calls prog 356 #[.string s] w fun e w'=>e=.returned (.bool true)∧Below w.heap.size w w':=by
 have hn:=Jyc s h;have k0:∀W,(Instr.index 9 (.string s) (.int .i64 0)).run prog W=.ok (.int .u8 s[0].toNat) W:=Jd9 s 0 h;have c0:(((s[0].toNat:Nat):Int) != 48)=true:=Jae (by omega);have HD:=Lib.hid hd;clear h0 hd;go_enter func356,ntmps356
 go_wp2_with fail
 refine (allDigits_yes s HD.out _).mono ?_;rintro e w1 ⟨rfl,b1⟩;go_wp2_with fail
 go_ret;exact⟨rfl,b1⟩
theorem Jdv (l:List UInt8) (w:World) :
  Calls prog 356 #[.string (str l)] w fun e w'=>e=.returned (.bool (posD l))∧Below w.heap.size w w':=by
 have hz:=Jaf l;cases l with
 | nil=>exact Jyd _ hz w
 | cons c t =>
  have h:0<(str (c::t)).size:=by rw [hz];simp
  have hc:(str (c::t))[0]=c:=rfl;by_cases h0:c.toNat=48
  ·obtain rfl:c=48:=UInt8.toNat_inj.1 h0
   have hp:posD (48::t)=false:=by unfold posD;simp
   rw [hp];exact Js1 _ h h0 w
  ·have hne:c≠48:=fun hx=>h0 (by rw [hx];rfl)
   cases hd:digs (c::t) with
   | false =>
    have hp:posD (c::t)=false:=by unfold posD;rw [hd];simp
    rw [hp];exact Js2 _ h h0 hd w
   | true =>
    have hp:posD (c::t)=true:=(Jdb _).2 ⟨by simp,by simp [hne],hd⟩;rw [hp];exact J2t _ h h0 hd w
theorem Jdw (l:List UInt8) (hd:digs l=true) (hl:l.length≤6) (w:World) :
  Calls prog 322 #[.string (str l)] w fun e w'=>e=.returned (.int .i64 (valN l))∧Below w.heap.size w w' :=
 Jlw (str l) hd (by rw [Jaf];exact hl) w
theorem Jye (l:List UInt8) (h:l.length≠2) (w:World) :
  Calls prog 355 #[.string (str l)] w fun e w'=>e=.returned (.tuple #[.int .i64 0,.bool false])∧Below w.heap.size w w':=by
 have hz:=Jaf l;have c0:(((str l).size:Int) != 2)=true:=Jae (by omega);clear hz h;generalize str l=s at c0 ⊢;go_enter func355,ntmps355
 go_wp2_with fail
 go_ret2;exact⟨rfl,Below.refl _ _⟩
theorem Js3 (l:List UInt8) (h:l.length=2) (hd:digs l=false) (w:World) :
  Calls prog 355 #[.string (str l)] w fun e w'=>e=.returned (.tuple #[.int .i64 0,.bool false])∧Below w.heap.size w w':=by
 have hz:=Jaf l;have c0:(((str l).size:Int) != 2)=false:=by rw [hz,h];rfl
 have HC:=Lib.hid (allDigits_no (str l) hd);clear hz h hd;generalize str l=s at c0 HC ⊢;go_enter func355,ntmps355
 go_wp2_with fail
 refine (HC.out _).mono ?_;rintro e w1 ⟨rfl,b1⟩;go_wp2_with fail
 go_ret2;exact⟨rfl,b1⟩
theorem Jyf (l:List UInt8) (h:l.length=2) (hd:digs l=true) (hv:¬valN l<60) (w:World) :
  Calls prog 355 #[.string (str l)] w fun e w'=>e=.returned (.tuple #[.int .i64 0,.bool false])∧Below w.heap.size w w':=by
 have hz:=Jaf l;have c0:(((str l).size:Int) != 2)=false:=by rw [hz,h];rfl
 have HC:=Lib.hid (allDigits_yes (str l) hd);have HV:=Lib.hid (Jdw l hd (by omega));clear hz h hd;generalize str l=s at c0 HC HV ⊢;go_enter func355,ntmps355
 go_wp2_with fail
 refine (HC.out _).mono ?_;rintro e w1 ⟨rfl,b1⟩;go_wp2_with fail
 refine (HV.out _).mono ?_;rintro e w2 ⟨rfl,b2⟩;go_wp2_with fail
 refine (Jd4 _ (by omega) _).mono ?_;rintro e w3 ⟨rfl,rfl⟩;go_wp2_with fail
 go_ret2;exact⟨rfl,b1.trans (b2.mono b1.size)⟩
theorem J2u (l:List UInt8) (h:l.length=2) (hd:digs l=true) (hv:valN l<60) (w:World) :
  Calls prog 355 #[.string (str l)] w fun e w'=>e=.returned (.tuple #[.int .i64 (valN l),.bool true])∧Below w.heap.size w w':=by
 have hz:=Jaf l;have c0:(((str l).size:Int) != 2)=false:=by rw [hz,h];rfl
 have HC:=Lib.hid (allDigits_yes (str l) hd);have HV:=Lib.hid (Jdw l hd (by omega));clear hz h hd;generalize str l=s at c0 HC HV ⊢;go_enter func355,ntmps355
 go_wp2_with fail
 refine (HC.out _).mono ?_;rintro e w1 ⟨rfl,b1⟩;go_wp2_with fail
 refine (HV.out _).mono ?_;rintro e w2 ⟨rfl,b2⟩;go_wp2_with fail
 refine (Jcn _ (by omega) (by omega) _).mono ?_;rintro e w3 ⟨rfl,rfl⟩;go_wp2_with fail
 refine (HV.out _).mono ?_;rintro e w4 ⟨rfl,b4⟩;go_wp2_with fail
 go_ret2;exact⟨rfl,b1.trans ((b2.trans (b4.mono b2.size)).mono b1.size)⟩
theorem J2v (l:List UInt8) (h:Jbt l=false) (w:World) :
  Calls prog 355 #[.string (str l)] w fun e w'=>e=.returned (.tuple #[.int .i64 0,.bool false])∧Below w.heap.size w w':=by
 by_cases h2:l.length=2
 ·cases hd:digs l with
  | false=>exact Js3 l h2 hd w
  | true =>
   by_cases hv:valN l<60
   ·rw [(Jcy l).2 ⟨h2,hd,hv⟩] at h;cases h
   ·exact Jyf l h2 hd hv w
 ·exact Jye l h2 w
theorem Jyg (l:List UInt8) (h:Jbt l=true) (w:World) :
  Calls prog 355 #[.string (str l)] w fun e w'=>e=.returned (.tuple #[.int .i64 (valN l),.bool true])∧Below w.heap.size w w':=by
 obtain⟨h2,hd,hv⟩:=(Jcy l).1 h;exact J2u l h2 hd hv w
theorem Jyh (l:List UInt8) (h:posD l=false) (w:World) :
  Calls prog 325 #[.string (str l)] w fun e w'=>e=.returned (.tuple #[.int .i64 0,.bool false])∧Below w.heap.size w w':=by
 have hc:=Jdv l;rw [h] at hc;have HC:=Lib.hid hc;clear hc h;generalize str l=s at HC ⊢;go_enter func325,ntmps325
 go_wp2_with fail
 refine (HC.out _).mono ?_;rintro e w1 ⟨rfl,b1⟩;go_wp2_with fail
 go_ret2;exact⟨rfl,b1⟩
theorem Jyi (l:List UInt8) (h:posD l=true) (hl:¬l.length≤2) (w:World) :
  Calls prog 325 #[.string (str l)] w fun e w'=>e=.returned (.tuple #[.int .i64 0,.bool false])∧Below w.heap.size w w':=by
 have hc:=Jdv l;rw [h] at hc;have HC:=Lib.hid hc;have hz:2<(str l).size:=by rw [Jaf];omega
 have hi:(2:Int)<(str l).size:=by omega
 clear hc h hl;generalize str l=s at HC hz hi ⊢;go_enter func325,ntmps325
 go_wp2_with fail
 refine (HC.out _).mono ?_;rintro e w1 ⟨rfl,b1⟩;go_wp2_with fail
 go_ret2;exact⟨rfl,b1⟩
theorem Jyj (l:List UInt8) (h:posD l=true) (hl:l.length≤2) (hv:¬valN l<60) (w:World) :
  Calls prog 325 #[.string (str l)] w fun e w'=>e=.returned (.tuple #[.int .i64 0,.bool false])∧Below w.heap.size w w':=by
 have hc:=Jdv l;rw [h] at hc;have HC:=Lib.hid hc;have HV:=Lib.hid (Jdw l ((Jdb l).1 h).2.2 (by omega));have hz:¬2<(str l).size:=by rw [Jaf];omega
 have hd:decide (2<(str l).size)=false:=decide_eq_false hz;have hi:¬(2:Int)<(str l).size:=by omega
 have hj:decide ((2:Int)<(str l).size)=false:=decide_eq_false hi;clear hc h hl;generalize str l=s at HC HV hz hi hd hj ⊢;go_enter func325,ntmps325
 go_wp2_with fail
 refine (HC.out _).mono ?_;rintro e w1 ⟨rfl,b1⟩;go_wp2_with fail
 refine (HV.out _).mono ?_;rintro e w2 ⟨rfl,b2⟩;go_wp2_with fail
 refine (Jd4 _ (by omega) _).mono ?_;rintro e w3 ⟨rfl,rfl⟩;go_wp2_with fail
 go_ret2;exact⟨rfl,b1.trans (b2.mono b1.size)⟩
theorem J2w (l:List UInt8) (h:posD l=true) (hl:l.length≤2) (hv:valN l<60) (w:World) :
  Calls prog 325 #[.string (str l)] w fun e w'=>e=.returned (.tuple #[.int .i64 (valN l),.bool true])∧Below w.heap.size w w':=by
 have hc:=Jdv l;rw [h] at hc;have HC:=Lib.hid hc;have HV:=Lib.hid (Jdw l ((Jdb l).1 h).2.2 (by omega));have hz:¬2<(str l).size:=by rw [Jaf];omega
 have hd:decide (2<(str l).size)=false:=decide_eq_false hz;have hi:¬(2:Int)<(str l).size:=by omega
 have hj:decide ((2:Int)<(str l).size)=false:=decide_eq_false hi;clear hc h hl;generalize str l=s at HC HV hz hi hd hj ⊢;go_enter func325,ntmps325
 go_wp2_with fail
 refine (HC.out _).mono ?_;rintro e w1 ⟨rfl,b1⟩;go_wp2_with fail
 refine (HV.out _).mono ?_;rintro e w2 ⟨rfl,b2⟩;go_wp2_with fail
 refine (Jcn _ (by omega) (by omega) _).mono ?_;rintro e w3 ⟨rfl,rfl⟩;go_wp2_with fail
 refine (HV.out _).mono ?_;rintro e w4 ⟨rfl,b4⟩;go_wp2_with fail
 go_ret2;exact⟨rfl,b1.trans ((b2.trans (b4.mono b2.size)).mono b1.size)⟩
theorem J2x (l:List UInt8) (h:Jcw l=false) (w:World) :
  Calls prog 325 #[.string (str l)] w fun e w'=>e=.returned (.tuple #[.int .i64 0,.bool false])∧Below w.heap.size w w':=by
 cases hp:posD l with
 | false=>exact Jyh l hp w
 | true =>
  by_cases h2:l.length≤2
  ·by_cases hv:valN l<60
   ·rw [(Jdo l).2 ⟨hp,h2,hv⟩] at h;cases h
   ·exact Jyj l hp h2 hv w
  ·exact Jyi l hp h2 w
theorem Jyk (l:List UInt8) (h:Jcw l=true) (w:World) :
  Calls prog 325 #[.string (str l)] w fun e w'=>e=.returned (.tuple #[.int .i64 (valN l),.bool true])∧Below w.heap.size w w':=by
 obtain⟨hp,h2,hv⟩:=(Jdo l).1 h;exact J2w l hp h2 hv w
theorem Jeg (l:List UInt8):∃v:Int,0≤v∧v<60∧(Jbt l=true→v=valN l)∧∀w:World,
  Calls prog 355 #[.string (str l)] w fun e w'=>e=.returned (.tuple #[.int .i64 v,.bool (Jbt l)])∧Below w.heap.size w w':=by
 cases h:Jbt l with
 | false=>exact⟨0,by omega,by omega,(fun hx=>by cases hx),J2v l h⟩
 | true=>exact⟨valN l,by omega,by have:=((Jcy l).1 h).2.2;omega,fun _=>rfl,Jyg l h⟩
theorem first_any (l:List UInt8):∃v:Int,0≤v∧v<60∧(Jcw l=true→v=valN l)∧∀w:World,
  Calls prog 325 #[.string (str l)] w fun e w'=>e=.returned (.tuple #[.int .i64 v,.bool (Jcw l)])∧Below w.heap.size w w':=by
 cases h:Jcw l with
 | false=>exact⟨0,by omega,by omega,(fun hx=>by cases hx),J2x l h⟩
 | true=>exact⟨valN l,by omega,by have:=((Jdo l).1 h).2.2;omega,fun _=>rfl,Jyk l h⟩
def hRes (found mok sok pos big:Bool) (v m s:Int):Int×Int :=
 if found&&mok&&sok&&pos then (if big then (0,2) else (v*3600+m*60+s,0)) else (0,3)
theorem Ji7 (hs ts ms ss:ByteArray) (found mok sok pos big:Bool) (m s:Int) (m0:0≤m) (m1:m<60) (s0:0≤s) (s1:s<60) (v:Int) (v0:0≤v) (v1:v≤99)
  (hc:∀w:World,Calls prog 245 #[.string ts,.string ⟨#[109]⟩] w fun e w'=>e=.returned (.tuple #[.string ms,.string ss,.bool found])∧Below w.heap.size w w')
  (hm:∀w:World,Calls prog 355 #[.string ms] w fun e w'=>e=.returned (.tuple #[.int .i64 m,.bool mok])∧Below w.heap.size w w')
  (hz:∀w:World,Calls prog 355 #[.string ss] w fun e w'=>e=.returned (.tuple #[.int .i64 s,.bool sok])∧Below w.heap.size w w')
  (hp:∀w:World,Calls prog 356 #[.string hs] w fun e w'=>e=.returned (.bool pos)∧Below w.heap.size w w')
  (hb:big=true→(2:Int)<(hs.size:Int)) (hl:big=false→¬(2:Int)<(hs.size:Int))
  (hv:pos=true→big=false→∀w:World,Calls prog 322 #[.string hs] w fun e w'=>e=.returned (.int .i64 v)∧Below w.heap.size w w') (w:World) :
  Calls prog 323 #[.string hs,.string ts] w fun e w' =>
   e=.returned (.tuple #[.int .i64 (hRes found mok sok pos big v m s).1,.int .i64 (hRes found mok sok pos big v m s).2])∧Below w.heap.size w w':=by
 have HC:=Lib.hid hc;have HM:=Lib.hid hm;have HZ:=Lib.hid hz;have HP:=Lib.hid hp;have HV:=Lib.hid hv;have HB:=Lib.hid hb;have HL:=Lib.hid hl;clear hc hm hz hp hv hb hl;cases found
 ·go_enter func323,ntmps323
  go_wp2_with fail
  refine (HC.out _).mono ?_;rintro e w1 ⟨rfl,b1⟩;go_wp2_with fail
  refine (HM.out _).mono ?_;rintro e w2 ⟨rfl,b2⟩;go_wp2_with fail
  refine (HZ.out _).mono ?_;rintro e w3 ⟨rfl,b3⟩;go_wp2_with fail
  go_ret2;exact⟨rfl,b1.trans ((b2.trans (b3.mono b2.size)).mono b1.size)⟩
 cases mok
 ·go_enter func323,ntmps323
  go_wp2_with fail
  refine (HC.out _).mono ?_;rintro e w1 ⟨rfl,b1⟩;go_wp2_with fail
  refine (HM.out _).mono ?_;rintro e w2 ⟨rfl,b2⟩;go_wp2_with fail
  refine (HZ.out _).mono ?_;rintro e w3 ⟨rfl,b3⟩;go_wp2_with fail
  go_ret2;exact⟨rfl,b1.trans ((b2.trans (b3.mono b2.size)).mono b1.size)⟩
 cases sok
 ·go_enter func323,ntmps323
  go_wp2_with fail
  refine (HC.out _).mono ?_;rintro e w1 ⟨rfl,b1⟩;go_wp2_with fail
  refine (HM.out _).mono ?_;rintro e w2 ⟨rfl,b2⟩;go_wp2_with fail
  refine (HZ.out _).mono ?_;rintro e w3 ⟨rfl,b3⟩;go_wp2_with fail
  go_ret2;exact⟨rfl,b1.trans ((b2.trans (b3.mono b2.size)).mono b1.size)⟩
 cases pos
 ·go_enter func323,ntmps323
  go_wp2_with fail
  refine (HC.out _).mono ?_;rintro e w1 ⟨rfl,b1⟩;go_wp2_with fail
  refine (HM.out _).mono ?_;rintro e w2 ⟨rfl,b2⟩;go_wp2_with fail
  refine (HZ.out _).mono ?_;rintro e w3 ⟨rfl,b3⟩;go_wp2_with fail
  refine (HP.out _).mono ?_;rintro e w4 ⟨rfl,b4⟩;go_wp2_with fail
  go_ret2;exact⟨rfl,(b1.trans (b2.mono b1.size)).trans ((b3.trans (b4.mono b3.size)).mono (Nat.le_trans b1.size b2.size))⟩
 cases big
 ·have i2:=HL.out rfl
  have HW:=Lib.hid (HV.out rfl rfl);clear HV;go_enter func323,ntmps323
  go_wp2_with fail
  refine (HC.out _).mono ?_;rintro e w1 ⟨rfl,b1⟩;go_wp2_with fail
  refine (HM.out _).mono ?_;rintro e w2 ⟨rfl,b2⟩;go_wp2_with fail
  refine (HZ.out _).mono ?_;rintro e w3 ⟨rfl,b3⟩;go_wp2_with fail
  refine (HP.out _).mono ?_;rintro e w4 ⟨rfl,b4⟩;go_wp2_with fail
  refine (HW.out _).mono ?_;rintro e w5 ⟨rfl,b5⟩;go_wp2_with fail
  refine (Jd3 _ _ _ (by omega) (by omega) (by omega) (by omega) (by omega) (by omega) _).mono ?_;rintro e w6 ⟨rfl,rfl⟩;go_wp2_with fail
  go_ret2;exact⟨rfl,((b1.trans (b2.mono b1.size)).trans ((b3.trans (b4.mono b3.size)).mono (Nat.le_trans b1.size b2.size))).trans (b5.mono (Nat.le_trans (Nat.le_trans b1.size b2.size) (Nat.le_trans b3.size b4.size)))⟩
 ·have i2:=HB.out rfl
  go_enter func323,ntmps323
  go_wp2_with fail
  refine (HC.out _).mono ?_;rintro e w1 ⟨rfl,b1⟩;go_wp2_with fail
  refine (HM.out _).mono ?_;rintro e w2 ⟨rfl,b2⟩;go_wp2_with fail
  refine (HZ.out _).mono ?_;rintro e w3 ⟨rfl,b3⟩;go_wp2_with fail
  refine (HP.out _).mono ?_;rintro e w4 ⟨rfl,b4⟩;go_wp2_with fail
  go_ret2;exact⟨rfl,(b1.trans (b2.mono b1.size)).trans ((b3.trans (b4.mono b3.size)).mono (Nat.le_trans b1.size b2.size))⟩
theorem Jqu (l:List UInt8) (hd:digs l=true) (h:l.length≤2):valN l≤99:=by
 have h1:=Jja l hd;have h2:10 ^ l.length≤10 ^ 2:=Nat.pow_le_pow_right (by decide) h;omega
theorem Jyl (H T:List UInt8) (hl:T.length≤9223372036854775807) (w:World) :
  Calls prog 323 #[.string (str H),.string (str T)] w fun e w'=>e=.returned (.tuple #[.int .i64 (Jff H T).1,.int .i64 (Jff H T).2])∧Below w.heap.size w w':=by
 have hz:=Jaf H;have hsz:∀b:Bool,b=decide (2<H.length)→(b=true→(2:Int)<((str H).size:Int))∧(b=false→¬(2:Int)<((str H).size:Int)):=by
  intro b hb;subst hb;rw [hz];simp;omega
 by_cases h:109∈T
 ·obtain⟨M,S,rfl,hn,e1,e2⟩:=Jjt 109 T h
  obtain⟨m,m0,m1,me,cm⟩:=Jeg M;obtain⟨s,s0,s1,se,cs⟩:=Jeg S;have key:=Ji7 (str H) (str (M++109::S)) (str M) (str S) true (Jbt M) (Jbt S) (posD H) (decide (2<H.length)) m s m0 m1 s0 s1 (if posD H=true∧H.length≤2 then valN H else 0)
   (by split <;> omega) (by split;· have:=Jqu H ((Jdb H).1 (by simp_all)).2.2 (by simp_all);omega
                            ·omega)
   (Jka 109 M S hn hl) cm cs (Jdv H) (hsz _ rfl).1 (hsz _ rfl).2
   (fun hp hb=>by
    have hb2:H.length≤2:=by simpa using hb
    rw [if_pos ⟨hp,hb2⟩];exact Jdw H ((Jdb H).1 hp).2.2 (by omega)) w
  have e:hRes true (Jbt M) (Jbt S) (posD H) (decide (2<H.length)) (if posD H=true∧H.length≤2 then valN H else 0) m s=Jff H (M++109::S):=by
   unfold hRes Jff;rw [e1,e2];cases hM:Jbt M with
   | false=>simp
   | true =>
    cases hS:Jbt S with
    | false=>simp
    | true =>
     cases hP:posD H with
     | false=>simp
     | true =>
      rw [me hM,se hS];by_cases h2:2<H.length
      ·simp [h2]
      ·simp [h2,show H.length≤2 by omega]
  rw [e] at key;exact key
 ·obtain⟨m,m0,m1,_,cm⟩:=Jeg T
  obtain⟨s,s0,s1,_,cs⟩:=Jeg [];have key:=Ji7 (str H) (str T) (str T) (str []) false (Jbt T) (Jbt []) (posD H) (decide (2<H.length)) m s m0 m1 s0 s1 (if posD H=true∧H.length≤2 then valN H else 0)
   (by split <;> omega) (by split;· have:=Jqu H ((Jdb H).1 (by simp_all)).2.2 (by simp_all);omega
                            ·omega)
   (Jd7 109 T h) cm cs (Jdv H) (hsz _ rfl).1 (hsz _ rfl).2
   (fun hp hb=>by
    have hb2:H.length≤2:=by simpa using hb
    rw [if_pos ⟨hp,hb2⟩];exact Jdw H ((Jdb H).1 hp).2.2 (by omega)) w
  have e:hRes false (Jbt T) (Jbt []) (posD H) (decide (2<H.length)) (if posD H=true∧H.length≤2 then valN H else 0) m s=Jff H T:=by
   unfold hRes Jff;simp [h]
  rw [e] at key;exact key
def mRes (mok sok:Bool) (m s:Int):Int×Int:=if mok&&sok then (m*60+s,0) else (0,3)
theorem Jmr (ms ss:ByteArray) (mok sok:Bool) (m s:Int) (m0:0≤m) (m1:m<60) (s0:0≤s) (s1:s<60)
  (hm:∀w:World,Calls prog 325 #[.string ms] w fun e w'=>e=.returned (.tuple #[.int .i64 m,.bool mok])∧Below w.heap.size w w')
  (hz:∀w:World,Calls prog 355 #[.string ss] w fun e w'=>e=.returned (.tuple #[.int .i64 s,.bool sok])∧Below w.heap.size w w') (w:World) :
  Calls prog 324 #[.string ms,.string ss] w fun e w'=>e=.returned (.tuple #[.int .i64 (mRes mok sok m s).1,.int .i64 (mRes mok sok m s).2])∧Below w.heap.size w w':=by
 have HM:=Lib.hid hm;have HZ:=Lib.hid hz;clear hm hz;cases mok
 ·go_enter func324,ntmps324
  go_wp2_with fail
  refine (HM.out _).mono ?_;rintro e w1 ⟨rfl,b1⟩;go_wp2_with fail
  refine (HZ.out _).mono ?_;rintro e w2 ⟨rfl,b2⟩;go_wp2_with fail
  go_ret2;exact⟨rfl,b1.trans (b2.mono b1.size)⟩
 cases sok
 ·go_enter func324,ntmps324
  go_wp2_with fail
  refine (HM.out _).mono ?_;rintro e w1 ⟨rfl,b1⟩;go_wp2_with fail
  refine (HZ.out _).mono ?_;rintro e w2 ⟨rfl,b2⟩;go_wp2_with fail
  go_ret2;exact⟨rfl,b1.trans (b2.mono b1.size)⟩
 ·go_enter func324,ntmps324
  go_wp2_with fail
  refine (HM.out _).mono ?_;rintro e w1 ⟨rfl,b1⟩;go_wp2_with fail
  refine (HZ.out _).mono ?_;rintro e w2 ⟨rfl,b2⟩;go_wp2_with fail
  refine (Jd3 0 m s (by omega) (by omega) (by omega) (by omega) (by omega) (by omega) _).mono ?_;rintro e w3 ⟨rfl,rfl⟩;go_wp2_with fail
  go_ret2;exact⟨J4u (by simp [mRes]) rfl,b1.trans (b2.mono b1.size)⟩
theorem Joq (M S:List UInt8) (w:World) :
  Calls prog 324 #[.string (str M),.string (str S)] w fun e w'=>e=.returned (.tuple #[.int .i64 (Jd2 M S).1,.int .i64 (Jd2 M S).2])∧Below w.heap.size w w':=by
 obtain⟨m,m0,m1,me,cm⟩:=first_any M;obtain⟨s,s0,s1,se,cs⟩:=Jeg S;have key:=Jmr (str M) (str S) (Jcw M) (Jbt S) m s m0 m1 s0 s1 cm cs w;have e:mRes (Jcw M) (Jbt S) m s=Jd2 M S:=by
  unfold mRes Jd2;cases hM:Jcw M with
  | false=>simp
  | true =>
   cases hS:Jbt S with
   | false=>simp
   | true=>rw [me hM,se hS];simp
 rw [e] at key;exact key
theorem J8e (l:List UInt8) (hn:List.isSuffixOf [115] l=false) (hl:l.length≤9223372036854775807) (w:World) :
  Calls prog 255 #[.string (str l)] w fun e w'=>e=.returned (.tuple #[.int .i64 0,.int .i64 3])∧Below w.heap.size w w':=by
 have HC:=Lib.hid (Jhx 115 l hn hl);clear hn hl;generalize str l=s at HC ⊢;go_enter func255,ntmps255
 go_wp2_with fail
 refine (HC.out _).mono ?_;rintro e w1 ⟨rfl,rfl⟩;go_wp2_with fail
 go_ret2;exact⟨rfl,Below.refl _ _⟩
theorem pd_h (s r H T:ByteArray) (v e0:Int)
  (hc:∀w:World,Calls prog 39 #[.string s,.string ⟨#[115]⟩] w fun e w'=>e=.returned (.tuple #[.string r,.bool true])∧w=w')
  (hh:∀w:World,Calls prog 245 #[.string r,.string ⟨#[104]⟩] w fun e w'=>e=.returned (.tuple #[.string H,.string T,.bool true])∧Below w.heap.size w w')
  (hp:∀w:World,Calls prog 323 #[.string H,.string T] w fun e w'=>e=.returned (.tuple #[.int .i64 v,.int .i64 e0])∧Below w.heap.size w w') (w:World) :
  Calls prog 255 #[.string s] w fun e w'=>e=.returned (.tuple #[.int .i64 v,.int .i64 e0])∧Below w.heap.size w w':=by
 have HC:=Lib.hid hc;have HH:=Lib.hid hh;have HP:=Lib.hid hp;clear hc hh hp;go_enter func255,ntmps255
 go_wp2_with fail
 refine (HC.out _).mono ?_;rintro e w1 ⟨rfl,rfl⟩;go_wp2_with fail
 refine (HH.out _).mono ?_;rintro e w1 ⟨rfl,b1⟩;go_wp2_with fail
 refine (HP.out _).mono ?_;rintro e w2 ⟨rfl,b2⟩;go_wp2_with fail
 go_ret2;exact⟨rfl,b1.trans (b2.mono b1.size)⟩
theorem pd_m (s r M S:ByteArray) (v e0:Int)
  (hc:∀w:World,Calls prog 39 #[.string s,.string ⟨#[115]⟩] w fun e w'=>e=.returned (.tuple #[.string r,.bool true])∧w=w')
  (hh:∀w:World,Calls prog 245 #[.string r,.string ⟨#[104]⟩] w fun e w'=>e=.returned (.tuple #[.string r,.string (str []),.bool false])∧Below w.heap.size w w')
  (hm:∀w:World,Calls prog 245 #[.string r,.string ⟨#[109]⟩] w fun e w'=>e=.returned (.tuple #[.string M,.string S,.bool true])∧Below w.heap.size w w')
  (hp:∀w:World,Calls prog 324 #[.string M,.string S] w fun e w'=>e=.returned (.tuple #[.int .i64 v,.int .i64 e0])∧Below w.heap.size w w') (w:World) :
  Calls prog 255 #[.string s] w fun e w'=>e=.returned (.tuple #[.int .i64 v,.int .i64 e0])∧Below w.heap.size w w':=by
 have HC:=Lib.hid hc;have HH:=Lib.hid hh;have HM:=Lib.hid hm;have HP:=Lib.hid hp;clear hc hh hm hp;go_enter func255,ntmps255
 go_wp2_with fail
 refine (HC.out _).mono ?_;rintro e w1 ⟨rfl,rfl⟩;go_wp2_with fail
 refine (HH.out _).mono ?_;rintro e w1 ⟨rfl,b1⟩;go_wp2_with fail
 refine (HM.out _).mono ?_;rintro e w2 ⟨rfl,b2⟩;go_wp2_with fail
 refine (HP.out _).mono ?_;rintro e w3 ⟨rfl,b3⟩;go_wp2_with fail
 go_ret2;exact⟨rfl,b1.trans ((b2.trans (b3.mono b2.size)).mono b1.size)⟩
theorem J8f (s r:ByteArray) (h0:(r.toList==[48])=true)
  (hc:∀w:World,Calls prog 39 #[.string s,.string ⟨#[115]⟩] w fun e w'=>e=.returned (.tuple #[.string r,.bool true])∧w=w')
  (hh:∀w:World,Calls prog 245 #[.string r,.string ⟨#[104]⟩] w fun e w'=>e=.returned (.tuple #[.string r,.string (str []),.bool false])∧Below w.heap.size w w')
  (hm:∀w:World,Calls prog 245 #[.string r,.string ⟨#[109]⟩] w fun e w'=>e=.returned (.tuple #[.string r,.string (str []),.bool false])∧Below w.heap.size w w') (w:World) :
  Calls prog 255 #[.string s] w fun e w'=>e=.returned (.tuple #[.int .i64 0,.int .i64 0])∧Below w.heap.size w w':=by
 have HC:=Lib.hid hc;have HH:=Lib.hid hh;have HM:=Lib.hid hm;clear hc hh hm;go_enter func255,ntmps255
 go_wp2_with fail
 refine (HC.out _).mono ?_;rintro e w1 ⟨rfl,rfl⟩;go_wp2_with fail
 refine (HH.out _).mono ?_;rintro e w1 ⟨rfl,b1⟩;go_wp2_with fail
 refine (HM.out _).mono ?_;rintro e w2 ⟨rfl,b2⟩;go_wp2_with fail
 go_ret2;exact⟨rfl,b1.trans (b2.mono b1.size)⟩
theorem pd_s (s r:ByteArray) (h0:(r.toList==[48])=false) (v:Int) (ok:Bool)
  (hc:∀w:World,Calls prog 39 #[.string s,.string ⟨#[115]⟩] w fun e w'=>e=.returned (.tuple #[.string r,.bool true])∧w=w')
  (hh:∀w:World,Calls prog 245 #[.string r,.string ⟨#[104]⟩] w fun e w'=>e=.returned (.tuple #[.string r,.string (str []),.bool false])∧Below w.heap.size w w')
  (hm:∀w:World,Calls prog 245 #[.string r,.string ⟨#[109]⟩] w fun e w'=>e=.returned (.tuple #[.string r,.string (str []),.bool false])∧Below w.heap.size w w')
  (hf:∀w:World,Calls prog 325 #[.string r] w fun e w'=>e=.returned (.tuple #[.int .i64 v,.bool ok])∧Below w.heap.size w w') (w:World) :
  Calls prog 255 #[.string s] w fun e w'=>e=.returned (.tuple #[.int .i64 (bif ok then v else 0),.int .i64 (bif ok then 0 else 3)])∧Below w.heap.size w w':=by
 have HC:=Lib.hid hc;have HH:=Lib.hid hh;have HM:=Lib.hid hm;have HF:=Lib.hid hf;clear hc hh hm hf;cases ok
 all_goals
  simp only [cond_true,cond_false];go_enter func255,ntmps255
  go_wp2_with fail
  refine (HC.out _).mono ?_;rintro e w1 ⟨rfl,rfl⟩;go_wp2_with fail
  refine (HH.out _).mono ?_;rintro e w1 ⟨rfl,b1⟩;go_wp2_with fail
  refine (HM.out _).mono ?_;rintro e w2 ⟨rfl,b2⟩;go_wp2_with fail
  refine (HF.out _).mono ?_;rintro e w3 ⟨rfl,b3⟩;go_wp2_with fail
  go_ret2;exact⟨rfl,b1.trans ((b2.trans (b3.mono b2.size)).mono b1.size)⟩
theorem parseDur_any (l:List UInt8) (hl:l.length≤9223372036854775807) (w:World) :
  Calls prog 255 #[.string (str l)] w fun e w'=>e=.returned (.tuple #[.int .i64 (durR l).1,.int .i64 (durR l).2])∧Below w.heap.size w w':=by
 cases hs:List.isSuffixOf [115] l with
 | false =>
  have e:durR l=(0,3):=by unfold durR;rw [hs];rfl
  rw [e];exact J8e l hs hl w
 | true =>
  obtain⟨r,rfl,er⟩:=Jlu l hs;have e:durR (r++[115])=Jho r:=by unfold durR;rw [if_pos hs,er]
  rw [e];have hr:r.length≤9223372036854775807:=by simp at hl;omega
  have hc:=Ji4 115 r hl;by_cases hh:104∈r
  ·obtain⟨H,T,rfl,hn,e1,e2⟩:=Jjt 104 r hh
   have e:Jho (H++104::T)=Jff H T:=by unfold Jho;rw [if_pos hh,e1,e2]
   rw [e];exact pd_h _ _ _ _ _ _ hc (Jka 104 H T hn hr) (Jyl H T (by simp at hr;omega)) w
  ·by_cases hm:109∈r
   ·obtain⟨M,S,rfl,hn,e1,e2⟩:=Jjt 109 r hm
    have e:Jho (M++109::S)=Jd2 M S:=by unfold Jho;rw [if_neg hh,if_pos hm,e1,e2]
    rw [e];exact pd_m _ _ _ _ _ _ hc (Jd7 104 _ hh) (Jka 109 M S hn hr) (Joq M S) w
   ·by_cases h0:r=[48]
    ·have e:Jho r=(0,0):=by unfold Jho;rw [if_neg hh,if_neg hm,if_pos h0]
     rw [e];exact J8f _ _ (by rw [Lib.toList_data,h0];rfl) hc (Jd7 104 _ hh) (Jd7 109 _ hm) w
    ·obtain⟨v,_,_,ve,cf⟩:=first_any r
     have e:Jho r=(bif Jcw r then v else 0,bif Jcw r then 0 else 3):=by
      unfold Jho;rw [if_neg hh,if_neg hm,if_neg h0];cases hF:Jcw r with
      | false=>rfl
      | true=>rw [ve hF];rfl
     rw [e];exact pd_s _ _ (by
      rw [Lib.toList_data,beq_eq_false_iff_ne];exact h0) v (Jcw r) hc (Jd7 104 _ hh) (Jd7 109 _ hm) cf w
open Go
end S1
section
open Go
open Go.RowKit
def Jcq (w:World):Prop:=S2.Good w∧S3.Good w∧S15.GoodR w∧Jkl w
theorem Jcq.below {w w':World} (h:Jcq w) (b:Below w.heap.size w w'):Jcq w':=⟨h.1.below b,h.2.1.below b,h.2.2.1.below b,h.2.2.2.below b⟩
theorem J2y (l:Bs) (w:World):Calls prog 254 #[.string (str l)] w fun r w'=>r=.returned (.tuple #[.int .i64 (Jr4 l).1,.int .i64 (Jr4 l).2])∧Below w.heap.size w w':=by
 unfold Jr4;by_cases hf:Jbw l=true
 ·rw [if_pos hf]
  by_cases hp:Jic (Jbs l 0) (Jbs l 3) (Jbs l 6)
  ·rw [if_pos hp];exact Jwh (str l) hf hp w
  ·rw [if_neg hp];exact Jr9 (str l) hf hp w
 ·rw [if_neg hf];exact Jlx (str l) (by simpa using hf) w
theorem Jqv (s:Bs):∀(l:List Bs) (k:Nat),(fdF (isN s) k l=-1∧l.findIdx? (fun x=>decide (x=s))=none)∨∃j:Nat,fdF (isN s) k l=(k:Int)+(j:Int)∧l.findIdx? (fun x=>decide (x=s))=some j
 | [],_=>.inl ⟨rfl,rfl⟩
 | x::l,k=>by
  unfold fdF;rw [List.findIdx?_cons];by_cases h:x=s
  ·have e:isN s x=true:=decide_eq_true h
   rw [if_pos e,if_pos (decide_eq_true h)];exact .inr ⟨0,by simp,rfl⟩
  ·have e:¬isN s x=true:=fun q=>h (of_decide_eq_true q)
   rw [if_neg e,if_neg (fun q=>h (of_decide_eq_true q))];rcases Jqv s l (k+1) with ⟨h1,h2⟩ | ⟨j,h1,h2⟩
   ·exact .inl ⟨h1,by rw [h2];rfl⟩
   ·exact .inr ⟨j+1,by rw [h1];omega,by rw [h2];rfl⟩
theorem Jym (s:Bs):(fnd 3 nmL s).1=max (Jd1 s) 0∧decide ((fnd 3 nmL s).2=0)=decide (0≤Jd1 s):=by
 unfold Jd1 fdT fnd;rcases Jqv s nmL 0 with ⟨h1,h2⟩ | ⟨j,h1,h2⟩
 ·rw [h1,h2];exact⟨rfl,rfl⟩
 ·rw [h1,h2]
  refine⟨?_,?_⟩
  ·show (j:Int)=max ((0:Nat)+(j:Int)) 0
   omega
  ·show decide ((0:Int)=0)=decide (0≤((0:Nat):Int)+(j:Int))
   rw [decide_eq_true rfl,decide_eq_true (by omega)]
theorem J4b {w0:World} (hg:Jcq w0):Fo fmR w0 where
 num:=fun a ha w b=>S3.parse_any a (by omega) w (hg.below b).2.1
 prc:=fun a ha w b=>S3.pprice_any a (by omega) w (hg.below b).2.1
 tim:=fun a _ w _=>J2y a w
 dur:=fun a ha w _=>S1.parseDur_any a (by omega) w
 day:=fun a _ w b=>S2.dparse_any (str a) w (hg.below b).1
 mds:=fun a ha w b=>(S15.kprs_any a _ rfl (by omega) w (hg.below b).2.2.1).mono fun e w' h=>⟨h.1,by rw [←h.2];exact Below.refl _ _⟩
 mode:=fun a _ w b=>(S15.parse_any a _ rfl w (hg.below b).2.2.1).mono fun e w' h=>⟨by rw [(Jym a).1,(Jym a).2];exact h.1,by rw [←h.2];exact Below.refl _ _⟩
theorem Qbv (l:Bs):B64 (S2.dayR l).1:=by
 unfold S2.dayR;split
 ·split
  ·next h =>
   obtain⟨h1,h2,h3,h4,h5,h6⟩:=h;show B64 (S2.dayOf _ _ _)
   generalize (S2.val4 l:Int)=y at *;generalize (Jbs l 5:Int)=m at *;generalize (Jbs l 8:Int)=d at *;unfold S2.dayOf;have e1:=S2.bef_at (y - 2000).toNat (m - 1).toNat (by omega);have e2:=S2.bef_succ (12*(y - 2000).toNat+(m - 1).toNat);have e3:=S2.bef_le (show 12*(y - 2000).toNat+(m - 1).toNat+1≤1200 by omega);have e4:S2.mon (12*(y - 2000).toNat+(m - 1).toNat)=S2.monN (y - 2000).toNat (m - 1).toNat:=by
    unfold S2.mon;rw [show (12*(y - 2000).toNat+(m - 1).toNat) / 12=(y - 2000).toNat by omega,show (12*(y - 2000).toNat+(m - 1).toNat) % 12=(m - 1).toNat by omega]
   rw [S2.bef_end] at e3;constructor <;> omega
  ·exact⟨by decide,by decide⟩
 ·exact⟨by decide,by decide⟩
theorem Qbw (l:Bs):B64 (Jr4 l).1:=by
 unfold Jr4;split
 ·split
  ·next h =>
   unfold Jic at h;exact⟨by show -9223372036854775808≤_+_;omega,by show _+_≤(9223372036854775807:Int);omega⟩
  ·exact⟨by decide,by decide⟩
 ·exact⟨by decide,by decide⟩
theorem J8g {l:Bs} (h:digs l=true) (hl:l.length≤2):valN l<100:=by
 have:=Jja l h;have h2:10 ^ l.length≤10 ^ 2:=Nat.pow_le_pow_right (by decide) hl;omega
theorem Qbx (l:Bs):B64 (durR l).1:=by
 unfold durR;split
 ·unfold Jho
  split
  ·unfold Jff
   split
   ·next h =>
    obtain⟨-,h1,h2,h3⟩:=h;split
    ·exact⟨by decide,by decide⟩
    ·next h4 =>
     have a:=J8g ((Jdb _).1 h3).2.2 (by omega);have b:=((Jcy _).1 h1).2.2;have c:=((Jcy _).1 h2).2.2;exact⟨by show -9223372036854775808≤_+_;omega,by show _+_≤(9223372036854775807:Int);omega⟩
   ·exact⟨by decide,by decide⟩
  ·split
   ·unfold Jd2
    split
    ·next h =>
     have b:=((Jdo _).1 h.1).2.2;have c:=((Jcy _).1 h.2).2.2;exact⟨by show -9223372036854775808≤_+_;omega,by show _+_≤(9223372036854775807:Int);omega⟩
    ·exact⟨by decide,by decide⟩
   ·split
    ·exact⟨by decide,by decide⟩
    ·split
     ·next h =>
      have b:=((Jdo _).1 h).2.2;exact⟨by show -9223372036854775808≤((_:Nat):Int);omega,by show ((_:Nat):Int)≤(9223372036854775807:Int);omega⟩
     ·exact⟨by decide,by decide⟩
 ·exact⟨by decide,by decide⟩
theorem Jyn:FmB fmR:=⟨Qbw,Qbx,Qbv⟩
theorem Jgi {w:World} (hg:Jcq w) (s:Bs) (hs:s.length≤1099511627776):Calls prog 10 #[.string (str s)] w fun e w'=>PaR fmR s w e w' :=
 J8d fmR Jyn (fun _ b=>J4b (hg.below b)) hg.2.2.2 s hs
def s1 (x:Bs):List Value:=[.string (str x)]
theorem Qby (x:Bs):(s1 x).length=1:=rfl
theorem Jyo:(prog.info? 9).map (fun i=>(i.zero,i.size,i.bytes))=some (some (.string ⟨#[]⟩),1,16):=by kernel_rfl
def Wst (w0:World) (F:Nat) (ls:List Bs) (W:World):Prop:=∃v,Gst w0 F 125 [v] [tRow w0.heap.size ⟨9,1,v,ls.length,fl s1 ls⟩] W
def Wsx (w0:World) (F:Nat) (ls:List Bs) (xs:List Tng) (W:World):Prop:=∃v,Gst w0 F 125 [v] (tRow w0.heap.size ⟨9,1,v,ls.length,fl s1 ls⟩::xs) W
theorem Jeo (s:ByteArray) (n:Int) (w:World):Calls prog 145 #[.string s,.int .i64 n] w fun e w'=>e=.returned (.string s)∧w'=w:=by
 go_enter func145,ntmps145
 go_wp2_with fail
 go_ret;exact⟨rfl,rfl⟩
theorem Qbz {w0 W:World} {F:Nat} {ls:List Bs} {xs:List Tng} (h:Wsx w0 F ls xs W) (hl:ls.length≤1000000) (f:Value) (fs:List Bs) (hf:Lst W f fs) (hn:fs.length≤64) (hx:∀x∈fs,x.length≤16384) :
  Calls prog 134 #[.pointer (some ⟨F,0,none⟩),f] W fun e w'=>e=.returned (.tuple #[])∧Wsx w0 F (ls++[(S4.joinR fs).1]) xs w':=by
 suffices hs:∀Z:World→Prop,(∀w',Wsx w0 F (ls++[(S4.joinR fs).1]) xs w'→Z w')→Calls prog 134 #[.pointer (some ⟨F,0,none⟩),f] W fun e w'=>e=.returned (.tuple #[])∧Z w' from hs _ (fun _ h=>h)
 intro Z hZ;have HZ:=Lib.hid hZ;clear hZ;obtain⟨v,G⟩:=h;obtain⟨A0,c0,hv0,-⟩:=Jbf (G.row (i:=0) rfl);have hv0:v=.slice A0 ls.length c0:=hv0;subst hv0;obtain⟨W1,hW1⟩:∃X,World.drew W=X:=⟨_,rfl⟩;have bd:Below W.heap.size W W1:=by rw [←hW1];exact (Below.refl _ _).drew
 have G1:=G.on bd;have hf1:Lst W1 f fs:=hf.below bd;have C0:=Lib.hid (S4.fjoin_any f fs (by omega) hx W1 hf1);have S0:∀X,Gst w0 F 125 [.slice A0 ls.length c0] (tRow w0.heap.size ⟨9,1,.slice A0 ls.length c0,ls.length,fl s1 ls⟩::xs) X→X.cell? ⟨F,0,none⟩=some (.slice A0 ls.length c0):=fun X h=>(h.cell (i:=0) rfl).1
 generalize S4.joinR fs=jr at C0 HZ;obtain⟨ln,er⟩:=jr;dsimp only at C0 HZ;clear hf hf1 hx bd G;go_enter func134,ntmps134
 go_wp2_with fail
 refine Jdr (S:=fun X=>X.cell? ⟨F,0,none⟩=some (.slice A0 ls.length c0)) _ 15 14 rfl (by kernel_rfl) (by kernel_rfl) (by kernel_rfl) (Jba 15 0) (by kernel_rfl) ?_;rw [hW1];refine Jdd (L:=[(0,4,pt F 0),(1,5,pt F 0),(2,6,pt F 0),(3,7,pt F 0),(4,8,.slice A0 ls.length c0),(5,9,f)]) rfl (.q (.q (.q (.q (.cons rfl rfl (.inl ⟨rfl,fun _ h=>by dsimp only [pt];go_simp;try with_reducible rfl⟩) (.q .nil)))))) [0,1,2,3,4,5] rfl rfl (by kernel_rfl) (fun _ _ _ _ _ h=>h) (S0 _ G1) ?_;refine Qam (i:=6) (R:=fun u X=>u=.tuple #[.string (str ln),.int .i64 er]∧Below W1.heap.size W1 X) 10 _ rfl (by kernel_rfl) rfl rfl rfl (by kernel_rfl) (C0.out.mono fun e w' h=>⟨_,h.1,rfl,h.2⟩) ?_;rintro u w2 ⟨rfl,b2⟩;have G2:=G1.on b2;refine⟨S0 _ G2,?_⟩;refine Jdd (L:=[(7,11,.string (str ln)),(8,12,.int .i64 er)]) rfl (.q (.q .nil)) [7,8] rfl rfl (by kernel_rfl) (fun _ _ _ _ _ h=>h) (S0 _ G2) ?_;refine Qam (i:=9) (R:=fun u X=>u=.string (str ln)∧X=w2) 13 _ rfl (by kernel_rfl) rfl rfl rfl (by kernel_rfl) ((Jeo (str ln) er w2).mono fun e w' h=>⟨_,h.1,rfl,h.2⟩) ?_;rintro u w3 ⟨rfl,rfl⟩;refine⟨S0 _ G2,?_⟩;obtain⟨w6,h6⟩:∃X,w3.alloc (.cells #[.string (str ln)] 9 (0,0))=X:=⟨_,rfl⟩;have G6:=G2.on (W':=w6) (by rw [←h6];exact (Below.refl _ _).alloc (Nat.le_refl _) _);have y6:=heap_alloc_new w3 (.cells #[.string (str ln)] 9 (0,0));rw [h6] at y6;refine Jcj (i:=10) (v:=.slice (some ⟨w3.heap.size,0,none⟩) 1 1) (w':=w6) 14 _ rfl (by kernel_rfl) rfl rfl rfl (by rw [←h6];kernel_rfl) (S0 _ G6) rfl ?_;obtain⟨v7,w7,hr7,o7,g7,p7⟩:=Jbz (enc:=s1) Qby (by decide) underlying66 Jyo rfl (by decide) w6 66 w0.heap.size (.slice A0 ls.length c0) ls ln (fun u hu=>by simp only [s1,List.mem_cons,List.not_mem_nil,or_false] at hu;subst hu;rfl) (G6.row (i:=0) rfl) _ _ y6 rfl G6.base.size (by omega);obtain⟨A7,c7,e7,-⟩:=Jbf o7;subst e7;have G7:=G6.turn (i:=0) (t':=tRow w0.heap.size ⟨9,1,.slice A7 (ls++[ln]).length c7,(ls++[ln]).length,fl s1 (ls++[ln])⟩) rfl g7 (tRow.at o7) p7;refine Jcj (i:=11) (v:=.slice A7 (ls++[ln]).length c7) (w':=w7) 15 _ rfl (by kernel_rfl) rfl rfl rfl (Ja1 (s:=.tmp 8) (x:=.tmp 14) (ST:=66) (by kernel_rfl) (by kernel_rfl) (by kernel_rfl) hr7) (G7.cell (i:=0) rfl).1 rfl ?_;refine Jgs (L:=[(12,16,pt F 0),(13,17,pt F 0)]) (.q (.q .nil)) [12,13] rfl rfl (by kernel_rfl) (G7.cell (i:=0) rfl).1 ?_;obtain⟨k0,k1⟩:=G7.cell (i:=0) rfl;refine Jds (w':=w7.setCell ⟨F,0,none⟩ (.slice A7 (ls++[ln]).length c7)) _ rfl (by kernel_rfl) rfl rfl rfl (by go_simp;try with_reducible rfl) ?_;refine Jgd (by kernel_rfl) ?_;have GE:=Lib.hid (HZ.out _ ⟨_,G7.put 0 (.slice A7 (ls++[ln]).length c7)⟩);clear G7 G6 G2 G1 k0 k1 hr7 o7 g7 p7 y6 h6 S0;generalize w7.setCell ⟨F,0,none⟩ (.slice A7 (ls++[ln]).length c7)=w8 at GE ⊢;go_wp2_with fail
 go_end0;exact⟨rfl,GE.out⟩
def Wrs (w0:World) (F:Nat) (R:List (List Bs)) (W:World):Prop:=Wst w0 F (R.map Jax) W
structure Fw (F_:Fm) (w0:World):Prop where
 num:∀n,-9223372036854775808≤n→n≤9223372036854775807→∀w:World,Below w0.heap.size w0 w→Calls prog 135 #[.int .i64 n] w fun r w'=>r=.returned (.string (str (F_.numT n)))∧Below w.heap.size w w'
 prc:∀n,0≤n→n≤1000000→∀w:World,Below w0.heap.size w0 w→Calls prog 225 #[.int .i64 n] w fun r w'=>r=.returned (.tuple #[.string (str (F_.prcT n)),.int .i64 0])∧Below w.heap.size w w'
 tim:∀n,0≤n→n≤172800→∀w:World,Below w0.heap.size w0 w→Calls prog 223 #[.int .i64 n] w fun r w'=>r=.returned (.tuple #[.string (str (F_.timT n)),.int .i64 0])∧Below w.heap.size w w'
 dur:∀n,0≤n→n≤86400→∀w:World,Below w0.heap.size w0 w→Calls prog 224 #[.int .i64 n] w fun r w'=>r=.returned (.tuple #[.string (str (F_.durT n)),.int .i64 0])∧Below w.heap.size w w'
 day:∀n,0≤n→n≤36524→∀w:World,Below w0.heap.size w0 w→Calls prog 222 #[.int .i64 n] w fun r w'=>r=.returned (.tuple #[.string (str (F_.dayT n)),.int .i64 0])∧Below w.heap.size w w'
 mds:∀n,0≤n→n≤255→∀w:World,Below w0.heap.size w0 w→Calls prog 146 #[.int .i64 n] w fun r w'=>r=.returned (.tuple #[.string (str (F_.mdsT n)),.int .i64 0])∧Below w.heap.size w w'
 mode:∀m:Nat,m<8→∀w:World,Below w0.heap.size w0 w→Calls prog 137 #[.int .i64 (m:Int)] w fun r w'=>r=.returned (.tuple #[.string (str (nmR m)),.bool true])∧Below w.heap.size w w'
theorem Ji8 (b:Bool) (x y:ByteArray) (w:World):Calls prog 140 #[.bool b,.string x,.string y] w fun e w'=>e=.returned (.string (if b then x else y))∧w'=w:=by
 cases b with
 | true =>
  go_enter func140,ntmps140
  go_wp2_with fail
  go_ret;exact⟨rfl,rfl⟩
 | false =>
  go_enter func140,ntmps140
  go_wp2_with fail
  go_ret;exact⟨rfl,rfl⟩
theorem Jfu (b:Bool) (w:World):Calls prog 136 #[.bool b] w fun e w'=>e=.returned (.string (str (flgT b)))∧w'=w:=by
 have C:=Lib.hid (Ji8 b (str wYes) (str wNo) w);have e:(if b then str wYes else str wNo)=str (flgT b):=by cases b <;> rfl
 rw [e] at C;generalize str (flgT b)=s at C ⊢;go_enter func136,ntmps136
 go_wp2_with fail
 refine C.out.mono ?_;rintro r w1 ⟨rfl,rfl⟩;go_wp2_with fail
 go_ret;exact⟨rfl,rfl⟩
section
variable {w:World} {n:Int} {s:ByteArray} {e:Int}
theorem Jfv (C:Calls prog 223 #[.int .i64 n] w fun r w'=>r=.returned (.tuple #[.string s,.int .i64 e])∧Below w.heap.size w w'):Calls prog 141 #[.int .i64 n] w fun r w'=>r=.returned (.string s)∧Below w.heap.size w w':=by
 have C:=Lib.hid C;go_enter func141,ntmps141
 go_wp2_with fail
 refine C.out.mono ?_;rintro r w1 ⟨rfl,b⟩;have B:=Lib.hid b;have D:=Lib.hid (Jeo s e w1);clear b C;go_wp2_with fail
 refine D.out.mono ?_;rintro r w2 ⟨rfl,rfl⟩;go_wp2_with fail
 go_ret;exact⟨rfl,B.out⟩
theorem Jcx (C:Calls prog 224 #[.int .i64 n] w fun r w'=>r=.returned (.tuple #[.string s,.int .i64 e])∧Below w.heap.size w w'):Calls prog 143 #[.int .i64 n] w fun r w'=>r=.returned (.string s)∧Below w.heap.size w w':=by
 have C:=Lib.hid C;go_enter func143,ntmps143
 go_wp2_with fail
 refine C.out.mono ?_;rintro r w1 ⟨rfl,b⟩;have B:=Lib.hid b;have D:=Lib.hid (Jeo s e w1);clear b C;go_wp2_with fail
 refine D.out.mono ?_;rintro r w2 ⟨rfl,rfl⟩;go_wp2_with fail
 go_ret;exact⟨rfl,B.out⟩
theorem Jkn (C:Calls prog 222 #[.int .i64 n] w fun r w'=>r=.returned (.tuple #[.string s,.int .i64 e])∧Below w.heap.size w w'):Calls prog 139 #[.int .i64 n] w fun r w'=>r=.returned (.string s)∧Below w.heap.size w w':=by
 have C:=Lib.hid C;go_enter func139,ntmps139
 go_wp2_with fail
 refine C.out.mono ?_;rintro r w1 ⟨rfl,b⟩;have B:=Lib.hid b;have D:=Lib.hid (Jeo s e w1);clear b C;go_wp2_with fail
 refine D.out.mono ?_;rintro r w2 ⟨rfl,rfl⟩;go_wp2_with fail
 go_ret;exact⟨rfl,B.out⟩
theorem Jgj (C:Calls prog 225 #[.int .i64 n] w fun r w'=>r=.returned (.tuple #[.string s,.int .i64 e])∧Below w.heap.size w w'):Calls prog 144 #[.int .i64 n] w fun r w'=>r=.returned (.string s)∧Below w.heap.size w w':=by
 have C:=Lib.hid C;go_enter func144,ntmps144
 go_wp2_with fail
 refine C.out.mono ?_;rintro r w1 ⟨rfl,b⟩;have B:=Lib.hid b;have D:=Lib.hid (Jeo s e w1);clear b C;go_wp2_with fail
 refine D.out.mono ?_;rintro r w2 ⟨rfl,rfl⟩;go_wp2_with fail
 go_ret;exact⟨rfl,B.out⟩
end
theorem Qb0 {w0:World} (hg:Jcq w0):Fw fmR w0 where
 num:=fun n h0 h1 w _=>S3.format_any n h0 h1 w
 prc:=fun n h0 h1 w _=>by
  have:=S3.fprice_yes n n.toNat (Int.toNat_of_nonneg h0).symm h1 w;exact this
 tim:=fun n h0 h1 w _=>Jr6 n h0 h1 w
 dur:=fun n h0 h1 w _=>Jr7 n h0 (by omega) w
 day:=fun n h0 h1 w b=>by
  obtain⟨x,y⟩:=J7l n.toNat 1200 (by rw [S2.bef_end];omega);have:=S2.dformat_yes (monD 1200 n.toNat) n.toNat y x w (hg.below b).1;rwa [Int.toNat_of_nonneg h0] at this
 mds:=fun n h0 h1 w b=>by
  have:=S15.kfmt_any n (by omega) (by omega) w (hg.below b).2.2.1;have e:Go.Proofs.YtpifdbphmnifdaaGreatDoor.fmtR n=(textR n.toNat,0):=by unfold Go.Proofs.YtpifdbphmnifdaaGreatDoor.fmtR;rw [if_neg (by omega)]
  rw [e] at this;exact this
 mode:=fun m hm w b=>(S15.name_any m hm w (hg.below b).2.2.1).mono fun e w' h=>⟨h.1,by rw [←h.2];exact Below.refl _ _⟩
theorem Jyp (s a d:Int) (b l:Bool) (w:World):Calls prog 142 #[.agg #[.int .i64 s,.int .i64 a,.int .i64 d,.bool b,.bool l]] w fun e w'=>e=.returned (.string (str (prmT b l)))∧Below w.heap.size w w':=by
 have e1:∀t fr,(w.alloc (.cells #[.int .i64 s,.int .i64 a,.int .i64 d,.bool b,.bool l] t fr)).cell? ⟨w.heap.size,3,none⟩=some (.bool b):=fun t fr=>by
  rw [cell_of_row _ _ _ _ _ _ (heap_alloc_new w _)];rfl
 have e2:∀t fr,(w.alloc (.cells #[.int .i64 s,.int .i64 a,.int .i64 d,.bool b,.bool l] t fr)).cell? ⟨w.heap.size,4,none⟩=some (.bool l):=fun t fr=>by
  rw [cell_of_row _ _ _ _ _ _ (heap_alloc_new w _)];rfl
 have B:Hid (∀o,Below w.heap.size w (w.alloc o)):=Lib.hid (fun o=>(Below.refl _ _).alloc (Nat.le_refl _) o);cases b with
 | true =>
  cases l with
  | true =>
   go_enter func142,ntmps142
   go_wp2_with fail
   go_ret;exact⟨rfl,B.out _⟩
  | false =>
   go_enter func142,ntmps142
   go_wp2_with fail
   go_ret;exact⟨rfl,B.out _⟩
 | false =>
  cases l with
  | true =>
   go_enter func142,ntmps142
   go_wp2_with fail
   go_ret;exact⟨rfl,B.out _⟩
  | false =>
   go_enter func142,ntmps142
   go_wp2_with fail
   go_ret;exact⟨rfl,B.out _⟩
end
end Go.Proofs.YtpifdbphmnifdaaGreatDoor
