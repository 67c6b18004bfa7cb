/-
  Facts of the proof. Condition: each theorem's own.
-/
import Derived.Stop.LaidErr
import Derived.Test.YtpifdbphmnifdaaGreatDoorYR31
import Derived.Test.YtpifdbphmnifdaaGreatDoorYR32
set_option maxRecDepth 100000
set_option maxHeartbeats 8000000
open Go.Proofs.Tryz
namespace Go.Proofs.YtpifdbphmnifdaaGreatDoor
section
open Go.RowKit
theorem eqT_h {T U:Tt} (h:hdT T U=false):eqT T U=false:=by unfold eqT;rw [h];rfl
theorem eqT_t {T U:Tt} (h:eqB eTr T.tr U.tr=false):eqT T U=false:=by unfold eqT;rw [h];simp
theorem eqT_l {T U:Tt} (h:tlT T U=false):eqT T U=false:=by unfold eqT;rw [h];simp
theorem J9m {T U:Tt} (h:¬(T.di=U.di∧T.wi=U.wi∧T.cp=U.cp)):eqT T U=false:=by unfold eqT;rw [decide_eq_false h];simp
theorem eqT_y {T U:Tt} (h:hdT T U=true) (h2:eqB eTr T.tr U.tr=true) (h3:tlT T U=true) (h4:T.di=U.di∧T.wi=U.wi∧T.cp=U.cp):eqT T U=true:=by unfold eqT;rw [h,h2,h3,decide_eq_true h4];rfl
theorem J3w (a a':Nat→Option Addr) (c c':Nat→Nat) (T U:Tt) (hf:manN T) (w:World) (h:TtL w a c T) (h':TtL w a' c' U):Calls prog 12 #[ttV a c T,ttV a' c' U] w fun e w'=>e=.returned (.bool (eqT T U))∧Below w.heap.size w w':=by
 obtain⟨w7,hw7,z7,ra,rb,b7⟩:=Jdl w (Jbv a c T) (Jbv a' c' U);obtain⟨p0,p1,p2,p3,p4,p5,p6,p7,p8,p9,p10,p11,p12⟩:=Jak ra;obtain⟨q0,q1,q2,q3,q4,q5,q6,q7,q8,q9,q10,q11,q12⟩:=Jak rb;have B7:=Lib.hid b7;have C1:=Lib.hid (fun W (hW:Below w7.heap.size w7 W)=>Qc5 a a' c c' T U hf W ((h.below b7).below hW) ((h'.below b7).below hW));have C2:=Lib.hid (fun W (hW:Below w7.heap.size w7 W)=>Jtp (.slice (a 4) T.tr.length (c 4)) (.slice (a' 4) U.tr.length (c' 4)) T.tr U.tr (by have:=hf.2.2.2.2.1;omega) W ((h.below b7).tr.below hW) ((h'.below b7).tr.below hW));have C3:=Lib.hid (fun W (hW:Below w7.heap.size w7 W)=>Qdb a a' c c' T U hf W ((h.below b7).below hW) ((h'.below b7).below hW));have RA:=Lib.hid ra;have RB:=Lib.hid rb;have LA:Hid (w.heap.size<w7.heap.size):=Lib.hid (by omega);have LB:Hid (w.heap.size+1<w7.heap.size):=Lib.hid (by omega);obtain⟨V,hV⟩:∃q,eqT T U=q:=⟨_,rfl⟩;rw [hV];have HV:=Lib.hid hV;obtain⟨x1,hx1⟩:∃q,hdT T U=q:=⟨_,rfl⟩;obtain⟨x2,hx2⟩:∃q,eqB eTr T.tr U.tr=q:=⟨_,rfl⟩;obtain⟨x3,hx3⟩:∃q,tlT T U=q:=⟨_,rfl⟩;rw [hx1] at C1;rw [hx2] at C2;rw [hx3] at C3;have X1:=Lib.hid hx1;have X2:=Lib.hid hx2;have X3:=Lib.hid hx3;clear hV b7 ra rb z7 h h' hf hx1 hx2 hx3;cases x1
 ·have R:Hid (V=false):=Lib.hid (by rw [←HV.out];exact eqT_h X1.out)
  clear X2 X3 C2 C3;go_enter func12,ntmps12
  go_wp2_with fail
  refine (C1.out w7 (Below.refl _ _)).mono ?_;rintro e w8 ⟨rfl,b8⟩;have B8:=Lib.hid (b8);clear b8;clear p0 p1 p2 p3 p4 p5 p6 p7 p8 p9 p10 p11 p12 q0 q1 q2 q3 q4 q5 q6 q7 q8 q9 q10 q11 q12;obtain⟨p0,p1,p2,p3,p4,p5,p6,p7,p8,p9,p10,p11,p12⟩:=Jak ((B8.out.block _ LA.out).trans RA.out);obtain⟨q0,q1,q2,q3,q4,q5,q6,q7,q8,q9,q10,q11,q12⟩:=Jak ((B8.out.block _ LB.out).trans RB.out);go_wp2_with fail
  go_ret;exact⟨Jaa R.out.symm,B7.out.trans (B8.out.mono B7.out.size)⟩
 cases x2
 ·have R:Hid (V=false):=Lib.hid (by rw [←HV.out];exact eqT_t X2.out)
  clear X3 C3;go_enter func12,ntmps12
  go_wp2_with fail
  refine (C1.out w7 (Below.refl _ _)).mono ?_;rintro e w8 ⟨rfl,b8⟩;have B8:=Lib.hid (b8);clear b8;clear p0 p1 p2 p3 p4 p5 p6 p7 p8 p9 p10 p11 p12 q0 q1 q2 q3 q4 q5 q6 q7 q8 q9 q10 q11 q12;obtain⟨p0,p1,p2,p3,p4,p5,p6,p7,p8,p9,p10,p11,p12⟩:=Jak ((B8.out.block _ LA.out).trans RA.out);obtain⟨q0,q1,q2,q3,q4,q5,q6,q7,q8,q9,q10,q11,q12⟩:=Jak ((B8.out.block _ LB.out).trans RB.out);go_wp2_with fail
  refine (C2.out w8 B8.out).mono ?_;rintro e w9 ⟨rfl,b9⟩;replace b9:=Jaf b9
  have B9:=Lib.hid (B8.out.trans (b9.mono B8.out.size));clear b9;clear p0 p1 p2 p3 p4 p5 p6 p7 p8 p9 p10 p11 p12 q0 q1 q2 q3 q4 q5 q6 q7 q8 q9 q10 q11 q12;obtain⟨p0,p1,p2,p3,p4,p5,p6,p7,p8,p9,p10,p11,p12⟩:=Jak ((B9.out.block _ LA.out).trans RA.out);obtain⟨q0,q1,q2,q3,q4,q5,q6,q7,q8,q9,q10,q11,q12⟩:=Jak ((B9.out.block _ LB.out).trans RB.out);go_wp2_with fail
  go_ret;exact⟨Jaa R.out.symm,B7.out.trans (B9.out.mono B7.out.size)⟩
 cases x3
 ·have R:Hid (V=false):=Lib.hid (by rw [←HV.out];exact eqT_l X3.out)
  go_enter func12,ntmps12
  go_wp2_with fail
  refine (C1.out w7 (Below.refl _ _)).mono ?_;rintro e w8 ⟨rfl,b8⟩;have B8:=Lib.hid (b8);clear b8;clear p0 p1 p2 p3 p4 p5 p6 p7 p8 p9 p10 p11 p12 q0 q1 q2 q3 q4 q5 q6 q7 q8 q9 q10 q11 q12;obtain⟨p0,p1,p2,p3,p4,p5,p6,p7,p8,p9,p10,p11,p12⟩:=Jak ((B8.out.block _ LA.out).trans RA.out);obtain⟨q0,q1,q2,q3,q4,q5,q6,q7,q8,q9,q10,q11,q12⟩:=Jak ((B8.out.block _ LB.out).trans RB.out);go_wp2_with fail
  refine (C2.out w8 B8.out).mono ?_;rintro e w9 ⟨rfl,b9⟩;replace b9:=Jaf b9
  have B9:=Lib.hid (B8.out.trans (b9.mono B8.out.size));clear b9;clear p0 p1 p2 p3 p4 p5 p6 p7 p8 p9 p10 p11 p12 q0 q1 q2 q3 q4 q5 q6 q7 q8 q9 q10 q11 q12;obtain⟨p0,p1,p2,p3,p4,p5,p6,p7,p8,p9,p10,p11,p12⟩:=Jak ((B9.out.block _ LA.out).trans RA.out);obtain⟨q0,q1,q2,q3,q4,q5,q6,q7,q8,q9,q10,q11,q12⟩:=Jak ((B9.out.block _ LB.out).trans RB.out);go_wp2_with fail
  refine (C3.out w9 B9.out).mono ?_;rintro e w10 ⟨rfl,b10⟩;have B10:=Lib.hid (B9.out.trans (b10.mono B9.out.size));clear b10;clear p0 p1 p2 p3 p4 p5 p6 p7 p8 p9 p10 p11 p12 q0 q1 q2 q3 q4 q5 q6 q7 q8 q9 q10 q11 q12;obtain⟨p0,p1,p2,p3,p4,p5,p6,p7,p8,p9,p10,p11,p12⟩:=Jak ((B10.out.block _ LA.out).trans RA.out);obtain⟨q0,q1,q2,q3,q4,q5,q6,q7,q8,q9,q10,q11,q12⟩:=Jak ((B10.out.block _ LB.out).trans RB.out);go_wp2_with fail
  go_ret;exact⟨Jaa R.out.symm,B7.out.trans (B10.out.mono B7.out.size)⟩
 by_cases g1:T.di=U.di
 case neg =>
  have R:Hid (V=false):=Lib.hid (by rw [←HV.out];exact J9m (fun g=>g1 g.1));have e1:(T.di==U.di)=false:=by simpa using g1
  clear g1;go_enter func12,ntmps12
  go_wp2_with fail
  refine (C1.out w7 (Below.refl _ _)).mono ?_;rintro e w8 ⟨rfl,b8⟩;have B8:=Lib.hid (b8);clear b8;clear p0 p1 p2 p3 p4 p5 p6 p7 p8 p9 p10 p11 p12 q0 q1 q2 q3 q4 q5 q6 q7 q8 q9 q10 q11 q12;obtain⟨p0,p1,p2,p3,p4,p5,p6,p7,p8,p9,p10,p11,p12⟩:=Jak ((B8.out.block _ LA.out).trans RA.out);obtain⟨q0,q1,q2,q3,q4,q5,q6,q7,q8,q9,q10,q11,q12⟩:=Jak ((B8.out.block _ LB.out).trans RB.out);go_wp2_with fail
  refine (C2.out w8 B8.out).mono ?_;rintro e w9 ⟨rfl,b9⟩;replace b9:=Jaf b9
  have B9:=Lib.hid (B8.out.trans (b9.mono B8.out.size));clear b9;clear p0 p1 p2 p3 p4 p5 p6 p7 p8 p9 p10 p11 p12 q0 q1 q2 q3 q4 q5 q6 q7 q8 q9 q10 q11 q12;obtain⟨p0,p1,p2,p3,p4,p5,p6,p7,p8,p9,p10,p11,p12⟩:=Jak ((B9.out.block _ LA.out).trans RA.out);obtain⟨q0,q1,q2,q3,q4,q5,q6,q7,q8,q9,q10,q11,q12⟩:=Jak ((B9.out.block _ LB.out).trans RB.out);go_wp2_with fail
  refine (C3.out w9 B9.out).mono ?_;rintro e w10 ⟨rfl,b10⟩;have B10:=Lib.hid (B9.out.trans (b10.mono B9.out.size));clear b10;clear p0 p1 p2 p3 p4 p5 p6 p7 p8 p9 p10 p11 p12 q0 q1 q2 q3 q4 q5 q6 q7 q8 q9 q10 q11 q12;obtain⟨p0,p1,p2,p3,p4,p5,p6,p7,p8,p9,p10,p11,p12⟩:=Jak ((B10.out.block _ LA.out).trans RA.out);obtain⟨q0,q1,q2,q3,q4,q5,q6,q7,q8,q9,q10,q11,q12⟩:=Jak ((B10.out.block _ LB.out).trans RB.out);go_wp2_with fail
  go_ret;exact⟨Jaa R.out.symm,B7.out.trans (B10.out.mono B7.out.size)⟩
 have e1:(T.di==U.di)=true:=by simpa using g1
 by_cases g2:T.wi=U.wi
 case neg =>
  have R:Hid (V=false):=Lib.hid (by rw [←HV.out];exact J9m (fun g=>g2 g.2.1));have e2:(T.wi==U.wi)=false:=by simpa using g2
  clear g1 g2;go_enter func12,ntmps12
  go_wp2_with fail
  refine (C1.out w7 (Below.refl _ _)).mono ?_;rintro e w8 ⟨rfl,b8⟩;have B8:=Lib.hid (b8);clear b8;clear p0 p1 p2 p3 p4 p5 p6 p7 p8 p9 p10 p11 p12 q0 q1 q2 q3 q4 q5 q6 q7 q8 q9 q10 q11 q12;obtain⟨p0,p1,p2,p3,p4,p5,p6,p7,p8,p9,p10,p11,p12⟩:=Jak ((B8.out.block _ LA.out).trans RA.out);obtain⟨q0,q1,q2,q3,q4,q5,q6,q7,q8,q9,q10,q11,q12⟩:=Jak ((B8.out.block _ LB.out).trans RB.out);go_wp2_with fail
  refine (C2.out w8 B8.out).mono ?_;rintro e w9 ⟨rfl,b9⟩;replace b9:=Jaf b9
  have B9:=Lib.hid (B8.out.trans (b9.mono B8.out.size));clear b9;clear p0 p1 p2 p3 p4 p5 p6 p7 p8 p9 p10 p11 p12 q0 q1 q2 q3 q4 q5 q6 q7 q8 q9 q10 q11 q12;obtain⟨p0,p1,p2,p3,p4,p5,p6,p7,p8,p9,p10,p11,p12⟩:=Jak ((B9.out.block _ LA.out).trans RA.out);obtain⟨q0,q1,q2,q3,q4,q5,q6,q7,q8,q9,q10,q11,q12⟩:=Jak ((B9.out.block _ LB.out).trans RB.out);go_wp2_with fail
  refine (C3.out w9 B9.out).mono ?_;rintro e w10 ⟨rfl,b10⟩;have B10:=Lib.hid (B9.out.trans (b10.mono B9.out.size));clear b10;clear p0 p1 p2 p3 p4 p5 p6 p7 p8 p9 p10 p11 p12 q0 q1 q2 q3 q4 q5 q6 q7 q8 q9 q10 q11 q12;obtain⟨p0,p1,p2,p3,p4,p5,p6,p7,p8,p9,p10,p11,p12⟩:=Jak ((B10.out.block _ LA.out).trans RA.out);obtain⟨q0,q1,q2,q3,q4,q5,q6,q7,q8,q9,q10,q11,q12⟩:=Jak ((B10.out.block _ LB.out).trans RB.out);go_wp2_with fail
  go_ret;exact⟨Jaa R.out.symm,B7.out.trans (B10.out.mono B7.out.size)⟩
 have e2:(T.wi==U.wi)=true:=by simpa using g2
 by_cases g3:T.cp=U.cp
 case neg =>
  have R:Hid (V=false):=Lib.hid (by rw [←HV.out];exact J9m (fun g=>g3 g.2.2));have e3:(T.cp==U.cp)=false:=by simpa using g3
  clear g1 g2 g3;go_enter func12,ntmps12
  go_wp2_with fail
  refine (C1.out w7 (Below.refl _ _)).mono ?_;rintro e w8 ⟨rfl,b8⟩;have B8:=Lib.hid (b8);clear b8;clear p0 p1 p2 p3 p4 p5 p6 p7 p8 p9 p10 p11 p12 q0 q1 q2 q3 q4 q5 q6 q7 q8 q9 q10 q11 q12;obtain⟨p0,p1,p2,p3,p4,p5,p6,p7,p8,p9,p10,p11,p12⟩:=Jak ((B8.out.block _ LA.out).trans RA.out);obtain⟨q0,q1,q2,q3,q4,q5,q6,q7,q8,q9,q10,q11,q12⟩:=Jak ((B8.out.block _ LB.out).trans RB.out);go_wp2_with fail
  refine (C2.out w8 B8.out).mono ?_;rintro e w9 ⟨rfl,b9⟩;replace b9:=Jaf b9
  have B9:=Lib.hid (B8.out.trans (b9.mono B8.out.size));clear b9;clear p0 p1 p2 p3 p4 p5 p6 p7 p8 p9 p10 p11 p12 q0 q1 q2 q3 q4 q5 q6 q7 q8 q9 q10 q11 q12;obtain⟨p0,p1,p2,p3,p4,p5,p6,p7,p8,p9,p10,p11,p12⟩:=Jak ((B9.out.block _ LA.out).trans RA.out);obtain⟨q0,q1,q2,q3,q4,q5,q6,q7,q8,q9,q10,q11,q12⟩:=Jak ((B9.out.block _ LB.out).trans RB.out);go_wp2_with fail
  refine (C3.out w9 B9.out).mono ?_;rintro e w10 ⟨rfl,b10⟩;have B10:=Lib.hid (B9.out.trans (b10.mono B9.out.size));clear b10;clear p0 p1 p2 p3 p4 p5 p6 p7 p8 p9 p10 p11 p12 q0 q1 q2 q3 q4 q5 q6 q7 q8 q9 q10 q11 q12;obtain⟨p0,p1,p2,p3,p4,p5,p6,p7,p8,p9,p10,p11,p12⟩:=Jak ((B10.out.block _ LA.out).trans RA.out);obtain⟨q0,q1,q2,q3,q4,q5,q6,q7,q8,q9,q10,q11,q12⟩:=Jak ((B10.out.block _ LB.out).trans RB.out);go_wp2_with fail
  go_ret;exact⟨Jaa R.out.symm,B7.out.trans (B10.out.mono B7.out.size)⟩
 have e3:(T.cp==U.cp)=true:=by simpa using g3
 have R:Hid (V=true):=Lib.hid (by rw [←HV.out];exact eqT_y X1.out X2.out X3.out ⟨g1,g2,g3⟩);clear g1 g2 g3;go_enter func12,ntmps12
 go_wp2_with fail
 refine (C1.out w7 (Below.refl _ _)).mono ?_;rintro e w8 ⟨rfl,b8⟩;have B8:=Lib.hid (b8);clear b8;clear p0 p1 p2 p3 p4 p5 p6 p7 p8 p9 p10 p11 p12 q0 q1 q2 q3 q4 q5 q6 q7 q8 q9 q10 q11 q12;obtain⟨p0,p1,p2,p3,p4,p5,p6,p7,p8,p9,p10,p11,p12⟩:=Jak ((B8.out.block _ LA.out).trans RA.out);obtain⟨q0,q1,q2,q3,q4,q5,q6,q7,q8,q9,q10,q11,q12⟩:=Jak ((B8.out.block _ LB.out).trans RB.out);go_wp2_with fail
 refine (C2.out w8 B8.out).mono ?_;rintro e w9 ⟨rfl,b9⟩;replace b9:=Jaf b9
 have B9:=Lib.hid (B8.out.trans (b9.mono B8.out.size));clear b9;clear p0 p1 p2 p3 p4 p5 p6 p7 p8 p9 p10 p11 p12 q0 q1 q2 q3 q4 q5 q6 q7 q8 q9 q10 q11 q12;obtain⟨p0,p1,p2,p3,p4,p5,p6,p7,p8,p9,p10,p11,p12⟩:=Jak ((B9.out.block _ LA.out).trans RA.out);obtain⟨q0,q1,q2,q3,q4,q5,q6,q7,q8,q9,q10,q11,q12⟩:=Jak ((B9.out.block _ LB.out).trans RB.out);go_wp2_with fail
 refine (C3.out w9 B9.out).mono ?_;rintro e w10 ⟨rfl,b10⟩;have B10:=Lib.hid (B9.out.trans (b10.mono B9.out.size));clear b10;clear p0 p1 p2 p3 p4 p5 p6 p7 p8 p9 p10 p11 p12 q0 q1 q2 q3 q4 q5 q6 q7 q8 q9 q10 q11 q12;obtain⟨p0,p1,p2,p3,p4,p5,p6,p7,p8,p9,p10,p11,p12⟩:=Jak ((B10.out.block _ LA.out).trans RA.out);obtain⟨q0,q1,q2,q3,q4,q5,q6,q7,q8,q9,q10,q11,q12⟩:=Jak ((B10.out.block _ LB.out).trans RB.out);go_wp2_with fail
 go_ret;exact⟨Jaa R.out.symm,B7.out.trans (B10.out.mono B7.out.size)⟩
theorem J3x (a:Nat→Option Addr) (c:Nat→Nat) (T:Tt) (w:World) (h:TtL w a c T):Calls prog 13 #[ttV a c T] w fun e w'=>e=.returned (.bool (fewT T))∧Below w.heap.size w w':=by
 obtain⟨w7,hw7⟩:∃W,w.alloc (Jbv a c T)=W:=⟨_,rfl⟩;obtain⟨b7,s7,c7⟩:=Jer hw7;obtain⟨p0,p1,p2,p3,p4,p5,p6,p7,p8,p9,p10,p11,p12⟩:=Jak c7;have B7:=Lib.hid b7;have H:=Lib.hid (h.below b7);obtain⟨q,hq⟩:∃q,fewT T=q:=⟨_,rfl⟩;rw [hq];have HQ:=Lib.hid hq;clear b7 s7 c7 hq h;by_cases n0:¬T.st.length≤70
 ·have R:Hid (q=false):=Lib.hid (by rw [←HQ.out];exact Je5 (fun k=>n0 k.1))
  have g0:(70:Int)<(T.st.length:Int):=by omega
  clear n0;go_enter func13,ntmps13
  go_wp2_with fail
  go_ret;exact⟨Jaa R.out.symm,B7.out⟩
 have h0:=Decidable.not_not.1 n0;clear n0;have g0:decide ((70:Int)<(T.st.length:Int))=false:=decide_eq_false (by omega);by_cases n1:¬T.ro.length≤70
 ·have R:Hid (q=false):=Lib.hid (by rw [←HQ.out];exact Je5 (fun k=>n1 k.2.1))
  have g1:(70:Int)<(T.ro.length:Int):=by omega
  clear n1 h0;go_enter func13,ntmps13
  go_wp2_with fail
  go_ret;exact⟨Jaa R.out.symm,B7.out⟩
 have h1:=Decidable.not_not.1 n1;clear n1;have g1:decide ((70:Int)<(T.ro.length:Int))=false:=decide_eq_false (by omega);by_cases n2:¬T.ca.length≤70
 ·have R:Hid (q=false):=Lib.hid (by rw [←HQ.out];exact Je5 (fun k=>n2 k.2.2.1))
  have g2:(70:Int)<(T.ca.length:Int):=by omega
  clear n2 h0 h1;go_enter func13,ntmps13
  go_wp2_with fail
  go_ret;exact⟨Jaa R.out.symm,B7.out⟩
 have h2:=Decidable.not_not.1 n2;clear n2;have g2:decide ((70:Int)<(T.ca.length:Int))=false:=decide_eq_false (by omega);by_cases n3:¬T.ex.length≤70
 ·have R:Hid (q=false):=Lib.hid (by rw [←HQ.out];exact Je5 (fun k=>n3 k.2.2.2.1))
  have g3:(70:Int)<(T.ex.length:Int):=by omega
  clear n3 h0 h1 h2;go_enter func13,ntmps13
  go_wp2_with fail
  go_ret;exact⟨Jaa R.out.symm,B7.out⟩
 have h3:=Decidable.not_not.1 n3;clear n3;have g3:decide ((70:Int)<(T.ex.length:Int))=false:=decide_eq_false (by omega);by_cases n4:¬T.tr.length≤40
 ·have R:Hid (q=false):=Lib.hid (by rw [←HQ.out];exact Je5 (fun k=>n4 k.2.2.2.2.1))
  have g4:(40:Int)<(T.tr.length:Int):=by omega
  clear n4 h0 h1 h2 h3;go_enter func13,ntmps13
  go_wp2_with fail
  go_ret;exact⟨Jaa R.out.symm,B7.out⟩
 have h4:=Decidable.not_not.1 n4;clear n4;have g4:decide ((40:Int)<(T.tr.length:Int))=false:=decide_eq_false (by omega);by_cases n5:¬T.fr.length≤70
 ·have R:Hid (q=false):=Lib.hid (by rw [←HQ.out];exact Je5 (fun k=>n5 k.2.2.2.2.2.1))
  have g5:(70:Int)<(T.fr.length:Int):=by omega
  clear n5 h0 h1 h2 h3 h4;go_enter func13,ntmps13
  go_wp2_with fail
  go_ret;exact⟨Jaa R.out.symm,B7.out⟩
 have h5:=Decidable.not_not.1 n5;clear n5;have g5:decide ((70:Int)<(T.fr.length:Int))=false:=decide_eq_false (by omega);by_cases n6:¬T.th.length≤140
 ·have R:Hid (q=false):=Lib.hid (by rw [←HQ.out];exact Je5 (fun k=>n6 k.2.2.2.2.2.2.1))
  have g6:(140:Int)<(T.th.length:Int):=by omega
  clear n6 h0 h1 h2 h3 h4 h5;go_enter func13,ntmps13
  go_wp2_with fail
  go_ret;exact⟨Jaa R.out.symm,B7.out⟩
 have h6:=Decidable.not_not.1 n6;clear n6;have g6:decide ((140:Int)<(T.th.length:Int))=false:=decide_eq_false (by omega);by_cases n7:¬T.gu.length≤140
 ·have R:Hid (q=false):=Lib.hid (by rw [←HQ.out];exact Je5 (fun k=>n7 k.2.2.2.2.2.2.2.1))
  have g7:(140:Int)<(T.gu.length:Int):=by omega
  clear n7 h0 h1 h2 h3 h4 h5 h6;go_enter func13,ntmps13
  go_wp2_with fail
  go_ret;exact⟨Jaa R.out.symm,B7.out⟩
 have h7:=Decidable.not_not.1 n7;clear n7;have g7:decide ((140:Int)<(T.gu.length:Int))=false:=decide_eq_false (by omega);by_cases n8:¬T.pa.length≤70
 ·have R:Hid (q=false):=Lib.hid (by rw [←HQ.out];exact Je5 (fun k=>n8 k.2.2.2.2.2.2.2.2.1))
  have g8:(70:Int)<(T.pa.length:Int):=by omega
  clear n8 h0 h1 h2 h3 h4 h5 h6 h7;go_enter func13,ntmps13
  go_wp2_with fail
  go_ret;exact⟨Jaa R.out.symm,B7.out⟩
 have h8:=Decidable.not_not.1 n8;clear n8;have g8:decide ((70:Int)<(T.pa.length:Int))=false:=decide_eq_false (by omega);by_cases n9:¬T.pr.length≤20
 ·have R:Hid (q=false):=Lib.hid (by rw [←HQ.out];exact Je5 (fun k=>n9 k.2.2.2.2.2.2.2.2.2))
  have g9:(20:Int)<(T.pr.length:Int):=by omega
  clear n9 h0 h1 h2 h3 h4 h5 h6 h7 h8;go_enter func13,ntmps13
  go_wp2_with fail
  go_ret;exact⟨Jaa R.out.symm,B7.out⟩
 have h9:=Decidable.not_not.1 n9;clear n9;have g9:decide ((20:Int)<(T.pr.length:Int))=false:=decide_eq_false (by omega);have FN:Hid (fewN T):=Lib.hid ⟨h0,h1,h2,h3,h4,h5,h6,h7,h8,h9⟩;clear h0 h1 h2 h3 h5 h6 h7 h8 h9;go_enter func13,ntmps13
 go_wp2_with fail
 clear g0 g1 g2 g3 g4 g5 g6 g7 g8 g9;go_loop [3] (fun i=>∃k:Nat,i=.int .i64 k∧k≤T.tr.length∧Hid (∀(j:Nat) x,j<k→T.tr[j]?=some x→(clT x).length≤40)) (fun i=>T.tr.length - (intOf i).toNat)
 case atStart=>exact⟨0,rfl,Nat.zero_le _,Lib.hid (fun j x h=>absurd h (Nat.not_lt_zero _))⟩
 case round =>
  obtain⟨k,rfl,hk,hall⟩:=hrel;by_cases hlt:k<T.tr.length
  ·obtain⟨⟨id,r,ca,f,v,cl⟩,hx⟩:=Jao hlt
   obtain⟨nm,hnm⟩:∃nm,str id=nm:=⟨_,rfl⟩;obtain⟨b,o,B,m,hA,rfl,hb,r0,r1,r2,r3,r4,-,hcl,-⟩:=Jb2 H.out.tr hx hnm;have gk:(k:Int)<(T.tr.length:Int):=by omega
   rw [hA] at p4;by_cases h40:40<cl.length
   ·have R:Hid (q=false):=Lib.hid (by rw [←HQ.out];exact J1b hx h40)
    have g:(40:Int)<(cl.length:Int):=by omega
    clear hx hnm hb hall h40 HQ H FN hA;go_wp2_with fail
    go_ret;exact⟨Jaa R.out.symm,B7.out⟩
   ·have g:decide ((40:Int)<(cl.length:Int))=false:=decide_eq_false (by omega)
    have N:Hid (∀(j:Nat) x,j<k+1→T.tr[j]?=some x→(clT x).length≤40):=Lib.hid (by
     intro j x hj hxx;by_cases e:j=k
     ·subst e
      rw [hx] at hxx;cases hxx
      show cl.length≤40
      omega
     ·exact hall.out j x (by omega) hxx)
    clear hx hnm hb hall h40 HQ H FN hA;go_wp2_with fail
    go_round
    case rel=>exact⟨k+1,by go_num,by omega,N⟩
    case measure=>simp [intOf];omega
  ·have dk:decide (k<T.tr.length)=false:=by rw [decide_eq_false_iff_not];exact hlt
   have R:Hid (q=true):=Lib.hid (by rw [←HQ.out];exact J7h FN.out (fun j x hj=>hall.out j x (by omega)));clear hlt hall HQ H FN;go_wp2_with fail
   go_ret;exact⟨Jaa R.out.symm,B7.out⟩
theorem Jtq (EX:ExH) (a:Nat→Option Addr) (c:Nat→Nat) (T:Tt) (hn:LnTt T) (hx:OkTt T) (w:World) (hg:Jdi w) (hl:TtL w a c T):Calls prog 5 #[ttV a c T] w fun e w'=>e=.returned (.bool true)∧Below w.heap.size w w':=by
 obtain⟨w7,h7⟩:∃X,w.alloc (Jbv a c T)=X:=⟨_,rfl⟩;obtain⟨b7,s7,c7⟩:=Jer h7;have B7:=Lib.hid b7;have CF:=Lib.hid (J3x a c T w7 (hl.below b7));have GB:Hid (∀X:World,Below w7.heap.size w7 X→Jdi X∧TtL X a c T∧X.heap[w.heap.size]?=some (Jbv a c T)∧Below w.heap.size w X):=Lib.hid (fun X b=>by
  have b2:=b7.trans (b.mono b7.size);exact⟨hg.below b2,hl.below b2,(b.block _ s7).trans c7,b2⟩)
 obtain⟨q0,q1,q2,q3,q4,q5,q6,q7,q8,q9,q10,q11,q12⟩:=Jei c7;cases hf:fewT T with
 | false =>
  rw [hf] at CF;clear c7 s7 b7 hf hn hx hl hg;go_enter func5,ntmps5
  go_wp2_with fail
  refine CF.out.mono ?_;rintro e w1 ⟨rfl,b1⟩;have G1:=GB.out w1 b1;have C2:=Lib.hid (EX w1 G1.1);have Z1:=Lib.hid G1.2.2.2;clear G1 b1 CF;go_wp2_with fail
  refine C2.out.mono ?_;rintro e w2 ⟨rfl,b2⟩;have B:=Lib.hid (Z1.out.trans (b2.mono Z1.out.size));clear b2 C2;go_wp2_with fail
  go_ret;exact⟨rfl,B.out⟩
 | true =>
  rw [hf] at CF;have man:=J80 hf;have CW:Hid (∀X:World,Below w7.heap.size w7 X→Calls prog 14 #[ttV a c T] X fun e w'=>e=.returned (.tuple #[.string (str (feedF fmR T).1),.int .i64 (feedF fmR T).2])∧Below X.heap.size X w'):=Lib.hid (fun X b=>Ji1 (GB.out X b).1 (GB.out X b).2.1 man hx hn);have hfn:=(Jck.1 man).1;by_cases hz:(feedF fmR T).2=0
  ·obtain⟨t0,tl,te⟩:=Qc0 hz
   have CP:Hid (∀X:World,Jdi X→Calls prog 10 #[.string (str (Je1 fmR T))] X fun e w'=>PaR fmR (Je1 fmR T) X e w'):=Lib.hid (fun X g=>Jg0 g _ (by omega));have hp:=J7n Qbb t0 tl;have HE:Hid (∀U,CopT (nrm T) U→eqT T U=true):=Lib.hid (fun U cp=>J9j cp (J7m T));have HF:=Lib.hid hfn;unfold PaR at CP;rw [hp] at CP;rw [hz,te] at CW;obtain⟨s,hs⟩:∃s,str (Je1 fmR T)=s:=⟨_,rfl⟩;rw [hs] at CW CP;clear c7 s7 b7 hf hn hx hl hg hz t0 tl te hp hs hfn man;go_enter func5,ntmps5
   go_wp2_with fail
   refine CF.out.mono ?_;rintro e w1 ⟨rfl,b1⟩;have C2:=Lib.hid (CW.out w1 b1);have Z1:=Lib.hid b1;clear q0 q1 q2 q3 q4 q5 q6 q7 q8 q9 q10 q11 q12;obtain⟨q0,q1,q2,q3,q4,q5,q6,q7,q8,q9,q10,q11,q12⟩:=Jei (w:=w1) (GB.out w1 b1).2.2.1;clear b1 CF CW h7;go_wp2_with fail
   refine C2.out.mono ?_;rintro e w2 ⟨rfl,b2⟩;have Z2:=Lib.hid (Z1.out.trans (b2.mono Z1.out.size));have C3:=Lib.hid (CP.out w2 (GB.out w2 Z2.out).1);clear b2 C2 Z1 CP q0 q1 q2 q3 q4 q5 q6 q7 q8 q9 q10 q11 q12;go_wp2_with fail
   refine C3.out.mono ?_;rintro e w3 ⟨a2,c2,U,rfl,cp,tl2,man2,ok2,ln2,b3⟩;obtain⟨w4,h4⟩:∃X,w3.alloc (Jbv a2 c2 U)=X:=⟨_,rfl⟩;obtain⟨b4,s4,c4⟩:=Jer h4;have Z3:=Z2.out.trans (b3.mono Z2.out.size);have Z4:=Lib.hid (Z3.trans (b4.mono Z3.size));have C5:=Lib.hid (J3w a a2 c c2 T U HF.out w4 (GB.out w4 Z4.out).2.1 (tl2.below b4));rw [HE.out U cp] at C5;obtain⟨q0,q1,q2,q3,q4,q5,q6,q7,q8,q9,q10,q11,q12⟩:=Jei (w:=w4) (GB.out w4 Z4.out).2.2.1;obtain⟨p0,p1,p2,p3,p4,p5,p6,p7,p8,p9,p10,p11,p12⟩:=Jei (w:=w4) c4;clear cp tl2 man2 ok2 ln2 b3 b4 s4 c4 Z3 Z2 C3 HE HF;go_wp2_with fail
   refine C5.out.mono ?_;rintro e w5 ⟨rfl,b5⟩;have Z5:=Lib.hid (Z4.out.trans (b5.mono Z4.out.size));have C6:=Lib.hid (EX w5 (GB.out w5 Z5.out).1);clear b5 C5 Z4 h4 q0 q1 q2 q3 q4 q5 q6 q7 q8 q9 q10 q11 q12 p0 p1 p2 p3 p4 p5 p6 p7 p8 p9 p10 p11 p12;go_wp2_with fail
   refine C6.out.mono ?_;rintro e w6 ⟨rfl,b6⟩;have B:=Lib.hid ((GB.out w5 Z5.out).2.2.2.trans (b6.mono (GB.out w5 Z5.out).2.2.2.size));clear b6 C6;go_wp2_with fail
   go_ret;exact⟨rfl,B.out⟩
  ·have te:=J9k hz
   rw [te] at CW;generalize (feedF fmR T).2=z at CW hz;have g1:=Jae hz;have n0:(str ([]:Bs)).toList.isEmpty=true:=by rw [Jcc];rfl
   obtain⟨s,hs⟩:∃s,str ([]:Bs)=s:=⟨_,rfl⟩;rw [hs] at CW n0;clear c7 s7 b7 hf hn hx hl hg hz te hs hfn man;go_enter func5,ntmps5
   go_wp2_with fail
   refine CF.out.mono ?_;rintro e w1 ⟨rfl,b1⟩;have C2:=Lib.hid (CW.out w1 b1);have Z1:=Lib.hid b1;clear q0 q1 q2 q3 q4 q5 q6 q7 q8 q9 q10 q11 q12;obtain⟨q0,q1,q2,q3,q4,q5,q6,q7,q8,q9,q10,q11,q12⟩:=Jei (w:=w1) (GB.out w1 b1).2.2.1;clear b1 CF CW h7;go_wp2_with fail
   refine C2.out.mono ?_;rintro e w2 ⟨rfl,b2⟩;have Z2:=Lib.hid (Z1.out.trans (b2.mono Z1.out.size));have C3:=Lib.hid (EX w2 (GB.out w2 Z2.out).1);clear b2 C2 Z1 q0 q1 q2 q3 q4 q5 q6 q7 q8 q9 q10 q11 q12;go_wp2_with fail
   refine C3.out.mono ?_;rintro e w6 ⟨rfl,b6⟩;have B:=Lib.hid ((GB.out w2 Z2.out).2.2.2.trans (b6.mono (GB.out w2 Z2.out).2.2.2.size));clear b6 C3;go_wp2_with fail
   go_ret;exact⟨rfl,B.out⟩
theorem Jtr (a:Nat→Option Addr) (c:Nat→Nat) (T:Tt) (hn:LnTt T) (hx:OkTt T) (w:World) (hg:Jdi w) (hl:TtL w a c T):Calls prog 5 #[ttV a c T] w fun e w'=>e=.returned (.bool true)∧Below w.heap.size w w':=Jtq J3v a c T hn hx w hg hl
open Go Go.RowKit Go.ChangeShapes Go.WideShapes Go.Deep
theorem Jrg:"*"++"errors.errorString"="*errors.errorString":=by decide
theorem J9n (u:TypeId) (h:prog.typeName? 3 u=some "*errors.errorString"):u=330 :=
 typeName_ptr_named (nm:="errors.errorString") (by rw [Jrg];kernel_rfl) (by kernel_rfl) (by decide) u (by rw [Jrg];exact h)
theorem Jld {H:Type} {enc:TypeId×Value→H} {W:World} {base:Nat} {sp:Nat→Bool} {held:Bool} {fuel:Nat} {t e:TypeId} {n:Nat} {cs:List Value} {ls:List (List UInt8)} {p:List MemPlace}
  (ht:prog.underlying t=some (.array n e)) (he:prog.underlying e=some .string) (hce:prog.cellsOf e=1) (hct:prog.cellsOf t=n)
  (h:DataW.trod enc prog W base sp held fuel t cs=some (.agg (ls.map fun l=>(.lit (.string l):DataW H)),p)):cs=ls.map fun l=>Value.string (str l):=by
 cases fuel with
 | zero=>simp [DataW.trod] at h
 | succ fuel =>
  simp only [DataW.trod,ht,hce,hct,Nat.mul_one] at h;split at h
  ·next hl =>
   obtain⟨xs,hm,hx⟩:=Option.map_eq_some_iff.1 h;have hxs:xs.map (·.1)=ls.map fun l=>(DataW.lit (.string l):DataW H):=by
    have:=congrArg Prod.fst hx;simpa using this
   have hxl:xs.length=n:=by simpa using Lib.mapM_length hm
   have hzl:ls.length=n:=by
    have:=congrArg List.length hxs;simp at this;omega
   apply List.ext_getElem?
   intro i;by_cases hi:i<n
   ·obtain⟨b,hb,hf⟩:=Lib.mapM_at hm i i (by simp [hi])
    obtain⟨s,hc,rfl,-⟩:=DataW.trod_string he hf;have h1:cs[i]?=some (.string s):=by
     have:=congrArg (·[0]?) hc;simpa [List.getElem?_take,List.getElem?_drop] using this
    have h2:(xs.map (·.1))[i]?=some (DataW.lit (.string s.data.toList):DataW H):=by simp [hb]
    rw [hxs] at h2;simp only [List.getElem?_map,Option.map_eq_some_iff,DataW.lit.injEq,Lit.string.injEq] at h2;obtain⟨l,hl2,rfl⟩:=h2;simp [h1,hl2,Jas]
   ·rw [List.getElem?_eq_none (by omega),List.getElem?_eq_none (by simp;omega)]
  ·cases h
theorem Jg8 {W:World} {nm:String} {d:DataW Unit} {r:List (String×DataW Unit)} {g:Nat} {t:TypeId} {n:Nat} {ls:List Bs} (hd0:d=.agg (ls.map fun l=>.lit (.string l))) (hg:prog.globalNamed nm=some g) (ht:(prog.globals[g]?).map (·.type)=some t)
  (hu:prog.underlying t=some (.array n 9)) (hct:prog.cellsOf t=n) (h:laidMet prog ((nm,d)::r) W):W.var? prog nm=some (ls.map fun k=>Value.string (str k)).toArray:=by
 subst hd0;obtain⟨ps,⟨g',t',cs,fuel,p,q,hg',ht',hvar,hd,_,_⟩,_⟩:=h;obtain rfl:=Option.some.inj (hg.symm.trans hg');obtain rfl:=Option.some.inj (ht.symm.trans ht');have e:=Jld (ls:=ls) hu underlying9 (by kernel_rfl) hct hd;rw [hvar,show cs=(ls.map fun k=>Value.string (str k)).toArray from Array.toList_inj.1 (by rw [e])]
theorem Jnh {W:World} (h:laidMet prog [("math/bits.deBruijn32tab",Rows.laid_math_bits_deBruijn32tab),("math/bits.deBruijn64tab",Rows.laid_math_bits_deBruijn64tab),("internal/strconv.uint64pow10",Rows.laid_internal_strconv_uint64pow10),("unicode/utf8.acceptRanges",Rows.laid_unicode_utf8_acceptRanges),("strconv.ErrRange",Rows.laid_strconv_ErrRange),("strconv.ErrSyntax",Rows.laid_strconv_ErrSyntax),("transit/date.monthLengths",Rows.laid_transit_date_monthLengths),("transit/route.names",Rows.laid_transit_route_names),("transit/feed.kinds",Rows.laid_transit_feed_kinds),("unicode/utf8.first",Rows.laid_unicode_utf8_first)] W):Jdi W:=by
 have h2:=h.tail;have h3:=h2.tail;have h5:=h3.tail.tail;have h7:=h5.tail.tail;have h8:=h7.tail;have h9:=h8.tail;obtain⟨a,_,hv,_⟩:=laid_sentinel h5 S3.gRange (by kernel_rfl) underlying220 J9n underlying330 underlying332 rfl rfl underlying9 (by kernel_rfl) (by kernel_rfl);exact⟨⟨Lib.tabIs_of_head (k:=.i64) (zs:=S2.lens) (t:=295) (e:=3) (n:=12) S2.gLens (by kernel_rfl) (by kernel_rfl) (by kernel_rfl) (by kernel_rfl) (by kernel_rfl) h7,
  Lib.tabIs_of_head (k:=.u64) (zs:=Lib.pow10Tab) (t:=328) (e:=225) (n:=20) S2.gPow (by kernel_rfl) (by kernel_rfl) (by kernel_rfl) (by kernel_rfl) (by kernel_rfl) h3⟩,⟨_,_,hv⟩,
  ⟨Lib.tabIs_of_head (k:=.u8) (zs:=Juz) (t:=297) (e:=5) (n:=64) gTab (by kernel_rfl) (by kernel_rfl) (by kernel_rfl) (by kernel_rfl) (by kernel_rfl) h2,Jg8 (ls:=nmL) (t:=227) (n:=8) rfl S15.gNames (by kernel_rfl) underlying227 (by kernel_rfl) h8⟩,
  Jg8 (ls:=kinds.take 10) (t:=105) (n:=10) rfl Jq6 (by kernel_rfl) underlying105 (by kernel_rfl) h9⟩
end
end Go.Proofs.YtpifdbphmnifdaaGreatDoor
