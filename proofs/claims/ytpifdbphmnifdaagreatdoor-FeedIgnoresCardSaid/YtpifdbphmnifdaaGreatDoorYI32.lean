/-
  Facts of the proof. Condition: each theorem's own.
-/
import Derived.Test.YtpifdbphmnifdaaGreatDoorYI30
import Derived.Test.YtpifdbphmnifdaaGreatDoorYI31
set_option maxRecDepth 100000
set_option maxHeartbeats 8000000
open Go.Proofs.Tryz
namespace Go.Proofs.YtpifdbphmnifdaaGreatDoor
section
open Go.RowKit
theorem eqT_h {T U:Tt} (h:hdT T U=false):eqT T U=false:=by unfold eqT;rw [h];rfl
theorem eqT_t {T U:Tt} (h:eqB eTr T.tr U.tr=false):eqT T U=false:=by unfold eqT;rw [h];simp
theorem eqT_l {T U:Tt} (h:tlT T U=false):eqT T U=false:=by unfold eqT;rw [h];simp
theorem J8t {T U:Tt} (h:¬(T.di=U.di∧T.wi=U.wi∧T.cp=U.cp)):eqT T U=false:=by unfold eqT;rw [decide_eq_false h];simp
theorem eqT_y {T U:Tt} (h:hdT T U=true) (h2:eqB eTr T.tr U.tr=true) (h3:tlT T U=true) (h4:T.di=U.di∧T.wi=U.wi∧T.cp=U.cp):eqT T U=true:=by unfold eqT;rw [h,h2,h3,decide_eq_true h4];rfl
theorem J22 (a a':Nat→Option Addr) (c c':Nat→Nat) (T U:Tt) (hf:manN T) (w:World) (h:TtL w a c T) (h':TtL w a' c' U):Calls prog 12 #[ttV a c T,ttV a' c' U] w fun e w'=>e=.returned (.bool (eqT T U))∧Below w.heap.size w w':=by
 obtain⟨w7,hw7,z7,ra,rb,b7⟩:=Jda w (Jbu a c T) (Jbu a' c' U);obtain⟨p0,p1,p2,p3,p4,p5,p6,p7,p8,p9,p10,p11,p12⟩:=Jal ra;obtain⟨q0,q1,q2,q3,q4,q5,q6,q7,q8,q9,q10,q11,q12⟩:=Jal rb;have B7:=Lib.hid b7;have C1:=Lib.hid (fun W (hW:Below w7.heap.size w7 W)=>Qca a a' c c' T U hf W ((h.below b7).below hW) ((h'.below b7).below hW));have C2:=Lib.hid (fun W (hW:Below w7.heap.size w7 W)=>Js6 (.slice (a 4) T.tr.length (c 4)) (.slice (a' 4) U.tr.length (c' 4)) T.tr U.tr (by have:=hf.2.2.2.2.1;omega) W ((h.below b7).tr.below hW) ((h'.below b7).tr.below hW));have C3:=Lib.hid (fun W (hW:Below w7.heap.size w7 W)=>Qcg a a' c c' T U hf W ((h.below b7).below hW) ((h'.below b7).below hW));have RA:=Lib.hid ra;have RB:=Lib.hid rb;have LA:Hid (w.heap.size<w7.heap.size):=Lib.hid (by omega);have LB:Hid (w.heap.size+1<w7.heap.size):=Lib.hid (by omega);obtain⟨V,hV⟩:∃q,eqT T U=q:=⟨_,rfl⟩;rw [hV];have HV:=Lib.hid hV;obtain⟨x1,hx1⟩:∃q,hdT T U=q:=⟨_,rfl⟩;obtain⟨x2,hx2⟩:∃q,eqB eTr T.tr U.tr=q:=⟨_,rfl⟩;obtain⟨x3,hx3⟩:∃q,tlT T U=q:=⟨_,rfl⟩;rw [hx1] at C1;rw [hx2] at C2;rw [hx3] at C3;have X1:=Lib.hid hx1;have X2:=Lib.hid hx2;have X3:=Lib.hid hx3;clear hV b7 ra rb z7 h h' hf hx1 hx2 hx3;cases x1
 ·have R:Hid (V=false):=Lib.hid (by rw [←HV.out];exact eqT_h X1.out)
  clear X2 X3 C2 C3;go_enter func12,ntmps12
  go_wp2_with fail
  refine (C1.out w7 (Below.refl _ _)).mono ?_;rintro e w8 ⟨rfl,b8⟩;have B8:=Lib.hid (b8);clear b8;clear p0 p1 p2 p3 p4 p5 p6 p7 p8 p9 p10 p11 p12 q0 q1 q2 q3 q4 q5 q6 q7 q8 q9 q10 q11 q12;obtain⟨p0,p1,p2,p3,p4,p5,p6,p7,p8,p9,p10,p11,p12⟩:=Jal ((B8.out.block _ LA.out).trans RA.out);obtain⟨q0,q1,q2,q3,q4,q5,q6,q7,q8,q9,q10,q11,q12⟩:=Jal ((B8.out.block _ LB.out).trans RB.out);go_wp2_with fail
  go_ret;exact⟨Jaa R.out.symm,B7.out.trans (B8.out.mono B7.out.size)⟩
 cases x2
 ·have R:Hid (V=false):=Lib.hid (by rw [←HV.out];exact eqT_t X2.out)
  clear X3 C3;go_enter func12,ntmps12
  go_wp2_with fail
  refine (C1.out w7 (Below.refl _ _)).mono ?_;rintro e w8 ⟨rfl,b8⟩;have B8:=Lib.hid (b8);clear b8;clear p0 p1 p2 p3 p4 p5 p6 p7 p8 p9 p10 p11 p12 q0 q1 q2 q3 q4 q5 q6 q7 q8 q9 q10 q11 q12;obtain⟨p0,p1,p2,p3,p4,p5,p6,p7,p8,p9,p10,p11,p12⟩:=Jal ((B8.out.block _ LA.out).trans RA.out);obtain⟨q0,q1,q2,q3,q4,q5,q6,q7,q8,q9,q10,q11,q12⟩:=Jal ((B8.out.block _ LB.out).trans RB.out);go_wp2_with fail
  refine (C2.out w8 B8.out).mono ?_;rintro e w9 ⟨rfl,b9⟩;replace b9:=Jah b9
  have B9:=Lib.hid (B8.out.trans (b9.mono B8.out.size));clear b9;clear p0 p1 p2 p3 p4 p5 p6 p7 p8 p9 p10 p11 p12 q0 q1 q2 q3 q4 q5 q6 q7 q8 q9 q10 q11 q12;obtain⟨p0,p1,p2,p3,p4,p5,p6,p7,p8,p9,p10,p11,p12⟩:=Jal ((B9.out.block _ LA.out).trans RA.out);obtain⟨q0,q1,q2,q3,q4,q5,q6,q7,q8,q9,q10,q11,q12⟩:=Jal ((B9.out.block _ LB.out).trans RB.out);go_wp2_with fail
  go_ret;exact⟨Jaa R.out.symm,B7.out.trans (B9.out.mono B7.out.size)⟩
 cases x3
 ·have R:Hid (V=false):=Lib.hid (by rw [←HV.out];exact eqT_l X3.out)
  go_enter func12,ntmps12
  go_wp2_with fail
  refine (C1.out w7 (Below.refl _ _)).mono ?_;rintro e w8 ⟨rfl,b8⟩;have B8:=Lib.hid (b8);clear b8;clear p0 p1 p2 p3 p4 p5 p6 p7 p8 p9 p10 p11 p12 q0 q1 q2 q3 q4 q5 q6 q7 q8 q9 q10 q11 q12;obtain⟨p0,p1,p2,p3,p4,p5,p6,p7,p8,p9,p10,p11,p12⟩:=Jal ((B8.out.block _ LA.out).trans RA.out);obtain⟨q0,q1,q2,q3,q4,q5,q6,q7,q8,q9,q10,q11,q12⟩:=Jal ((B8.out.block _ LB.out).trans RB.out);go_wp2_with fail
  refine (C2.out w8 B8.out).mono ?_;rintro e w9 ⟨rfl,b9⟩;replace b9:=Jah b9
  have B9:=Lib.hid (B8.out.trans (b9.mono B8.out.size));clear b9;clear p0 p1 p2 p3 p4 p5 p6 p7 p8 p9 p10 p11 p12 q0 q1 q2 q3 q4 q5 q6 q7 q8 q9 q10 q11 q12;obtain⟨p0,p1,p2,p3,p4,p5,p6,p7,p8,p9,p10,p11,p12⟩:=Jal ((B9.out.block _ LA.out).trans RA.out);obtain⟨q0,q1,q2,q3,q4,q5,q6,q7,q8,q9,q10,q11,q12⟩:=Jal ((B9.out.block _ LB.out).trans RB.out);go_wp2_with fail
  refine (C3.out w9 B9.out).mono ?_;rintro e w10 ⟨rfl,b10⟩;have B10:=Lib.hid (B9.out.trans (b10.mono B9.out.size));clear b10;clear p0 p1 p2 p3 p4 p5 p6 p7 p8 p9 p10 p11 p12 q0 q1 q2 q3 q4 q5 q6 q7 q8 q9 q10 q11 q12;obtain⟨p0,p1,p2,p3,p4,p5,p6,p7,p8,p9,p10,p11,p12⟩:=Jal ((B10.out.block _ LA.out).trans RA.out);obtain⟨q0,q1,q2,q3,q4,q5,q6,q7,q8,q9,q10,q11,q12⟩:=Jal ((B10.out.block _ LB.out).trans RB.out);go_wp2_with fail
  go_ret;exact⟨Jaa R.out.symm,B7.out.trans (B10.out.mono B7.out.size)⟩
 by_cases g1:T.di=U.di
 case neg =>
  have R:Hid (V=false):=Lib.hid (by rw [←HV.out];exact J8t (fun g=>g1 g.1));have e1:(T.di==U.di)=false:=by simpa using g1
  clear g1;go_enter func12,ntmps12
  go_wp2_with fail
  refine (C1.out w7 (Below.refl _ _)).mono ?_;rintro e w8 ⟨rfl,b8⟩;have B8:=Lib.hid (b8);clear b8;clear p0 p1 p2 p3 p4 p5 p6 p7 p8 p9 p10 p11 p12 q0 q1 q2 q3 q4 q5 q6 q7 q8 q9 q10 q11 q12;obtain⟨p0,p1,p2,p3,p4,p5,p6,p7,p8,p9,p10,p11,p12⟩:=Jal ((B8.out.block _ LA.out).trans RA.out);obtain⟨q0,q1,q2,q3,q4,q5,q6,q7,q8,q9,q10,q11,q12⟩:=Jal ((B8.out.block _ LB.out).trans RB.out);go_wp2_with fail
  refine (C2.out w8 B8.out).mono ?_;rintro e w9 ⟨rfl,b9⟩;replace b9:=Jah b9
  have B9:=Lib.hid (B8.out.trans (b9.mono B8.out.size));clear b9;clear p0 p1 p2 p3 p4 p5 p6 p7 p8 p9 p10 p11 p12 q0 q1 q2 q3 q4 q5 q6 q7 q8 q9 q10 q11 q12;obtain⟨p0,p1,p2,p3,p4,p5,p6,p7,p8,p9,p10,p11,p12⟩:=Jal ((B9.out.block _ LA.out).trans RA.out);obtain⟨q0,q1,q2,q3,q4,q5,q6,q7,q8,q9,q10,q11,q12⟩:=Jal ((B9.out.block _ LB.out).trans RB.out);go_wp2_with fail
  refine (C3.out w9 B9.out).mono ?_;rintro e w10 ⟨rfl,b10⟩;have B10:=Lib.hid (B9.out.trans (b10.mono B9.out.size));clear b10;clear p0 p1 p2 p3 p4 p5 p6 p7 p8 p9 p10 p11 p12 q0 q1 q2 q3 q4 q5 q6 q7 q8 q9 q10 q11 q12;obtain⟨p0,p1,p2,p3,p4,p5,p6,p7,p8,p9,p10,p11,p12⟩:=Jal ((B10.out.block _ LA.out).trans RA.out);obtain⟨q0,q1,q2,q3,q4,q5,q6,q7,q8,q9,q10,q11,q12⟩:=Jal ((B10.out.block _ LB.out).trans RB.out);go_wp2_with fail
  go_ret;exact⟨Jaa R.out.symm,B7.out.trans (B10.out.mono B7.out.size)⟩
 have e1:(T.di==U.di)=true:=by simpa using g1
 by_cases g2:T.wi=U.wi
 case neg =>
  have R:Hid (V=false):=Lib.hid (by rw [←HV.out];exact J8t (fun g=>g2 g.2.1));have e2:(T.wi==U.wi)=false:=by simpa using g2
  clear g1 g2;go_enter func12,ntmps12
  go_wp2_with fail
  refine (C1.out w7 (Below.refl _ _)).mono ?_;rintro e w8 ⟨rfl,b8⟩;have B8:=Lib.hid (b8);clear b8;clear p0 p1 p2 p3 p4 p5 p6 p7 p8 p9 p10 p11 p12 q0 q1 q2 q3 q4 q5 q6 q7 q8 q9 q10 q11 q12;obtain⟨p0,p1,p2,p3,p4,p5,p6,p7,p8,p9,p10,p11,p12⟩:=Jal ((B8.out.block _ LA.out).trans RA.out);obtain⟨q0,q1,q2,q3,q4,q5,q6,q7,q8,q9,q10,q11,q12⟩:=Jal ((B8.out.block _ LB.out).trans RB.out);go_wp2_with fail
  refine (C2.out w8 B8.out).mono ?_;rintro e w9 ⟨rfl,b9⟩;replace b9:=Jah b9
  have B9:=Lib.hid (B8.out.trans (b9.mono B8.out.size));clear b9;clear p0 p1 p2 p3 p4 p5 p6 p7 p8 p9 p10 p11 p12 q0 q1 q2 q3 q4 q5 q6 q7 q8 q9 q10 q11 q12;obtain⟨p0,p1,p2,p3,p4,p5,p6,p7,p8,p9,p10,p11,p12⟩:=Jal ((B9.out.block _ LA.out).trans RA.out);obtain⟨q0,q1,q2,q3,q4,q5,q6,q7,q8,q9,q10,q11,q12⟩:=Jal ((B9.out.block _ LB.out).trans RB.out);go_wp2_with fail
  refine (C3.out w9 B9.out).mono ?_;rintro e w10 ⟨rfl,b10⟩;have B10:=Lib.hid (B9.out.trans (b10.mono B9.out.size));clear b10;clear p0 p1 p2 p3 p4 p5 p6 p7 p8 p9 p10 p11 p12 q0 q1 q2 q3 q4 q5 q6 q7 q8 q9 q10 q11 q12;obtain⟨p0,p1,p2,p3,p4,p5,p6,p7,p8,p9,p10,p11,p12⟩:=Jal ((B10.out.block _ LA.out).trans RA.out);obtain⟨q0,q1,q2,q3,q4,q5,q6,q7,q8,q9,q10,q11,q12⟩:=Jal ((B10.out.block _ LB.out).trans RB.out);go_wp2_with fail
  go_ret;exact⟨Jaa R.out.symm,B7.out.trans (B10.out.mono B7.out.size)⟩
 have e2:(T.wi==U.wi)=true:=by simpa using g2
 by_cases g3:T.cp=U.cp
 case neg =>
  have R:Hid (V=false):=Lib.hid (by rw [←HV.out];exact J8t (fun g=>g3 g.2.2));have e3:(T.cp==U.cp)=false:=by simpa using g3
  clear g1 g2 g3;go_enter func12,ntmps12
  go_wp2_with fail
  refine (C1.out w7 (Below.refl _ _)).mono ?_;rintro e w8 ⟨rfl,b8⟩;have B8:=Lib.hid (b8);clear b8;clear p0 p1 p2 p3 p4 p5 p6 p7 p8 p9 p10 p11 p12 q0 q1 q2 q3 q4 q5 q6 q7 q8 q9 q10 q11 q12;obtain⟨p0,p1,p2,p3,p4,p5,p6,p7,p8,p9,p10,p11,p12⟩:=Jal ((B8.out.block _ LA.out).trans RA.out);obtain⟨q0,q1,q2,q3,q4,q5,q6,q7,q8,q9,q10,q11,q12⟩:=Jal ((B8.out.block _ LB.out).trans RB.out);go_wp2_with fail
  refine (C2.out w8 B8.out).mono ?_;rintro e w9 ⟨rfl,b9⟩;replace b9:=Jah b9
  have B9:=Lib.hid (B8.out.trans (b9.mono B8.out.size));clear b9;clear p0 p1 p2 p3 p4 p5 p6 p7 p8 p9 p10 p11 p12 q0 q1 q2 q3 q4 q5 q6 q7 q8 q9 q10 q11 q12;obtain⟨p0,p1,p2,p3,p4,p5,p6,p7,p8,p9,p10,p11,p12⟩:=Jal ((B9.out.block _ LA.out).trans RA.out);obtain⟨q0,q1,q2,q3,q4,q5,q6,q7,q8,q9,q10,q11,q12⟩:=Jal ((B9.out.block _ LB.out).trans RB.out);go_wp2_with fail
  refine (C3.out w9 B9.out).mono ?_;rintro e w10 ⟨rfl,b10⟩;have B10:=Lib.hid (B9.out.trans (b10.mono B9.out.size));clear b10;clear p0 p1 p2 p3 p4 p5 p6 p7 p8 p9 p10 p11 p12 q0 q1 q2 q3 q4 q5 q6 q7 q8 q9 q10 q11 q12;obtain⟨p0,p1,p2,p3,p4,p5,p6,p7,p8,p9,p10,p11,p12⟩:=Jal ((B10.out.block _ LA.out).trans RA.out);obtain⟨q0,q1,q2,q3,q4,q5,q6,q7,q8,q9,q10,q11,q12⟩:=Jal ((B10.out.block _ LB.out).trans RB.out);go_wp2_with fail
  go_ret;exact⟨Jaa R.out.symm,B7.out.trans (B10.out.mono B7.out.size)⟩
 have e3:(T.cp==U.cp)=true:=by simpa using g3
 have R:Hid (V=true):=Lib.hid (by rw [←HV.out];exact eqT_y X1.out X2.out X3.out ⟨g1,g2,g3⟩);clear g1 g2 g3;go_enter func12,ntmps12
 go_wp2_with fail
 refine (C1.out w7 (Below.refl _ _)).mono ?_;rintro e w8 ⟨rfl,b8⟩;have B8:=Lib.hid (b8);clear b8;clear p0 p1 p2 p3 p4 p5 p6 p7 p8 p9 p10 p11 p12 q0 q1 q2 q3 q4 q5 q6 q7 q8 q9 q10 q11 q12;obtain⟨p0,p1,p2,p3,p4,p5,p6,p7,p8,p9,p10,p11,p12⟩:=Jal ((B8.out.block _ LA.out).trans RA.out);obtain⟨q0,q1,q2,q3,q4,q5,q6,q7,q8,q9,q10,q11,q12⟩:=Jal ((B8.out.block _ LB.out).trans RB.out);go_wp2_with fail
 refine (C2.out w8 B8.out).mono ?_;rintro e w9 ⟨rfl,b9⟩;replace b9:=Jah b9
 have B9:=Lib.hid (B8.out.trans (b9.mono B8.out.size));clear b9;clear p0 p1 p2 p3 p4 p5 p6 p7 p8 p9 p10 p11 p12 q0 q1 q2 q3 q4 q5 q6 q7 q8 q9 q10 q11 q12;obtain⟨p0,p1,p2,p3,p4,p5,p6,p7,p8,p9,p10,p11,p12⟩:=Jal ((B9.out.block _ LA.out).trans RA.out);obtain⟨q0,q1,q2,q3,q4,q5,q6,q7,q8,q9,q10,q11,q12⟩:=Jal ((B9.out.block _ LB.out).trans RB.out);go_wp2_with fail
 refine (C3.out w9 B9.out).mono ?_;rintro e w10 ⟨rfl,b10⟩;have B10:=Lib.hid (B9.out.trans (b10.mono B9.out.size));clear b10;clear p0 p1 p2 p3 p4 p5 p6 p7 p8 p9 p10 p11 p12 q0 q1 q2 q3 q4 q5 q6 q7 q8 q9 q10 q11 q12;obtain⟨p0,p1,p2,p3,p4,p5,p6,p7,p8,p9,p10,p11,p12⟩:=Jal ((B10.out.block _ LA.out).trans RA.out);obtain⟨q0,q1,q2,q3,q4,q5,q6,q7,q8,q9,q10,q11,q12⟩:=Jal ((B10.out.block _ LB.out).trans RB.out);go_wp2_with fail
 go_ret;exact⟨Jaa R.out.symm,B7.out.trans (B10.out.mono B7.out.size)⟩
theorem Jyx (EX:ExH) (s:Bs) (n:Int) (r:Bs) (w:World) (hg:Jcq w) (ht:ByteArray) (hq:ByteArray) (e1:str s=ht) (e2:str r=hq)
  (h:8192<s.length∨(s.length≤8192∧1024<r.length)∨(s.length≤8192∧r.length≤1024∧s=[])∨(s.length≤8192∧r.length≤1024∧s≠[]∧s[s.length - 1]?≠some 10)∨(s.length≤8192∧r.length≤1024∧s≠[]∧s[s.length - 1]?=some 10∧n<0)∨(s.length≤8192∧r.length≤1024∧s≠[]∧s[s.length - 1]?=some 10∧0≤n∧r≠[]∧r[0]?≠some 35)) :
  Calls prog 7 #[.string ht,.int .i64 n,.string hq] w fun e w'=>e=.returned (.bool true)∧Below w.heap.size w w':=by
 have C:=Lib.hid (EX w hg);have zt:ht.size=s.length:=by rw [←e1];exact Jaf s
 have zq:hq.size=r.length:=by rw [←e2];exact Jaf r
 have dt:ht.data.toList=s:=by rw [←e1]
 have dq:hq.data.toList=r:=by rw [←e2]
 have at10:∀b,s≠[]→s[s.length - 1]?=some b→∀W,(Instr.index 9 (.string ht) (.int .i64 ((ht.size:Int) - 1))).run prog W=.ok (.int .u8 b.toNat) W:=fun b h0 hb W=>Jbo ht (ht.size - 1) b (by rw [dt,zt];exact hb) _ (by have:=List.length_pos_iff.2 h0;omega) W
 rcases h with h | ⟨h1,h⟩ | ⟨h1,h2,h⟩ | ⟨h1,h2,h0,h⟩ | ⟨h1,h2,h0,h10,h⟩ | ⟨h1,h2,h0,h10,hn,hr,h⟩
 ·have g1:(8192:Int)<(ht.size:Int):=by omega
  clear at10 dt dq zt zq e1 e2 h;go_enter func7,ntmps7
  go_wp2_with fail
  refine C.out.mono ?_;rintro e w1 ⟨rfl,b1⟩;have B:=Lib.hid b1;clear b1 C;go_wp2_with fail
  go_ret;exact⟨rfl,B.out⟩
 ·have g1:decide ((8192:Int)<(ht.size:Int))=false:=by rw [decide_eq_false_iff_not];omega
  have g2:(1024:Int)<(hq.size:Int):=by omega
  clear at10 dt dq zt zq e1 e2 h h1;go_enter func7,ntmps7
  go_wp2_with fail
  refine C.out.mono ?_;rintro e w1 ⟨rfl,b1⟩;have B:=Lib.hid b1;clear b1 C;go_wp2_with fail
  go_ret;exact⟨rfl,B.out⟩
 ·have g1:decide ((8192:Int)<(ht.size:Int))=false:=by rw [decide_eq_false_iff_not];omega
  have g2:decide ((1024:Int)<(hq.size:Int))=false:=by rw [decide_eq_false_iff_not];omega
  have g3:ht.toList.isEmpty=true:=by rw [Jbd,decide_eq_true_iff,zt,h];rfl
  clear at10 dt dq zt zq e1 e2 h h1 h2;go_enter func7,ntmps7
  go_wp2_with fail
  refine C.out.mono ?_;rintro e w1 ⟨rfl,b1⟩;have B:=Lib.hid b1;clear b1 C;go_wp2_with fail
  go_ret;exact⟨rfl,B.out⟩
 ·have g1:decide ((8192:Int)<(ht.size:Int))=false:=by rw [decide_eq_false_iff_not];omega
  have g2:decide ((1024:Int)<(hq.size:Int))=false:=by rw [decide_eq_false_iff_not];omega
  have g3:ht.toList.isEmpty=false:=by rw [Jbd,decide_eq_false_iff_not,zt];exact fun q=>h0 (List.length_eq_zero_iff.1 q)
  obtain⟨b,hb⟩:=Jao (l:=s) (k:=s.length - 1) (by have:=List.length_pos_iff.2 h0;omega);have a1:=at10 b h0 hb;have g4:((b.toNat:Int) != 10)=true:=Jqx (n:=10) (fun q=>h (by rw [hb];exact congrArg some (UInt8.toNat_inj.1 q)));have hz0:0<ht.size:=by rw [zt];exact List.length_pos_iff.2 h0
  have hz9:ht.size≤8192:=by omega
  clear at10 dt dq zt zq e1 e2 h h0 h1 h2 hb;go_enter func7,ntmps7
  go_wp2_with fail
  refine C.out.mono ?_;rintro e w1 ⟨rfl,b1⟩;have B:=Lib.hid b1;clear b1 C;go_wp2_with fail
  go_ret;exact⟨rfl,B.out⟩
 ·have g1:decide ((8192:Int)<(ht.size:Int))=false:=by rw [decide_eq_false_iff_not];omega
  have g2:decide ((1024:Int)<(hq.size:Int))=false:=by rw [decide_eq_false_iff_not];omega
  have g3:ht.toList.isEmpty=false:=by rw [Jbd,decide_eq_false_iff_not,zt];exact fun q=>h0 (List.length_eq_zero_iff.1 q)
  have a1:=at10 10 h0 h10;have g4:(((10:UInt8).toNat:Int) != 10)=false:=rfl;have hz0:0<ht.size:=by rw [zt];exact List.length_pos_iff.2 h0
  have hz9:ht.size≤8192:=by omega
  clear at10 dt dq zt zq e1 e2 h0 h1 h2 h10;go_enter func7,ntmps7
  go_wp2_with fail
  refine C.out.mono ?_;rintro e w1 ⟨rfl,b1⟩;have B:=Lib.hid b1;clear b1 C;go_wp2_with fail
  go_ret;exact⟨rfl,B.out⟩
 ·have g1:decide ((8192:Int)<(ht.size:Int))=false:=by rw [decide_eq_false_iff_not];omega
  have g2:decide ((1024:Int)<(hq.size:Int))=false:=by rw [decide_eq_false_iff_not];omega
  have g3:ht.toList.isEmpty=false:=by rw [Jbd,decide_eq_false_iff_not,zt];exact fun q=>h0 (List.length_eq_zero_iff.1 q)
  have a1:=at10 10 h0 h10;have g4:(((10:UInt8).toNat:Int) != 10)=false:=rfl;have hz0:0<ht.size:=by rw [zt];exact List.length_pos_iff.2 h0
  have hz9:ht.size≤8192:=by omega
  have g5:decide (n<0)=false:=by rw [decide_eq_false_iff_not];omega
  have g6:hq.toList.isEmpty=false:=by rw [Jbd,decide_eq_false_iff_not,zq];exact fun q=>hr (List.length_eq_zero_iff.1 q)
  obtain⟨b,hb⟩:=Jao (l:=r) (k:=0) (List.length_pos_iff.2 hr);have a2:=fun W=>Jbo hq 0 b (by rw [dq];exact hb) 0 rfl W
  have g7:((b.toNat:Int) != 35)=true:=Jqx (n:=35) (fun q=>h (by rw [hb];exact congrArg some (UInt8.toNat_inj.1 q)));have hy0:0<hq.size:=by rw [zq];exact List.length_pos_iff.2 hr
  clear at10 dt dq zt zq e1 e2 h0 h1 h2 h10 hn hr h hb;go_enter func7,ntmps7
  go_wp2_with fail
  refine C.out.mono ?_;rintro e w1 ⟨rfl,b1⟩;have B:=Lib.hid b1;clear b1 C;go_wp2_with fail
  go_ret;exact⟨rfl,B.out⟩
def PaF (F_:Fm) (s:Bs) (w:World) (e:Ending) (w':World):Prop:=∃a c U,e=.returned (.tuple #[ttV a c U,.int .i64 (Jbe F_ s).2.1,.int .i64 (Jbe F_ s).2.2])∧CopT (Jbe F_ s).1 U∧TtL w' a c U∧(∀(X:World) (y:Nat),y<w.heap.size→w'.grownBy X (some y)→TtL X a c U)∧manT U=true∧OkTt U∧LnTt U∧Below w.heap.size w w'
theorem PaF.err {F_:Fm} {s:Bs} {w w':World} {n z:Int} (h:Jbe F_ s=(T0,n,z)) (b:Below w.heap.size w w'):PaF F_ s w (.returned (.tuple #[.agg zT,.int .i64 n,.int .i64 z])) w':=by
 have t0:∀X:World,TtL X (fun _=>none) (fun _=>0) T0:=fun X=>⟨LstG.nil _ _,LstG.nil _ _,LstG.nil _ _,LstG.nil _ _,⟨LstG.nil _ _,fun x h=>by cases h⟩,LstG.nil _ _,LstG.nil _ _,LstG.nil _ _,LstG.nil _ _,LstG.nil _ _⟩
 refine⟨fun _=>none,fun _=>0,T0,by rw [h];rfl,by rw [h];exact⟨rfl,rfl,rfl,rfl,rfl,rfl,rfl,rfl,rfl,rfl,rfl,rfl,rfl⟩,t0 w',fun X _ _ _=>t0 X,by decide,Jkm.1,?_,b⟩;unfold LnTt T0;decide
theorem Gst.rows2 {w0 W V X:World} {F b y:Nat} {T:TypeId} {vs:List Value} {ts:List Tng} (G:Gst w0 F T vs ts W) (g:W.grownBy V (some b)) (hb:b<w0.heap.size) (g2:V.grownBy X (some y)) (hy:y<w0.heap.size):∀(i:Nat) (r:Rw),ts[i]?=some (tRow w0.heap.size r)→r.At w0.heap.size X:=fun i r h=>by
 have hr:=Gst.rows G g hb i r h;refine World.ownsRow.kept hr g2 ?_;cases hv:r.v.ownBlock with
 | none=>exact .inl rfl
 | some k =>
  refine .inr fun e=>?_
  have:=(World.ownsRow.lt hr k hv).1;cases e
  omega
theorem Jyy (F_:Fm) (hB:FmB F_) {w:World} (FO:∀w',Below w.heap.size w w'→Fo F_ w') (hk:Jkl w) (s:Bs) (hs:s.length≤1099511627776) :
  Calls prog 10 #[.string (str s)] w fun e w'=>PaF F_ s w e w':=by
 suffices h:∀Z:Ending→World→Prop,(∀e w',PaF F_ s w e w'→Z e w')→Calls prog 10 #[.string (str s)] w fun e w'=>Z e w' from h _ (fun _ _ h=>h)
 intro Z hZ;have HZ:=Lib.hid hZ;clear hZ;obtain⟨wa,hwa⟩:∃X,w.alloc (.cells zT 36 (0,0))=X:=⟨_,rfl⟩;have ba:Below w.heap.size w wa:=by rw [←hwa];exact (Below.refl _ _).alloc (Nat.le_refl _) _
 have ha:wa.heap[w.heap.size]?=some (.cells zT 36 (0,0)):=by rw [←hwa];exact heap_alloc_new _ _
 have hla:wa.heap.size=w.heap.size+1:=by rw [←hwa];simp
 obtain⟨ls,z,hz⟩:∃ls z,linR s=(ls,z):=⟨_,_,rfl⟩;have C0:=S4.flines_any (str s) (by rw [Jaf];exact hs) wa;rw [show S4.linesR (str s).data.toList=(ls,z) from hz] at C0;have C0:=Lib.hid C0;have hzT:(prog.info? 36).map (·.size)=some zT.size:=Jgh;by_cases h0:z=0
 ·subst h0
  have hfe:Jbe F_ s=if (goR F_ ls 1 R0).2.1≠0 then (T0,(goR F_ ls 1 R0).1,(goR F_ ls 1 R0).2.1) else if (ttC (goR F_ ls 1 R0).2.2.T).2.2≠0 then (T0,whr (goR F_ ls 1 R0).2.2 (ttC (goR F_ ls 1 R0).2.2.T).1 (ttC (goR F_ ls 1 R0).2.2.T).2.1,(ttC (goR F_ ls 1 R0).2.2.T).2.2) else ((goR F_ ls 1 R0).2.2.T,0,0):=by
   unfold Jbe;rw [hz,if_neg (fun q=>q rfl)]
  have hl5:=J4a (s:=s) (by rw [hz]);rw [hz] at hl5;have hl5:(Jag ls).length≤65536:=hl5;have hll:ls.length≤65536:=Nat.le_trans (Jqr ls) hl5;have hxl:∀x∈ls,x.length≤65536:=fun x hx=>Nat.le_trans (Jgn hx) hl5
  clear hz;generalize str s=ss at C0 ⊢;go_enter func10,ntmps10
  go_wp2_with fail
  refine C0.out.mono ?_;rintro q w1 ⟨v,rfl,ho,hb⟩;dsimp only at ho ⊢;obtain⟨A0,c0,rfl,-,-,hcl⟩:=Jbf ho;have HC:=Lib.hid hcl;have r1:w1.heap[w.heap.size]?=some (.cells zT 36 (0,0)):=(hb.block _ (by omega)).trans ha;have hl1:w.heap.size<w1.heap.size:=by have:=hb.size;omega
  have B1:Below w.heap.size w w1:=ba.trans (hb.mono (by omega));have FO1:=FO w1 B1;have HR:=Lib.hid (And.intro r1 (And.intro hl1 (And.intro B1 FO1)));have NW:=Lib.hid (Jxx w1);clear C0 ho hb B1 ba ha hla hwa hcl r1 hl1 FO1 FO;go_wp2_with fail
  refine NW.out.mono ?_;rintro q w2 ⟨rfl,hp⟩;obtain⟨F,hF⟩:∃F,w1.heap.size+5=F:=⟨_,rfl⟩;rw [hF] at hp ⊢;have I0:Hid (LpI F_ w1 F ls 0 w2):=Lib.hid ⟨R0,0,Nat.le_refl _,hp,rfl,Jkm,Inv.start ls⟩;clear hp NW;have HFE:=Lib.hid hfe;have HK:=Lib.hid hk;have HX:=Lib.hid hxl;have HZT:=Lib.hid hzT;have HF:=Lib.hid hF;clear hfe hk hxl hzT hF;go_wp2_with fail
  go_loopw [26] (fun i wr=>∃k:Nat,i=.int .i64 k∧k≤ls.length∧Hid (LpI F_ w1 F ls k wr)) (fun i _=>ls.length - (intOf i).toNat)
  case atStart=>exact⟨0,rfl,Nat.zero_le _,I0⟩
  case round =>
   obtain⟨k,rfl,hk,LI⟩:=hrel;by_cases hlt:k<ls.length
   ·obtain⟨x,hx⟩:=Jhb hlt
    obtain⟨g,rfl,-,hg1,hcell⟩:=HC.out (by omega);have m1:wr.cell? ⟨g,k,none⟩=some (.string (str x)):=by
     obtain⟨r,N,hN,P,hg,ok,iv⟩:=LI.out;have:=hcell k _ (Jod hx);rw [Nat.zero_add] at this;rw [←this];unfold World.cell?;rw [P.low.block g hg1]
    have gk:(k:Int)<(ls.length:Int):=by omega
    have CI:=Jxy x;have hk':=hlt;clear hcell;cases hi:ign x with
    | true =>
     rw [hi] at CI;have CI:=Lib.hid CI;have K2:Hid (LpI F_ w1 F ls (k+1) wr):=Lib.hid (by
      obtain⟨r,N,hN,P,hg,ok,iv⟩:=LI.out;have e:oneR F_ r x ((k:Int)+1)=(0,r):=by unfold oneR;rw [hi];rfl
      exact LpI.next hB hN (by omega) P hg ok iv hx (by rw [e]) (N':=N) (by omega) (by rw [e];exact P))
     clear hx hi LI I0;generalize str x=sx at m1 CI;go_wp2_with fail
     refine (CI.out _).mono ?_;rintro e w' ⟨rfl,rfl⟩;go_wp2_with fail
     go_roundw
     case rel=>exact⟨k+1,by go_num,by omega,K2⟩
     case measure=>simp [intOf];omega
    | false =>
     rw [hi] at CI;have CI:=Lib.hid CI;obtain⟨r,N,hN,P,hg,ok,iv⟩:=LI.out;have CR:=Jxv F_ HR.out.2.2.2 P (by omega) x (HX.out x (List.mem_of_getElem? hx)) hi ((k:Int)+1) (by omega);by_cases h1:(oneR F_ r x ((k:Int)+1)).1=0
     ·rw [h1] at CR
      have NX:=Lib.hid (fun w3 (P':Pa w1 F (oneR F_ r x ((k:Int)+1)).2 (N+1) w3)=>LpI.next hB hN (by omega) P hg ok iv hx h1 (by omega) P');have CR:=Lib.hid CR;clear hx hi LI I0 P hg ok iv h1;generalize str x=sx at m1 CI CR;go_wp2_with fail
      refine (CI.out _).mono ?_;rintro e w' ⟨rfl,rfl⟩;go_wp2_with fail
      refine CR.out.mono ?_;rintro e w3 ⟨rfl,-,hp3⟩;have K2:=Lib.hid (NX.out w3 (hp3 trivial));clear hp3 CR NX CI m1;go_wp2_with fail
      go_roundw
      case rel=>exact⟨k+1,by go_num,by omega,K2⟩
      case measure=>simp [intOf];omega
     ·have hfe:Jbe F_ s=(T0,(k:Int)+1,(oneR F_ r x ((k:Int)+1)).1):=by
       have e1:ls.drop k=x::ls.drop (k+1):=by
        obtain⟨hl,e⟩:=List.getElem?_eq_some_iff.1 hx;rw [List.drop_eq_getElem_cons hl,e]
       have e2:goR F_ ls 1 R0=((k:Int)+1,(oneR F_ r x ((k:Int)+1)).1,(oneR F_ r x ((k:Int)+1)).2):=by rw [hg,e1,Jfe,if_pos h1]
       rw [HFE.out,e2,if_pos h1]
      obtain⟨zz,hzz⟩:∃zz,(oneR F_ r x ((k:Int)+1)).1=zz:=⟨_,rfl⟩;rw [hzz] at CR hfe h1;have CR:=Lib.hid CR;have HP:=Lib.hid (fun w' (b:Below w.heap.size w w')=>PaF.err (w:=w) (w':=w') hfe b);have hzT:=HZT.out;clear hx hi LI I0 P hg ok iv hzz hfe;generalize str x=sx at m1 CI CR;go_wp2_with fail
      refine (CI.out _).mono ?_;rintro e w' ⟨rfl,rfl⟩;go_wp2_with fail
      refine CR.out.mono ?_;rintro e w3 ⟨rfl,hb3,-⟩;have r0:w3.heap[w.heap.size]?=some (.cells zT 36 (0,0)):=(hb3.block _ HR.out.2.1).trans HR.out.1;have R1:=Lib.hid (HZ.out _ _ (HP.out w3 (HR.out.2.2.1.trans (hb3.mono (by have:=HR.out.2.1;omega)))));clear hb3 CR CI m1;obtain⟨y0,z0,x0,y1,z1,x1,y2,z2,x2,y3,z3,x3,y4,z4,x4,y5,z5,x5,y6,z6,x6,y7,z7,x7,y8,z8,x8,y9,z9,x9,y10,z10,x10,y11,z11,x11,y12,z12,x12⟩:=Jgp r0;go_wp2_with fail
      (try simp only [Exit.inBlock,Exit.then]);refine bodyPost_ret (Jbk rfl _ _ w.heap.size 36 zT (0,0) _ rfl r0 underlying36 rfl hzT) rfl ?_
      exact R1.out
   ·obtain rfl:k=ls.length:=by omega
    have gk:decide ((ls.length:Int)<(ls.length:Int))=false:=by simp
    obtain⟨r,N,hN,P,hg,ok,iv⟩:=LI.out;have hgo:goR F_ ls 1 R0=(0,0,r):=by rw [hg,List.drop_length];rfl
    have hfr:=J7u F_ ls 1 R0 (by rw [hgo]);rw [hgo] at hfr;have hfr:r.T.fr.length*14≤0*14+(Jag ls).length:=hfr;have P':=P;obtain⟨vs,ts,U,lw,B,m,V,lx,G,e1,PT,L,hcl⟩:=P';have okU:=ok.cop PT.cop;obtain⟨a,c,hX,hrg⟩:=PT.ttL G (by omega) okU;have man:manT U=true:=by
     refine Jca.2 ⟨?_,fun x hx=>?_⟩
     ·have f0:=PT.few 0 (by omega)
      have f1:=PT.few 1 (by omega);have f2:=PT.few 2 (by omega);have f3:=PT.few 3 (by omega);have f4:=PT.few 4 (by omega);have f5:U.fr.length*14≤65536:=by rw [PT.cop.fr];omega
      have f6:=PT.few 6 (by omega);have f7:=PT.few 7 (by omega);have f8:=PT.few 8 (by omega);have f9:=PT.few 9 (by omega);simp only [lenP] at f0 f1 f2 f3 f4 f6 f7 f8 f9;unfold manN;omega
     ·have:=PT.fewc x hx
      unfold clT;omega
    have ln:LnTt U:=by
     have h:=(Jca.1 man).1;unfold manN at h;unfold LnTt;omega
    have CC:=ckM a c U wr man okU.1 ln (hX wr (fun i r h=>G.row h));rw [PT.cop.ttC] at CC;have r0:wr.heap[w.heap.size]?=some (.cells zT 36 (0,0)):=(G.base.block _ HR.out.2.1).trans HR.out.1;obtain⟨q0,q1,q2,q3,q4,q5,q6,q7,q8,q9,q10,q11,q12⟩:=Jqs hrg;by_cases hc:(ttC r.T).2.2=0
    ·have hf2:Jbe F_ s=(r.T,0,0):=by rw [HFE.out,hgo,if_neg (fun q=>q rfl),if_neg (fun q=>q hc)]
     rw [hc] at CC;have CC:=Lib.hid CC;generalize (ttC r.T).1=t1 at CC;generalize (ttC r.T).2.1=t2 at CC;have HG:=Lib.hid (And.intro hrg (And.intro r0 G));clear hrg hg hgo hfr LI I0 P e1 L hcl r0 G;go_wp2_with fail
     refine CC.out.mono ?_;rintro e w4 ⟨rfl,hb4⟩;clear q0 q1 q2 q3 q4 q5 q6 q7 q8 q9 q10 q11 q12;have G4:=HG.out.2.2.on hb4;have r4:w4.heap[w.heap.size]?=some (.cells zT 36 (0,0)):=(hb4.block _ (Nat.lt_of_lt_of_le HR.out.2.1 HG.out.2.2.base.size)).trans HG.out.2.1;obtain⟨q0,q1,q2,q3,q4,q5,q6,q7,q8,q9,q10,q11,q12⟩:=Jqs (w:=w4) (F:=F) (a:=a) (c:=c) (U:=U) (fun j v hj=>by
      rw [←HG.out.1 j v hj];unfold World.cell?;rw [hb4.block F HG.out.2.2.lt])
     obtain⟨y0,z0,x0,y1,z1,x1,y2,z2,x2,y3,z3,x3,y4,z4,x4,y5,z5,x5,y6,z6,x6,y7,z7,x7,y8,z8,x8,y9,z9,x9,y10,z10,x10,y11,z11,x11,y12,z12,x12⟩:=Jgp r4;clear x0 x1 x2 x3 x4 x5 x6 x7 x8 x9 x10 x11 x12;go_wp2_with fail
     have g5:=Jdj w.heap.size [.slice (a 0) U.st.length (c 0),.slice (a 1) U.ro.length (c 1),.slice (a 2) U.ca.length (c 2),.slice (a 3) U.ex.length (c 3),.slice (a 4) U.tr.length (c 4),.slice (a 5) U.fr.length (c 5),.slice (a 6) U.th.length (c 6),.slice (a 7) U.gu.length (c 7),.slice (a 8) U.pa.length (c 8),.slice (a 9) U.pr.length (c 9),.int .i64 U.di,.int .i64 U.wi,.int .i64 U.cp] 0 w4;have s5:=Qbu r4 (.slice (a 0) U.st.length (c 0)) (.slice (a 1) U.ro.length (c 1)) (.slice (a 2) U.ca.length (c 2)) (.slice (a 3) U.ex.length (c 3)) (.slice (a 4) U.tr.length (c 4)) (.slice (a 5) U.fr.length (c 5)) (.slice (a 6) U.th.length (c 6)) (.slice (a 7) U.gu.length (c 7)) (.slice (a 8) U.pa.length (c 8)) (.slice (a 9) U.pr.length (c 9)) (.int .i64 U.di) (.int .i64 U.wi) (.int .i64 U.cp);simp only [World.setCells,Nat.zero_add,Nat.reduceAdd] at g5 s5;have T5:=hX _ (Gst.rows G4 g5 HR.out.2.1);have B5:=Jby (HR.out.2.2.1.trans (G4.base.mono (by have:=HR.out.2.1;omega))) g5 (fun k e=>by cases e;exact Nat.le_refl _)
     (try simp only [Exit.inBlock,Exit.then]);refine bodyPost_ret (Jbk rfl _ _ w.heap.size 36 (csT a c U) (0,0) _ rfl s5 underlying36 rfl Jgh) rfl ?_
     exact HZ.out _ _ ⟨a,c,U,by rw [hf2];rfl,by rw [hf2];exact PT.cop,T5,fun X y hy g=>hX X (Gst.rows2 G4 g5 HR.out.2.1 g (by have:=HR.out.2.1;omega)),man,okU.1,ln,B5⟩
    ·obtain⟨p,hp,ep,hw⟩:=Jqt iv hc
     have hf2:Jbe F_ s=(T0,whr r (ttC r.T).1 (ttC r.T).2.1,(ttC r.T).2.2):=by rw [HFE.out,hgo,if_neg (fun q=>q rfl),if_pos hc]
     obtain⟨y,hy⟩:∃y,whr r (ttC r.T).1 (ttC r.T).2.1=y:=⟨_,rfl⟩;rw [hy] at hw hf2;rw [ep] at CC;clear hy;generalize (ttC r.T).2.1=t2 at CC hw hf2;generalize (ttC r.T).2.2=t3 at CC hc hf2;have CC:=Lib.hid CC;have LO:=Lib.hid (fun w4 (hb4:Below wr.heap.size wr w4)=>Jxz (P.on hb4) (HK.out.below (HR.out.2.2.1.trans ((P.on hb4).low.mono (by have:=HR.out.2.1;omega)))) p hp t2 y hw);have HP:=Lib.hid (fun w' (b:Below w.heap.size w w')=>PaF.err (w:=w) (w':=w') hf2 b);have HG:=Lib.hid (And.intro r0 G.base);clear hrg hg hgo hfr LI I0 P e1 L hcl r0 G hw hf2 man ln okU hX PT ok iv;go_wp2_with fail
     refine CC.out.mono ?_;rintro e w4 ⟨rfl,hb4⟩;clear q0 q1 q2 q3 q4 q5 q6 q7 q8 q9 q10 q11 q12;have LO:=Lib.hid (LO.out w4 hb4);have hl:=HG.out.2.size;have r4:w4.heap[w.heap.size]?=some (.cells zT 36 (0,0)):=(hb4.block _ (Nat.lt_of_lt_of_le HR.out.2.1 hl)).trans HG.out.1;have B4:Below w.heap.size w w4:=HR.out.2.2.1.trans ((HG.out.2.trans (hb4.mono hl)).mono (by have:=HR.out.2.1;omega));have H4:=Lib.hid (And.intro r4 (And.intro B4 (Nat.lt_of_lt_of_le HR.out.2.1 (Nat.le_trans hl hb4.size))));clear r4 B4 hl hb4;go_wp2_with fail
     refine LO.out.mono ?_;rintro e w5 ⟨rfl,hb5⟩;have r5:w5.heap[w.heap.size]?=some (.cells zT 36 (0,0)):=(hb5.block _ H4.out.2.2).trans H4.out.1;have R1:=Lib.hid (HZ.out _ _ (HP.out w5 (H4.out.2.1.trans (hb5.mono (Nat.le_of_lt H4.out.2.2)))));obtain⟨y0,z0,x0,y1,z1,x1,y2,z2,x2,y3,z3,x3,y4,z4,x4,y5,z5,x5,y6,z6,x6,y7,z7,x7,y8,z8,x8,y9,z9,x9,y10,z10,x10,y11,z11,x11,y12,z12,x12⟩:=Jgp r5;clear LO hb5;go_wp2_with fail
     (try simp only [Exit.inBlock,Exit.then]);refine bodyPost_ret (Jbk rfl _ _ w.heap.size 36 zT (0,0) _ rfl r5 underlying36 rfl Jgh) rfl ?_
     exact R1.out
 ·have hfe:Jbe F_ s=(T0,0,z):=by unfold Jbe;rw [hz,if_pos h0]
  generalize str s=ss at C0 ⊢;go_enter func10,ntmps10
  go_wp2_with fail
  refine C0.out.mono ?_;rintro q w1 ⟨v,rfl,ho,hb⟩;dsimp only at ho ⊢;obtain⟨A0,c0,rfl,-⟩:=Jbf ho;have r0:w1.heap[w.heap.size]?=some (.cells zT 36 (0,0)):=(hb.block _ (by omega)).trans ha;have B1:Below w.heap.size w w1:=ba.trans (hb.mono (by omega));have R1:=Lib.hid (HZ.out _ _ (PaF.err hfe B1));clear C0 ho hb B1 ba ha hla hwa;obtain⟨y0,z0,x0,y1,z1,x1,y2,z2,x2,y3,z3,x3,y4,z4,x4,y5,z5,x5,y6,z6,x6,y7,z7,x7,y8,z8,x8,y9,z9,x9,y10,z10,x10,y11,z11,x11,y12,z12,x12⟩:=Jgp r0;go_wp2_with fail
  (try simp only [Exit.inBlock,Exit.then]);refine bodyPost_ret (Jbk rfl _ _ w.heap.size 36 zT (0,0) _ rfl r0 underlying36 rfl hzT) rfl ?_
  exact R1.out
theorem Qch {n k:Int} (h:n<k):sh n k=k+1:=by unfold sh;rw [if_pos h]
theorem sh_no {n k:Int} (h:¬n<k):sh n k=k:=by unfold sh;rw [if_neg h]
theorem Jyz (W:World) (o:Obj) (V:World) (g:(W.alloc o).grownBy V (some W.heap.size)):Below W.heap.size W V :=
 Jby ((Below.refl _ _).alloc (Nat.le_refl _) o) g (fun k e=>by cases e;exact Nat.le_refl _)
abbrev Js7:Obj:=.cells #[.slice none 0 0,.slice none 0 0,.slice none 0 0,.slice none 0 0,.slice none 0 0,.slice none 0 0,.slice none 0 0,.slice none 0 0,.slice none 0 0,.slice none 0 0,.int .i64 0,.int .i64 0,.int .i64 0] 36 (0,0)
abbrev J4s (a:Nat→Option Addr) (c:Nat→Nat) (T:Tt):Array Value:=#[.slice (a 0) T.st.length (c 0),.slice (a 1) T.ro.length (c 1),.slice (a 2) T.ca.length (c 2),.slice (a 3) T.ex.length (c 3),.slice (a 4) T.tr.length (c 4),.slice (a 5) T.fr.length (c 5),.slice (a 6) T.th.length (c 6),.slice (a 7) T.gu.length (c 7),.slice (a 8) T.pa.length (c 8),.slice (a 9) T.pr.length (c 9),.int .i64 T.di,.int .i64 T.wi,.int .i64 T.cp]
theorem Jou {w:World} (hg:Jcq w) (s:Bs) (hs:s.length≤1099511627776):Calls prog 10 #[.string (str s)] w fun e w'=>PaF fmR s w e w' :=
 Jyy fmR Jyn (fun _ b=>J4b (hg.below b)) hg.2.2.2 s hs
theorem J23 (EX:ExH) (s:Bs) (n:Nat) (r:Bs) (w:World) (hg:Jcq w) (ht:ByteArray) (hq:ByteArray) (e1:str s=ht) (e2:str r=hq) (hn:(n:Int)≤9223372036854775807)
  (h1:s.length≤8192) (h2:r.length≤1024) (h0:s≠[]) (h10:s[s.length - 1]?=some 10) (hr:r=[]∨r[0]?=some 35) :
  Calls prog 7 #[.string ht,.int .i64 (n:Int),.string hq] w fun e w'=>e=.returned (.bool true)∧Below w.heap.size w w':=by
 have C:=Lib.hid (EX w hg);have GG:Hid (∀X:World,Below w.heap.size w X→Jcq X):=Lib.hid (fun X b=>hg.below b);have CP:Hid (∀(X:World) (x:Bs),Jcq X→x.length≤65536→Calls prog 10 #[.string (str x)] X fun e w'=>PaR fmR x X e w'):=Lib.hid (fun X x g h=>Jgi g x (by omega));have BR:=Lib.hid (fun X=>Ji9 r 1 (by omega) X);have BT:=Lib.hid (fun X=>Ji9 s n (by omega) X);rw [e2] at BR;rw [e1] at BT;have zt:ht.size=s.length:=by rw [←e1];exact Jaf s
 have zq:hq.size=r.length:=by rw [←e2];exact Jaf r
 have dt:ht.data.toList=s:=by rw [←e1]
 have dq:hq.data.toList=r:=by rw [←e2]
 have hpos:=List.length_pos_iff.2 h0;have a1:=fun W=>Jbo ht (ht.size - 1) 10 (by rw [dt,zt];exact h10) ((ht.size:Int) - 1) (by omega) W
 have g1:decide ((8192:Int)<(ht.size:Int))=false:=by rw [decide_eq_false_iff_not];omega
 have g2:decide ((1024:Int)<(hq.size:Int))=false:=by rw [decide_eq_false_iff_not];omega
 have g3:ht.toList.isEmpty=false:=by rw [Jbd,decide_eq_false_iff_not,zt];exact fun q=>h0 (List.length_eq_zero_iff.1 q)
 have g4:(((10:UInt8).toNat:Int) != 10)=false:=rfl;have hz0:0<ht.size:=by omega
 have hz9:ht.size≤8192:=by omega
 have g5:decide ((n:Int)<0)=false:=by rw [decide_eq_false_iff_not];omega
 have hi:ign r=true:=by
  rcases hr with h | h
  ·subst h;rfl
  ·cases r with
   | nil=>rfl
   | cons b q=>simp at h;subst h;rfl
 have K:(hq.toList.isEmpty=true)∨(hq.toList.isEmpty=false∧0<hq.size∧∀W,(Instr.index 9 (.string hq) (.int .i64 0)).run prog W=.ok (.int .u8 (35:UInt8).toNat) W):=by
  by_cases q:r=[]
  ·exact .inl (by rw [Jbd,decide_eq_true_iff,zq,q];rfl)
  ·refine .inr ⟨by rw [Jbd,decide_eq_false_iff_not,zq];exact fun k=>q (List.length_eq_zero_iff.1 k),by rw [zq];exact List.length_pos_iff.2 q,fun W=>Jbo hq 0 35 (by rw [dq];exact hr.resolve_left q) 0 rfl W⟩
 have g7:(((35:UInt8).toNat:Int) != 35)=false:=rfl;by_cases hb:bgF 1 r 0 0<0
 ·have hf:=J8r (r:=r) hb
  have g8:decide ((0:Int)≤bgF 1 r 0 0)=false:=by rw [decide_eq_false_iff_not];omega
  by_cases ha:bgF n s 0 0<0
  ·have g9:bgF n s 0 0<0:=ha
   generalize bgF 1 r 0 0=x at BR g8;generalize bgF n s 0 0=y at BT g9;clear ha hf hb CP hi hpos dt dq zt zq e1 e2 h10 h0 h1 h2 hr GG;rcases K with k1 | ⟨k1,k2,k3⟩
   all_goals
    go_enter func7,ntmps7
    go_wp2_with fail
    with_reducible refine (BR.out _).mono ?_
    rintro e w1 ⟨rfl,rfl⟩;go_wp2_with fail
    with_reducible refine (BT.out _).mono ?_
    rintro e w1 ⟨rfl,rfl⟩;go_wp2_with fail
    refine C.out.mono ?_;rintro e w1 ⟨rfl,b1⟩;have B:=Lib.hid b1;clear b1 C;go_wp2_with fail
    go_ret;exact⟨rfl,B.out⟩
  ·obtain⟨p,hp,hpl,hP⟩:=J21 h0 h10 h1 h2 hi hf (Int.not_lt.1 ha)
   rw [hp] at BT;have hk:0≤(Jbe fmR s).2.1∧(Jbe fmR s).2.1≤8192:=by
    obtain⟨l1,l2,l3⟩:=Jwd h0 h10 (by omega);obtain⟨f1,f2⟩:=Jv8 (F:=fmR) (s:=s) (by rw [l1]);by_cases fe:(Jbe fmR s).2.2=0
    ·rw [f1 fe];omega
    ·obtain⟨k1,x,k2,-⟩:=f2 fe
     have k3:=(List.getElem?_eq_some_iff.1 k2).1;rw [l1] at k3;dsimp only at k3;have k4:=Jmu (cutL s).1;rw [l2] at k4;omega
   have CS:=Lib.hid (CP.out w s hg (by omega));have CT:Hid (∀X:World,Jcq X→Calls prog 10 #[.string (str (s.take p)++hq++⟨#[10]⟩++str (s.drop p))] X fun e w'=>PaF fmR (s.take p++r++[10]++s.drop p) X e w'):=Lib.hid (fun X g=>by
    have e:str (s.take p)++hq++⟨#[10]⟩++str (s.drop p)=str (s.take p++r++[10]++s.drop p):=by
     rw [←e2,show (⟨#[10]⟩:ByteArray)=str [10] from rfl,Jcz,Jcz,Jcz]
    rw [e];refine Jou g _ (Nat.le_trans ?_ (by decide:65536≤1099511627776));simp only [List.length_append,List.length_take,List.length_drop,List.length_cons,List.length_nil];omega)
   rw [e1] at CS;obtain⟨th,hth⟩:∃q,str (s.take p)=q:=⟨_,rfl⟩;obtain⟨tl,htl⟩:∃q,str (s.drop p)=q:=⟨_,rfl⟩;have sa:=fun W=>J8w ht th p (by rw [zt];exact hpl) (by rw [dt,←hth]) (p:Int) rfl W
   have sb:=fun W=>Jhh ht tl p (by rw [zt];exact hpl) (by rw [dt,←htl]) (p:Int) rfl W
   rw [hth,htl] at CT;have ps:p≤ht.size:=by omega
   have zth:th.size≤8192:=by rw [←hth,Jaf,List.length_take];omega
   have ztl:tl.size≤8192:=by rw [←htl,Jaf,List.length_drop];omega
   have zhq:hq.size≤1024:=by omega
   unfold PaR at CS;unfold PaF at CT;rw [hP] at CT;dsimp only at CT;generalize (Jbe fmR s).1=T at CS CT;generalize (Jbe fmR s).2.2=z at CS CT;generalize (Jbe fmR s).2.1=k at CS CT hk;obtain⟨k0,k9⟩:=hk;generalize bgF 1 r 0 0=x at BR g8;have g9:decide ((p:Int)<0)=false:=by rw [decide_eq_false_iff_not];omega
   clear ha hf hb CP hi hpos dt dq zt zq e1 e2 h10 h0 h1 h2 hr hP hp hpl hth htl C;have main:∀k1:(hq.toList.isEmpty=true)∨(hq.toList.isEmpty=false∧0<hq.size∧∀W,(Instr.index 9 (.string hq) (.int .i64 0)).run prog W=.ok (.int .u8 (35:UInt8).toNat) W),Calls prog 7 #[.string ht,.int .i64 (n:Int),.string hq] w fun e w'=>e=.returned (.bool true)∧Below w.heap.size w w':=by
    intro K;rcases K with k1 | ⟨k1,k2,k3⟩
    all_goals
     go_enter func7,ntmps7
     go_wp2_with fail
     with_reducible refine (BR.out _).mono ?_
     rintro e w1 ⟨rfl,hw1⟩;rw [hw1];clear hw1 w1;go_wp2_with fail
     with_reducible refine (BT.out _).mono ?_
     rintro e w1 ⟨rfl,hw1⟩;rw [hw1];clear hw1 w1;go_wp2_with fail
     refine CS.out.mono ?_;rintro e w1 ⟨a,c,U,rfl,cp,tl1,man,-,-,b1⟩;obtain⟨w2,hw2⟩:∃X,w1.alloc (Jbu a c U)=X:=⟨_,rfl⟩;obtain⟨d2,s2,k2⟩:=Jfs hw2;have z2:=b1.trans (d2.mono b1.size);have GB:Hid (∀X:World,Below w2.heap.size w2 X→Jcq X∧TtL X a c U∧X.heap[w1.heap.size]?=some (Jbu a c U)∧Below w.heap.size w X):=Lib.hid (fun X b=>by
      have b2:=z2.trans (b.mono z2.size);exact⟨GG.out X b2,(tl1.below d2).below b,(b.block _ s2).trans k2,b2⟩)
     have HF:=Lib.hid (Jca.1 man).1;have CU:=Lib.hid cp;clear d2 s2 k2 z2 b1 cp tl1 man CS;go_wp2_with fail
     obtain⟨wd,hd⟩:∃X,World.drew w2=X:=⟨_,rfl⟩;have zd:Below w2.heap.size w2 wd:=by rw [←hd];exact (Below.refl _ _).drew
     refine Ja6 (S:=fun X=>True) _ 19 rfl (by kernel_rfl) (by kernel_rfl) (by kernel_rfl) (Jba 19 0) (by kernel_rfl) trivial (fun _=>?_);rw [hd];refine Ja3 (L:=[(0,66,.string ht),(1,67,.int .i64 (p:Int)),(2,68,.string th),(3,69,.string hq),(4,70,.string (th++hq)),(5,71,.string (th++hq++⟨#[10]⟩)),(6,72,.string ht),(7,73,.int .i64 (p:Int)),(8,74,.string tl),(9,75,.string (th++hq++⟨#[10]⟩++tl))]) (.q (.q (.cons rfl rfl (.inl ⟨rfl,fun _ _=>by go_simp;first | done | with_reducible rfl | omega⟩) (.q (.cons rfl rfl (.inl ⟨rfl,fun _ _=>by go_simp;first | done | with_reducible rfl | omega⟩) (.cons rfl rfl (.inl ⟨rfl,fun _ _=>by go_simp;first | done | with_reducible rfl | omega⟩) (.q (.q (.cons rfl rfl (.inl ⟨rfl,fun _ _=>by go_simp;first | done | with_reducible rfl | omega⟩) (.cons rfl rfl (.inl ⟨rfl,fun _ _=>by go_simp;first | done | with_reducible rfl | omega⟩) .nil)))))))))) [0,1,2,3,4,5,6,7,8,9] rfl rfl (by kernel_rfl) (fun _ _ _ _ _ h=>h) trivial ?_;have al:Below w2.heap.size w2 (wd.alloc Js7):=zd.alloc zd.size _;refine altT (i:=10) (j:=15) (by kernel_rfl) rfl rfl (by kernel_rfl) (by kernel_rfl) ?_ ?_;intro K hK;refine Jw6 76 rfl (by kernel_rfl) ((CT.out wd (GB.out wd zd).1).mono fun e w' h=>(by obtain⟨a2,c2,U2,rfl,cp,tl2,-,-,-,-,b2⟩:=h;exact⟨_,rfl,a2,c2,U2,rfl,zd.trans (b2.mono zd.size),cp,tl2⟩:∃u,e=.returned u∧∃a2 c2 U2,u=.tuple #[ttV a2 c2 U2,.int .i64 (sh (n:Int) k),.int .i64 z]∧Below w2.heap.size w2 w'∧CopT T U2∧TtL w' a2 c2 U2)) (fun u W' hR=>hK.out _ _ trivial ?_);obtain⟨a2,c2,U2,rfl,zb0,cp2,tl0⟩:=hR;refine Ja3 (L:=[(11,65,.tuple #[ttV a2 c2 U2,.int .i64 (sh (n:Int) k),.int .i64 z]),(12,77,ttV a2 c2 U2),(13,78,.int .i64 (sh (n:Int) k)),(14,79,.int .i64 z)]) (.q (.q (.q (.q .nil)))) [11,12,13,14] rfl rfl (by kernel_rfl) (fun _ _ _ _ _ h=>h) trivial ?_;obtain⟨W,hW⟩:∃X,W'.alloc Js7=X:=⟨_,rfl⟩;refine Jdh (i:=15) (v:=pt W'.heap.size 0) (w':=W) 11 _ rfl (by kernel_rfl) rfl rfl (by kernel_rfl) (by rw [←hW];kernel_rfl) trivial rfl ?_;obtain⟨y,hyy⟩:∃y,W'.heap.size=y:=⟨_,rfl⟩;have hy:W.heap[y]?=some Js7:=by rw [←hW,←hyy];exact heap_alloc_new _ _
     have zb:Below w2.heap.size w2 W:=by rw [←hW];exact zb0.alloc zb0.size _
     have ly:w2.heap.size≤y:=by rw [←hyy];exact zb0.size
     have tl2:∀V,W.grownBy V (some y)→TtL V a2 c2 U2:=by
      rw [←hW,←hyy];exact fun V g=>tl0.below (Jyz W' Js7 V g)
     rw [hyy];clear hyy hW tl0 zb0 hK;rotate_left 1
     intro K hK;refine Jgr (v:=pt wd.heap.size 0) (w':=wd.alloc Js7) 11 rfl (by kernel_rfl) (hK.out _ _ trivial ?_);refine Jbr (i:=10) (R:=fun u W'=>∃a2 c2 U2,u=.tuple #[ttV a2 c2 U2,.int .i64 (sh (n:Int) k),.int .i64 z]∧W'.heap[wd.heap.size]?=some Js7∧Below w2.heap.size w2 W'∧CopT T U2∧∀V,W'.grownBy V (some wd.heap.size)→TtL V a2 c2 U2) 76 _ rfl (by kernel_rfl) rfl rfl (by kernel_rfl) (by kernel_rfl) ((CT.out _ (GB.out _ al).1).mono fun e w' h=>(by obtain⟨a2,c2,U2,rfl,cp,-,tl2,-,-,-,b2⟩:=h;exact⟨_,rfl,a2,c2,U2,rfl,(b2.block _ (by simp)).trans (heap_alloc_new _ _),al.trans (b2.mono al.size),cp,fun V g=>tl2 V _ (by simp) g⟩)) ?_;rintro u W ⟨a2,c2,U2,rfl,hy,zb,cp2,tl2⟩;refine⟨trivial,?_⟩;refine Ja3 (L:=[(11,65,.tuple #[ttV a2 c2 U2,.int .i64 (sh (n:Int) k),.int .i64 z]),(12,77,ttV a2 c2 U2),(13,78,.int .i64 (sh (n:Int) k)),(14,79,.int .i64 z)]) (.q (.q (.q (.q .nil)))) [11,12,13,14] rfl rfl (by kernel_rfl) (fun _ _ _ _ _ h=>h) trivial ?_;have ly:w2.heap.size≤wd.heap.size:=zd.size;clear hK;generalize wd.heap.size=y at hy tl2 ly ⊢;all_goals
      obtain⟨wz,hwz⟩:∃X,W.setRow y (J4s a2 c2 U2)=X:=⟨_,rfl⟩;have zz:Below w2.heap.size w2 wz:=by rw [←hwz];exact Jby zb (Jcp W y _) (fun k e=>by cases e;exact ly)
      have hy2:wz.heap[y]?=some (Jbu a2 c2 U2):=by rw [←hwz];exact setRow_heap W y _ _ _ (0,0) hy
      have tl3:TtL wz a2 c2 U2:=tl2 wz (by rw [←hwz];exact Jcp W y _);refine Jco (i:=16) (w':=wz) _ rfl (by kernel_rfl) rfl rfl (by kernel_rfl) (by rw [←hwz];exact Jan 36 (.tmp 11) (.tmp 77) (by kernel_rfl) y (J4s a2 c2 U2) (by kernel_rfl) (by kernel_rfl) _ _ hy (by kernel_rfl) (by kernel_rfl) (by kernel_rfl)) trivial ?_;refine Jdh (i:=17) (v:=.int .i64 (sh (n:Int) k)) (w':=wz) 12 _ rfl (by kernel_rfl) rfl rfl (by kernel_rfl) (by kernel_rfl) trivial rfl ?_;refine Jdh (i:=18) (v:=.int .i64 z) (w':=wz) 13 _ rfl (by kernel_rfl) rfl rfl (by kernel_rfl) (by kernel_rfl) trivial rfl ?_;refine Jb2 (by kernel_rfl) ?_;have GZ:=GB.out wz zz;have CE:=Lib.hid (J22 a a2 c c2 U U2 HF.out wz GZ.2.1 tl3);rw [J8q cp2 CU.out.eq] at CE;obtain⟨q0,q1,q2,q3,q4,q5,q6,q7,q8,q9,q10,q11,q12⟩:=Jfw (w:=wz) GZ.2.2.1;obtain⟨p0,p1,p2,p3,p4,p5,p6,p7,p8,p9,p10,p11,p12⟩:=Jfw (w:=wz) hy2;have ZZ:=Lib.hid zz;clear GZ zz hy2 tl3 hwz hy zb ly cp2 tl2 CU HF CT al zd hd hw2;by_cases hnk:(n:Int)<k
      ·have hs:=Qch hnk
       rw [hs];have e3:=Jaq (rfl:k+1=k+1);have e4:=Jaq (rfl:z=z);clear hs;go_wp2_with fail
       refine CE.out.mono ?_;rintro e w5 ⟨rfl,b5⟩;have Z5:=Lib.hid (ZZ.out.trans (b5.mono ZZ.out.size));have C6:=Lib.hid (EX w5 (GB.out w5 Z5.out).1);clear b5 CE ZZ q0 q1 q2 q3 q4 q5 q6 q7 q8 q9 q10 q11 q12 p0 p1 p2 p3 p4 p5 p6 p7 p8 p9 p10 p11 p12;go_wp2_with fail
       refine C6.out.mono ?_;rintro e w6 ⟨rfl,b6⟩;have B:=Lib.hid ((GB.out w5 Z5.out).2.2.2.trans (b6.mono (GB.out w5 Z5.out).2.2.2.size));clear b6 C6;go_wp2_with fail
       go_ret;exact⟨rfl,B.out⟩
      ·have hs:=sh_no hnk
       rw [hs];have e3:=Jaq (rfl:k=k);have e4:=Jaq (rfl:z=z);have gk:decide ((n:Int)<k)=false:=decide_eq_false hnk;clear hs hnk;go_wp2_with fail
       refine CE.out.mono ?_;rintro e w5 ⟨rfl,b5⟩;have Z5:=Lib.hid (ZZ.out.trans (b5.mono ZZ.out.size));have C6:=Lib.hid (EX w5 (GB.out w5 Z5.out).1);clear b5 CE ZZ q0 q1 q2 q3 q4 q5 q6 q7 q8 q9 q10 q11 q12 p0 p1 p2 p3 p4 p5 p6 p7 p8 p9 p10 p11 p12;go_wp2_with fail
       refine C6.out.mono ?_;rintro e w6 ⟨rfl,b6⟩;have B:=Lib.hid ((GB.out w5 Z5.out).2.2.2.trans (b6.mono (GB.out w5 Z5.out).2.2.2.size));clear b6 C6;go_wp2_with fail
       go_ret;exact⟨rfl,B.out⟩
   exact main K
 ·have g8:(0:Int)≤bgF 1 r 0 0:=Int.not_lt.1 hb
  generalize bgF 1 r 0 0=x at BR g8;clear hb CP hi hpos dt dq zt zq e1 e2 h10 h0 h1 h2 hr GG BT;rcases K with k1 | ⟨k1,k2,k3⟩
  all_goals
   go_enter func7,ntmps7
   go_wp2_with fail
   with_reducible refine (BR.out _).mono ?_
   rintro e w1 ⟨rfl,rfl⟩;go_wp2_with fail
   refine C.out.mono ?_;rintro e w1 ⟨rfl,b1⟩;have B:=Lib.hid b1;clear b1 C;go_wp2_with fail
   go_ret;exact⟨rfl,B.out⟩
theorem Jmv (x:ByteArray) (n:Int) (q:ByteArray) (h0:-9223372036854775808≤n) (h1:n≤9223372036854775807) (W:World) (hg:Jcq W):Calls prog 7 #[.string x,.int .i64 n,.string q] W fun e W'=>e=.returned (.bool true)∧Below W.heap.size W W':=by
 have e1:str x.data.toList=x:=rfl;have e2:str q.data.toList=q:=rfl;generalize x.data.toList=s at e1;generalize q.data.toList=r at e2;have E:=Jyx Jqz s n r W hg x q e1 e2;by_cases a:8192<s.length
 ·exact E (.inl a)
 have a:=Nat.le_of_not_lt a;by_cases b:1024<r.length
 ·exact E (.inr (.inl ⟨a,b⟩))
 have b:=Nat.le_of_not_lt b;by_cases c:s=[]
 ·exact E (.inr (.inr (.inl ⟨a,b,c⟩)))
 by_cases d:s[s.length - 1]?=some 10
 ·by_cases e:n<0
  ·exact E (.inr (.inr (.inr (.inr (.inl ⟨a,b,c,d,e⟩)))))
  have e:=Int.not_lt.1 e;by_cases f:r≠[]∧r[0]?≠some 35
  ·exact E (.inr (.inr (.inr (.inr (.inr ⟨a,b,c,d,e,f.1,f.2⟩)))))
  ·obtain⟨m,rfl⟩:=Int.eq_ofNat_of_zero_le e
   refine J23 Jqz s m r W hg x q e1 e2 h1 a b c d ?_;by_cases g:r=[]
   ·exact .inl g
   ·exact .inr (Decidable.byContradiction fun k=>f ⟨g,k⟩)
 ·exact E (.inr (.inr (.inr (.inl ⟨a,b,c,d⟩))))
end
end Go.Proofs.YtpifdbphmnifdaaGreatDoor
