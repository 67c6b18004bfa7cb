/-
  Facts of the proof. Condition: each theorem's own.
-/
import Derived.Test.YtpifdbphmnifdaaGreatDoorYI22
set_option maxRecDepth 100000
set_option maxHeartbeats 8000000
open Go.Proofs.Tryz
namespace Go.Proofs.YtpifdbphmnifdaaGreatDoor
section
open Go.RowKit
theorem Jqp {a b:ByteArray} (h:a.toList=b.toList):a=b:=by
 rcases Classical.em (a=b) with e | e
 ·exact e
 ·have:=Jc8 e
  rw [h] at this;simp at this
theorem Jh7 {a b:List UInt8} (h:str a=str b):a=b:=by
 have:=congrArg (fun b:ByteArray=>b.data.toList) h;simpa [str] using this
theorem Jx0 (x1 x2 x3 x4 x5 x6 x7 y1 y2 y3 y4 y5 y6 y7:Bool) (W:World) (m:Nat) :
  (Op.equalIn (m+1+1) 59 (.agg #[.bool x1,.bool x2,.bool x3,.bool x4,.bool x5,.bool x6,.bool x7]) (.agg #[.bool y1,.bool y2,.bool y3,.bool y4,.bool y5,.bool y6,.bool y7])).run prog W=.ok (decide (x1=y1∧x2=y2∧x3=y3∧x4=y4∧x5=y5∧x6=y6∧x7=y7)) W:=by
 have ub:=underlying4;have ab:=isAgg4;have zb:=sizeOf4;have r7:List.range' 0 7=[0,1,2,3,4,5,6]:=rfl;have P:∀(p1 p2 p3 p4 p5 p6 p7:Bool) (W:World),(part 4 #[.bool p1,.bool p2,.bool p3,.bool p4,.bool p5,.bool p6,.bool p7] (0*1)).run prog W=.ok (.bool p1) W∧(part 4 #[.bool p1,.bool p2,.bool p3,.bool p4,.bool p5,.bool p6,.bool p7] (1*1)).run prog W=.ok (.bool p2) W∧(part 4 #[.bool p1,.bool p2,.bool p3,.bool p4,.bool p5,.bool p6,.bool p7] (2*1)).run prog W=.ok (.bool p3) W∧(part 4 #[.bool p1,.bool p2,.bool p3,.bool p4,.bool p5,.bool p6,.bool p7] (3*1)).run prog W=.ok (.bool p4) W∧(part 4 #[.bool p1,.bool p2,.bool p3,.bool p4,.bool p5,.bool p6,.bool p7] (4*1)).run prog W=.ok (.bool p5) W∧(part 4 #[.bool p1,.bool p2,.bool p3,.bool p4,.bool p5,.bool p6,.bool p7] (5*1)).run prog W=.ok (.bool p6) W∧(part 4 #[.bool p1,.bool p2,.bool p3,.bool p4,.bool p5,.bool p6,.bool p7] (6*1)).run prog W=.ok (.bool p7) W:=by
  intro p1 p2 p3 p4 p5 p6 p7 W;simp [part,ab]
 have E:∀(x y:Bool) (W:World),(Op.equalIn (m+1) 4 (.bool x) (.bool y)).run prog W=.ok (x==y) W:=fun x y W=>run_equalIn_bool W m _ x y ub
 rw [Op.equalIn];simp only [Sem.run_bind,run_underlying underlying59,Result.andThen_ok,zb];by_cases h1:x1=y1
 case neg=>simp [P,E,r7,h1]
 by_cases h2:x2=y2
 case neg=>simp [P,E,r7,h1,h2]
 by_cases h3:x3=y3
 case neg=>simp [P,E,r7,h1,h2,h3]
 by_cases h4:x4=y4
 case neg=>simp [P,E,r7,h1,h2,h3,h4]
 by_cases h5:x5=y5
 case neg=>simp [P,E,r7,h1,h2,h3,h4,h5]
 by_cases h6:x6=y6
 case neg=>simp [P,E,r7,h1,h2,h3,h4,h5,h6]
 by_cases h7:x7=y7
 case neg=>simp [P,E,r7,h1,h2,h3,h4,h5,h6,h7]
 simp [P,E,r7,h1,h2,h3,h4,h5,h6,h7]
theorem Jx1 (x0 y0:ByteArray) (x1 y1:Int) (x2 y2:Bool) (x3 y3:Int) (h:¬(x0=y0∧x1=y1∧x2=y2∧x3=y3)) (W:World):(binOp BinOp.neq 112 (.agg #[.string x0,.int .i64 x1,.bool x2,.int .i64 x3]) (.agg #[.string y0,.int .i64 y1,.bool y2,.int .i64 y3])).run prog W=.ok (.bool true) W:=by
 go_simp
 exact fun h0 h1 h2 h3=>h ⟨Jqp h0,h1,h2,h3⟩
theorem Jof (x0:ByteArray) (x1:Int) (x2:Bool) (x3:Int) (W:World):(binOp BinOp.neq 112 (.agg #[.string x0,.int .i64 x1,.bool x2,.int .i64 x3]) (.agg #[.string x0,.int .i64 x1,.bool x2,.int .i64 x3])).run prog W=.ok (.bool false) W:=by go_simp
theorem Jx2 (x0 y0:ByteArray) (x1 y1:Int) (x2 y2:Bool) (h:¬(x0=y0∧x1=y1∧x2=y2)) (W:World):(binOp BinOp.neq 114 (.agg #[.string x0,.int .i64 x1,.bool x2]) (.agg #[.string y0,.int .i64 y1,.bool y2])).run prog W=.ok (.bool true) W:=by
 go_simp
 exact fun h0 h1 h2=>h ⟨Jqp h0,h1,h2⟩
theorem Jog (x0:ByteArray) (x1:Int) (x2:Bool) (W:World):(binOp BinOp.neq 114 (.agg #[.string x0,.int .i64 x1,.bool x2]) (.agg #[.string x0,.int .i64 x1,.bool x2])).run prog W=.ok (.bool false) W:=by go_simp
theorem Jx3 (x0 y0:ByteArray) (x1 y1:Bool) (x2 y2:Bool) (x3 y3:Bool) (x4 y4:Bool) (x5 y5:Bool) (x6 y6:Bool) (x7 y7:Bool) (x8 y8:Int) (x9 y9:Int) (h:¬(x0=y0∧x1=y1∧x2=y2∧x3=y3∧x4=y4∧x5=y5∧x6=y6∧x7=y7∧x8=y8∧x9=y9)) (W:World):(binOp BinOp.neq 61 (.agg #[.string x0,.bool x1,.bool x2,.bool x3,.bool x4,.bool x5,.bool x6,.bool x7,.int .i64 x8,.int .i64 x9]) (.agg #[.string y0,.bool y1,.bool y2,.bool y3,.bool y4,.bool y5,.bool y6,.bool y7,.int .i64 y8,.int .i64 y9])).run prog W=.ok (.bool true) W:=by
 have E:=Jx0 x1 x2 x3 x4 x5 x6 x7 y1 y2 y3 y4 y5 y6 y7 W 9997;by_cases hb:x1=y1∧x2=y2∧x3=y3∧x4=y4∧x5=y5∧x6=y6∧x7=y7
 ·obtain⟨rfl,rfl,rfl,rfl,rfl,rfl,rfl⟩:=hb
  rw [decide_eq_true ⟨rfl,rfl,rfl,rfl,rfl,rfl,rfl⟩] at E;go_simp
  exact fun h0 h8 h9=>h ⟨Jqp h0,rfl,rfl,rfl,rfl,rfl,rfl,rfl,h8,h9⟩
 ·rw [decide_eq_false hb] at E
  clear h hb;go_simp
theorem Joh (x0:ByteArray) (x1:Bool) (x2:Bool) (x3:Bool) (x4:Bool) (x5:Bool) (x6:Bool) (x7:Bool) (x8:Int) (x9:Int) (W:World):(binOp BinOp.neq 61 (.agg #[.string x0,.bool x1,.bool x2,.bool x3,.bool x4,.bool x5,.bool x6,.bool x7,.int .i64 x8,.int .i64 x9]) (.agg #[.string x0,.bool x1,.bool x2,.bool x3,.bool x4,.bool x5,.bool x6,.bool x7,.int .i64 x8,.int .i64 x9])).run prog W=.ok (.bool false) W:=by
 have E:=Jx0 x1 x2 x3 x4 x5 x6 x7 x1 x2 x3 x4 x5 x6 x7 W 9997;rw [decide_eq_true ⟨rfl,rfl,rfl,rfl,rfl,rfl,rfl⟩] at E;go_simp
theorem Jx4 (x0 y0:Int) (x1 y1:Int) (x2 y2:Bool) (h:¬(x0=y0∧x1=y1∧x2=y2)) (W:World):(binOp BinOp.neq 116 (.agg #[.int .i64 x0,.int .i64 x1,.bool x2]) (.agg #[.int .i64 y0,.int .i64 y1,.bool y2])).run prog W=.ok (.bool true) W:=by
 go_simp
 exact fun h0 h1 h2=>h ⟨h0,h1,h2⟩
theorem Joi (x0:Int) (x1:Int) (x2:Bool) (W:World):(binOp BinOp.neq 116 (.agg #[.int .i64 x0,.int .i64 x1,.bool x2]) (.agg #[.int .i64 x0,.int .i64 x1,.bool x2])).run prog W=.ok (.bool false) W:=by go_simp
theorem Jx5 (x0 y0:Int) (x1 y1:Int) (x2 y2:Int) (x3 y3:Bool) (x4 y4:Bool) (h:¬(x0=y0∧x1=y1∧x2=y2∧x3=y3∧x4=y4)) (W:World):(binOp BinOp.neq 58 (.agg #[.int .i64 x0,.int .i64 x1,.int .i64 x2,.bool x3,.bool x4]) (.agg #[.int .i64 y0,.int .i64 y1,.int .i64 y2,.bool y3,.bool y4])).run prog W=.ok (.bool true) W:=by
 go_simp
 exact fun h0 h1 h2 h3 h4=>h ⟨h0,h1,h2,h3,h4⟩
theorem Joj (x0:Int) (x1:Int) (x2:Int) (x3:Bool) (x4:Bool) (W:World):(binOp BinOp.neq 58 (.agg #[.int .i64 x0,.int .i64 x1,.int .i64 x2,.bool x3,.bool x4]) (.agg #[.int .i64 x0,.int .i64 x1,.int .i64 x2,.bool x3,.bool x4])).run prog W=.ok (.bool false) W:=by go_simp
theorem Jh8 (x0:Int) (x1:Int) (x2:Int) (x3:Bool) (x4:Bool) (W:World):(binOp BinOp.eql 58 (.agg #[.int .i64 x0,.int .i64 x1,.int .i64 x2,.bool x3,.bool x4]) (.agg #[.int .i64 x0,.int .i64 x1,.int .i64 x2,.bool x3,.bool x4])).run prog W=.ok (.bool true) W:=by go_simp
theorem Jx6 (x0 y0:Int) (x1 y1:Int) (x2 y2:Int) (x3 y3:Int) (h:¬(x0=y0∧x1=y1∧x2=y2∧x3=y3)) (W:World):(binOp BinOp.neq 118 (.agg #[.int .i64 x0,.int .i64 x1,.int .i64 x2,.int .i64 x3]) (.agg #[.int .i64 y0,.int .i64 y1,.int .i64 y2,.int .i64 y3])).run prog W=.ok (.bool true) W:=by
 go_simp
 exact fun h0 h1 h2 h3=>h ⟨h0,h1,h2,h3⟩
theorem Jok (x0:Int) (x1:Int) (x2:Int) (x3:Int) (W:World):(binOp BinOp.neq 118 (.agg #[.int .i64 x0,.int .i64 x1,.int .i64 x2,.int .i64 x3]) (.agg #[.int .i64 x0,.int .i64 x1,.int .i64 x2,.int .i64 x3])).run prog W=.ok (.bool false) W:=by go_simp
theorem Jx7 (x0 y0:Int) (x1 y1:Int) (h:¬(x0=y0∧x1=y1)) (W:World):(binOp BinOp.neq 120 (.agg #[.int .i64 x0,.int .i64 x1]) (.agg #[.int .i64 y0,.int .i64 y1])).run prog W=.ok (.bool true) W:=by
 go_simp
 exact fun h0 h1=>h ⟨h0,h1⟩
theorem Jol (x0:Int) (x1:Int) (W:World):(binOp BinOp.neq 120 (.agg #[.int .i64 x0,.int .i64 x1]) (.agg #[.int .i64 x0,.int .i64 x1])).run prog W=.ok (.bool false) W:=by go_simp
theorem Jx8 (x0 y0:Int) (x1 y1:Int) (x2 y2:Int) (h:¬(x0=y0∧x1=y1∧x2=y2)) (W:World):(binOp BinOp.neq 122 (.agg #[.int .i64 x0,.int .i64 x1,.int .i64 x2]) (.agg #[.int .i64 y0,.int .i64 y1,.int .i64 y2])).run prog W=.ok (.bool true) W:=by
 go_simp
 exact fun h0 h1 h2=>h ⟨h0,h1,h2⟩
theorem Jom (x0:Int) (x1:Int) (x2:Int) (W:World):(binOp BinOp.neq 122 (.agg #[.int .i64 x0,.int .i64 x1,.int .i64 x2]) (.agg #[.int .i64 x0,.int .i64 x1,.int .i64 x2])).run prog W=.ok (.bool false) W:=by go_simp
theorem Jx9 (x0 y0:Int) (x1 y1:Int) (x2 y2:Int) (x3 y3:Bool) (h:¬(x0=y0∧x1=y1∧x2=y2∧x3=y3)) (W:World):(binOp BinOp.neq 63 (.agg #[.int .i64 x0,.int .i64 x1,.int .i64 x2,.bool x3]) (.agg #[.int .i64 y0,.int .i64 y1,.int .i64 y2,.bool y3])).run prog W=.ok (.bool true) W:=by
 go_simp
 exact fun h0 h1 h2 h3=>h ⟨h0,h1,h2,h3⟩
theorem Jon (x0:Int) (x1:Int) (x2:Int) (x3:Bool) (W:World):(binOp BinOp.neq 63 (.agg #[.int .i64 x0,.int .i64 x1,.int .i64 x2,.bool x3]) (.agg #[.int .i64 x0,.int .i64 x1,.int .i64 x2,.bool x3])).run prog W=.ok (.bool false) W:=by go_simp
theorem Joo (x0:Int) (x1:Int) (x2:Int) (x3:Bool) (W:World):(binOp BinOp.eql 63 (.agg #[.int .i64 x0,.int .i64 x1,.int .i64 x2,.bool x3]) (.agg #[.int .i64 x0,.int .i64 x1,.int .i64 x2,.bool x3])).run prog W=.ok (.bool true) W:=by go_simp
theorem Jya (x0 y0:ByteArray) (x1 y1:Int) (x2 y2:Int) (x3 y3:Int) (x4 y4:Int) (x5 y5:Int) (h:¬(x0=y0∧x1=y1∧x2=y2∧x3=y3∧x4=y4∧x5=y5)) (W:World):(binOp BinOp.neq 65 (.agg #[.string x0,.int .i64 x1,.int .i64 x2,.int .i64 x3,.int .i64 x4,.int .i64 x5]) (.agg #[.string y0,.int .i64 y1,.int .i64 y2,.int .i64 y3,.int .i64 y4,.int .i64 y5])).run prog W=.ok (.bool true) W:=by
 go_simp
 exact fun h0 h1 h2 h3 h4 h5=>h ⟨Jqp h0,h1,h2,h3,h4,h5⟩
theorem Jop (x0:ByteArray) (x1:Int) (x2:Int) (x3:Int) (x4:Int) (x5:Int) (W:World):(binOp BinOp.neq 65 (.agg #[.string x0,.int .i64 x1,.int .i64 x2,.int .i64 x3,.int .i64 x4,.int .i64 x5]) (.agg #[.string x0,.int .i64 x1,.int .i64 x2,.int .i64 x3,.int .i64 x4,.int .i64 x5])).run prog W=.ok (.bool false) W:=by go_simp
def manN (T:Tt):Prop:=T.st.length≤100000∧T.ro.length≤100000∧T.ca.length≤100000∧T.ex.length≤100000∧T.tr.length≤100000∧T.fr.length≤5000∧T.th.length≤100000∧T.gu.length≤100000∧T.pa.length≤100000∧T.pr.length≤100000
instance (T:Tt):Decidable (manN T):=by unfold manN;infer_instance
def manT (T:Tt):Bool:=decide (manN T)&&T.tr.all fun x=>decide ((clT x).length≤100000)
theorem Jca {T:Tt}:manT T=true↔manN T∧∀x∈T.tr,(clT x).length≤100000:=by
 unfold manT;rw [Bool.and_eq_true,decide_eq_true_iff,List.all_eq_true];exact⟨fun h=>⟨h.1,fun x hx=>of_decide_eq_true (h.2 x hx)⟩,fun h=>⟨h.1,fun x hx=>decide_eq_true (h.2 x hx)⟩⟩
def CkM:Prop:=∀(a:Nat→Option Addr) (c:Nat→Nat) (T:Tt) (w:World),manT T=true→OkTt T→LnTt T→TtL w a c T→Calls prog 23 #[ttV a c T] w fun e w'=>e=.returned (.tuple #[.int .i64 ((ttC T).1),.int .i64 ((ttC T).2.1),.int .i64 ((ttC T).2.2)])∧Below w.heap.size w w'
theorem J2j (a:Nat→Option Addr) (c:Nat→Nat) (T:Tt) (hf:manT T=true) (_ok:OkTt T) (B:Nat) (w:World) (hB:w.heap[B]?=some (Jbu a c T)) (h:TtL w a c T):Calls prog 96 #[.pointer (some ⟨B,0,none⟩)] w fun e w'=>e=.returned (.tuple #[.int .i64 ((Jav T 0).1),.int .i64 ((Jav T 0).2)])∧Below w.heap.size w w':=by
 obtain⟨p0,p1,p2,p3,p4,p5,p6,p7,p8,p9,p10,p11,p12⟩:=Jal hB;obtain⟨⟨f0,f1,f2,f3,f4,f5,f6,f7,f8,f9⟩,hts0⟩:=Jca.1 hf;have hts:∀x∈T.tr,(clT x).length≤1000000:=fun x hx=>by have:=hts0 x hx;omega
 have K0:=Lib.hid (S13.kcheck_all (.slice (a 0) T.st.length (c 0)) T.st (by omega) w h.st);obtain⟨⟨x0,y0⟩,q0⟩:∃q,Jav T 0=q:=⟨_,rfl⟩;have e0:S13.chkT T.st=(x0,y0):=q0;rw [e0] at K0;rw [q0];clear f0 f1 f2 f3 f4 f5 f6 f7 f8 f9 hts hts0 hf _ok h hB e0 q0;go_enter func96,ntmps96
 go_wp2_with fail
 refine (K0.out).mono ?_;rintro e w8 ⟨rfl,bw8⟩;have B8:=Lib.hid bw8;clear bw8 K0 p0 p1 p2 p3 p4 p5 p6 p7 p8 p9 p10 p11 p12;go_wp2_with fail
 go_ret2;exact⟨rfl,B8.out⟩
theorem J2k (a:Nat→Option Addr) (c:Nat→Nat) (T:Tt) (hf:manT T=true) (_ok:OkTt T) (B:Nat) (w:World) (hB:w.heap[B]?=some (Jbu a c T)) (h:TtL w a c T):Calls prog 98 #[.pointer (some ⟨B,0,none⟩)] w fun e w'=>e=.returned (.tuple #[.int .i64 ((Jav T 1).1),.int .i64 ((Jav T 1).2)])∧Below w.heap.size w w':=by
 obtain⟨p0,p1,p2,p3,p4,p5,p6,p7,p8,p9,p10,p11,p12⟩:=Jal hB;obtain⟨⟨f0,f1,f2,f3,f4,f5,f6,f7,f8,f9⟩,hts0⟩:=Jca.1 hf;have hts:∀x∈T.tr,(clT x).length≤1000000:=fun x hx=>by have:=hts0 x hx;omega
 have K0:=Lib.hid (S15.kcheck_any (.slice (a 1) T.ro.length (c 1)) T.ro (by omega) w h.ro);obtain⟨⟨x0,y0⟩,q0⟩:∃q,Jav T 1=q:=⟨_,rfl⟩;have e0:chkR T.ro=(x0,y0):=q0;rw [e0] at K0;rw [q0];clear f0 f1 f2 f3 f4 f5 f6 f7 f8 f9 hts hts0 hf _ok h hB e0 q0;go_enter func98,ntmps98
 go_wp2_with fail
 refine (K0.out).mono ?_;rintro e w8 ⟨rfl,bw8⟩;have B8:=Lib.hid bw8;clear bw8 K0 p0 p1 p2 p3 p4 p5 p6 p7 p8 p9 p10 p11 p12;go_wp2_with fail
 go_ret2;exact⟨rfl,B8.out⟩
theorem J2l (a:Nat→Option Addr) (c:Nat→Nat) (T:Tt) (hf:manT T=true) (_ok:OkTt T) (B:Nat) (w:World) (hB:w.heap[B]?=some (Jbu a c T)) (h:TtL w a c T):Calls prog 100 #[.pointer (some ⟨B,0,none⟩)] w fun e w'=>e=.returned (.tuple #[.int .i64 ((Jav T 2).1),.int .i64 ((Jav T 2).2)])∧Below w.heap.size w w':=by
 obtain⟨p0,p1,p2,p3,p4,p5,p6,p7,p8,p9,p10,p11,p12⟩:=Jal hB;obtain⟨⟨f0,f1,f2,f3,f4,f5,f6,f7,f8,f9⟩,hts0⟩:=Jca.1 hf;have hts:∀x∈T.tr,(clT x).length≤1000000:=fun x hx=>by have:=hts0 x hx;omega
 have K0:=Lib.hid (S14.kcheck_all (.slice (a 2) T.ca.length (c 2)) T.ca (by omega) w h.ca);obtain⟨⟨x0,y0⟩,q0⟩:∃q,Jav T 2=q:=⟨_,rfl⟩;have e0:S14.chkC T.ca=(x0,y0):=q0;rw [e0] at K0;rw [q0];clear f0 f1 f2 f3 f4 f5 f6 f7 f8 f9 hts hts0 hf _ok h hB e0 q0;go_enter func100,ntmps100
 go_wp2_with fail
 refine (K0.out).mono ?_;rintro e w8 ⟨rfl,bw8⟩;have B8:=Lib.hid bw8;clear bw8 K0 p0 p1 p2 p3 p4 p5 p6 p7 p8 p9 p10 p11 p12;go_wp2_with fail
 go_ret2;exact⟨rfl,B8.out⟩
theorem J2m (a:Nat→Option Addr) (c:Nat→Nat) (T:Tt) (hf:manT T=true) (ok:OkTt T) (B Bc:Nat) (w:World) (hB:w.heap[B]?=some (Jbu a c T)) (hc:w.cell? ⟨Bc,0,none⟩=some (.int .i64 T.ca.length)) (h:TtL w a c T):Calls prog 102 #[.pointer (some ⟨B,0,none⟩),.pointer (some ⟨Bc,0,none⟩)] w fun e w'=>e=.returned (.tuple #[.int .i64 ((Jav T 3).1),.int .i64 ((Jav T 3).2)])∧Below w.heap.size w w':=by
 obtain⟨p0,p1,p2,p3,p4,p5,p6,p7,p8,p9,p10,p11,p12⟩:=Jal hB;obtain⟨⟨f0,f1,f2,f3,f4,f5,f6,f7,f8,f9⟩,hts0⟩:=Jca.1 hf;have hts:∀x∈T.tr,(clT x).length≤1000000:=fun x hx=>by have:=hts0 x hx;omega
 have K0:=Lib.hid (S14.kcx_any (.slice (a 3) T.ex.length (c 3)) T.ex T.ca.length (by omega) ok.1 w h.ex);obtain⟨⟨x0,y0⟩,q0⟩:∃q,Jav T 3=q:=⟨_,rfl⟩;have e0:S14.chkX T.ca.length T.ex=(x0,y0):=q0;rw [e0] at K0;rw [q0];clear f0 f1 f2 f3 f4 f5 f6 f7 f8 f9 hts hts0 hf ok h hB e0 q0;go_enter func102,ntmps102
 go_wp2_with fail
 refine (K0.out).mono ?_;rintro e w8 ⟨rfl,bw8⟩;have B8:=Lib.hid bw8;clear bw8 K0 p0 p1 p2 p3 p4 p5 p6 p7 p8 p9 p10 p11 p12;go_wp2_with fail
 go_ret2;exact⟨rfl,B8.out⟩
theorem J2n (a:Nat→Option Addr) (c:Nat→Nat) (T:Tt) (hf:manT T=true) (_ok:OkTt T) (B Bs Br Bc:Nat) (w:World) (hB:w.heap[B]?=some (Jbu a c T)) (hs:w.cell? ⟨Bs,0,none⟩=some (.int .i64 T.st.length)) (hr:w.cell? ⟨Br,0,none⟩=some (.int .i64 T.ro.length)) (hc:w.cell? ⟨Bc,0,none⟩=some (.int .i64 T.ca.length)) (h:TtL w a c T):Calls prog 104 #[.pointer (some ⟨B,0,none⟩),.pointer (some ⟨Bs,0,none⟩),.pointer (some ⟨Br,0,none⟩),.pointer (some ⟨Bc,0,none⟩)] w fun e w'=>e=.returned (.tuple #[.int .i64 ((Jav T 4).1),.int .i64 ((Jav T 4).2)])∧Below w.heap.size w w':=by
 obtain⟨p0,p1,p2,p3,p4,p5,p6,p7,p8,p9,p10,p11,p12⟩:=Jal hB;obtain⟨⟨f0,f1,f2,f3,f4,f5,f6,f7,f8,f9⟩,hts0⟩:=Jca.1 hf;have hts:∀x∈T.tr,(clT x).length≤1000000:=fun x hx=>by have:=hts0 x hx;omega
 have K0:=Lib.hid (S17.ktck_any (.slice (a 4) T.tr.length (c 4)) T.tr (by omega) T.st.length T.ro.length T.ca.length w h.tr);obtain⟨⟨x0,y0⟩,q0⟩:∃q,Jav T 4=q:=⟨_,rfl⟩;have e0:S17.chkT T.st.length T.ro.length T.ca.length T.tr=(x0,y0):=q0;rw [e0] at K0;rw [q0];clear f0 f1 f2 f3 f4 f5 f6 f7 f8 f9 hts hts0 hf _ok h hB e0 q0;go_enter func104,ntmps104
 go_wp2_with fail
 refine (K0.out).mono ?_;rintro e w8 ⟨rfl,bw8⟩;have B8:=Lib.hid bw8;clear bw8 K0 p0 p1 p2 p3 p4 p5 p6 p7 p8 p9 p10 p11 p12;go_wp2_with fail
 go_ret2;exact⟨rfl,B8.out⟩
theorem J2o (a:Nat→Option Addr) (c:Nat→Nat) (T:Tt) (hf:manT T=true) (_ok:OkTt T) (B:Nat) (w:World) (hB:w.heap[B]?=some (Jbu a c T)) (h:TtL w a c T):Calls prog 106 #[.pointer (some ⟨B,0,none⟩)] w fun e w'=>e=.returned (.tuple #[.int .i64 ((Jav T 5).1),.int .i64 ((Jav T 5).2)])∧Below w.heap.size w w':=by
 obtain⟨p0,p1,p2,p3,p4,p5,p6,p7,p8,p9,p10,p11,p12⟩:=Jal hB;obtain⟨⟨f0,f1,f2,f3,f4,f5,f6,f7,f8,f9⟩,hts0⟩:=Jca.1 hf;have hts:∀x∈T.tr,(clT x).length≤1000000:=fun x hx=>by have:=hts0 x hx;omega
 have K0:=Lib.hid (S18.kchk_any (.slice (a 5) T.fr.length (c 5)) T.fr (by omega) (.slice (a 4) T.tr.length (c 4)) T.tr hts w h.fr h.tr);obtain⟨⟨x0,y0⟩,q0⟩:∃q,Jav T 5=q:=⟨_,rfl⟩;have e0:chkF (T.tr.map clT) T.fr=(x0,y0):=q0;rw [e0] at K0;rw [q0];clear f0 f1 f2 f3 f4 f5 f6 f7 f8 f9 hts hts0 hf _ok h hB e0 q0;go_enter func106,ntmps106
 go_wp2_with fail
 refine (K0.out).mono ?_;rintro e w8 ⟨rfl,bw8⟩;have B8:=Lib.hid bw8;clear bw8 K0 p0 p1 p2 p3 p4 p5 p6 p7 p8 p9 p10 p11 p12;go_wp2_with fail
 go_ret2;exact⟨rfl,B8.out⟩
theorem J2p (a:Nat→Option Addr) (c:Nat→Nat) (T:Tt) (hf:manT T=true) (ok:OkTt T) (B:Nat) (w:World) (hB:w.heap[B]?=some (Jbu a c T)) (h:TtL w a c T):Calls prog 108 #[.pointer (some ⟨B,0,none⟩)] w fun e w'=>e=.returned (.tuple #[.int .i64 ((Jav T 6).1),.int .i64 ((Jav T 6).2)])∧Below w.heap.size w w':=by
 obtain⟨p0,p1,p2,p3,p4,p5,p6,p7,p8,p9,p10,p11,p12⟩:=Jal hB;obtain⟨⟨f0,f1,f2,f3,f4,f5,f6,f7,f8,f9⟩,hts0⟩:=Jca.1 hf;have hts:∀x∈T.tr,(clT x).length≤1000000:=fun x hx=>by have:=hts0 x hx;omega
 have K0:=Lib.hid (S19.kchkh_any (.slice (a 6) T.th.length (c 6)) T.th (by omega) ok.2.1 (.slice (a 4) T.tr.length (c 4)) T.tr hts (.slice (a 5) T.fr.length (c 5)) T.fr (by omega) w h.th h.tr h.fr);obtain⟨⟨x0,y0⟩,q0⟩:∃q,Jav T 6=q:=⟨_,rfl⟩;have e0:S19.chkH (T.tr.map S19.tcT) T.fr T.th=(x0,y0):=q0;rw [e0] at K0;rw [q0];clear f0 f1 f2 f3 f4 f5 f6 f7 f8 f9 hts hts0 hf ok h hB e0 q0;go_enter func108,ntmps108
 go_wp2_with fail
 refine (K0.out).mono ?_;rintro e w8 ⟨rfl,bw8⟩;have B8:=Lib.hid bw8;clear bw8 K0 p0 p1 p2 p3 p4 p5 p6 p7 p8 p9 p10 p11 p12;go_wp2_with fail
 go_ret2;exact⟨rfl,B8.out⟩
theorem J2q (a:Nat→Option Addr) (c:Nat→Nat) (T:Tt) (hf:manT T=true) (ok:OkTt T) (B Bs:Nat) (w:World) (hB:w.heap[B]?=some (Jbu a c T)) (hs:w.cell? ⟨Bs,0,none⟩=some (.int .i64 T.st.length)) (h:TtL w a c T):Calls prog 110 #[.pointer (some ⟨B,0,none⟩),.pointer (some ⟨Bs,0,none⟩)] w fun e w'=>e=.returned (.tuple #[.int .i64 ((Jav T 7).1),.int .i64 ((Jav T 7).2)])∧Below w.heap.size w w':=by
 obtain⟨p0,p1,p2,p3,p4,p5,p6,p7,p8,p9,p10,p11,p12⟩:=Jal hB;obtain⟨⟨f0,f1,f2,f3,f4,f5,f6,f7,f8,f9⟩,hts0⟩:=Jca.1 hf;have hts:∀x∈T.tr,(clT x).length≤1000000:=fun x hx=>by have:=hts0 x hx;omega
 have K0:=Lib.hid (S19.kchku_any (.slice (a 7) T.gu.length (c 7)) T.gu (by omega) ok.2.2.1 (.slice (a 4) T.tr.length (c 4)) T.tr hts (.slice (a 5) T.fr.length (c 5)) T.fr (by omega) T.st.length w h.gu h.tr h.fr);obtain⟨⟨x0,y0⟩,q0⟩:∃q,Jav T 7=q:=⟨_,rfl⟩;have e0:S19.chkU (T.tr.map S19.tcT) T.fr T.st.length T.gu=(x0,y0):=q0;rw [e0] at K0;rw [q0];clear f0 f1 f2 f3 f4 f5 f6 f7 f8 f9 hts hts0 hf ok h hB e0 q0;go_enter func110,ntmps110
 go_wp2_with fail
 refine (K0.out).mono ?_;rintro e w8 ⟨rfl,bw8⟩;have B8:=Lib.hid bw8;clear bw8 K0 p0 p1 p2 p3 p4 p5 p6 p7 p8 p9 p10 p11 p12;go_wp2_with fail
 go_ret2;exact⟨rfl,B8.out⟩
theorem J2r (a:Nat→Option Addr) (c:Nat→Nat) (T:Tt) (hf:manT T=true) (ok:OkTt T) (B Bs:Nat) (w:World) (hB:w.heap[B]?=some (Jbu a c T)) (hs:w.cell? ⟨Bs,0,none⟩=some (.int .i64 T.st.length)) (h:TtL w a c T):Calls prog 112 #[.pointer (some ⟨B,0,none⟩),.pointer (some ⟨Bs,0,none⟩)] w fun e w'=>e=.returned (.tuple #[.int .i64 ((Jav T 8).1),.int .i64 ((Jav T 8).2)])∧Below w.heap.size w w':=by
 obtain⟨p0,p1,p2,p3,p4,p5,p6,p7,p8,p9,p10,p11,p12⟩:=Jal hB;obtain⟨⟨f0,f1,f2,f3,f4,f5,f6,f7,f8,f9⟩,hts0⟩:=Jca.1 hf;have hts:∀x∈T.tr,(clT x).length≤1000000:=fun x hx=>by have:=hts0 x hx;omega
 have K0:=Lib.hid (S20.kchk_any (.slice (a 8) T.pa.length (c 8)) T.pa (by omega) T.st.length ok.2.2.2 w h.pa);obtain⟨⟨x0,y0⟩,q0⟩:∃q,Jav T 8=q:=⟨_,rfl⟩;have e0:S20.chkP T.st.length T.pa=(x0,y0):=q0;rw [e0] at K0;rw [q0];clear f0 f1 f2 f3 f4 f5 f6 f7 f8 f9 hts hts0 hf ok h hB e0 q0;go_enter func112,ntmps112
 go_wp2_with fail
 refine (K0.out).mono ?_;rintro e w8 ⟨rfl,bw8⟩;have B8:=Lib.hid bw8;clear bw8 K0 p0 p1 p2 p3 p4 p5 p6 p7 p8 p9 p10 p11 p12;go_wp2_with fail
 go_ret2;exact⟨rfl,B8.out⟩
theorem J2s (a:Nat→Option Addr) (c:Nat→Nat) (T:Tt) (hf:manT T=true) (_ok:OkTt T) (B:Nat) (w:World) (hB:w.heap[B]?=some (Jbu a c T)) (h:TtL w a c T):Calls prog 114 #[.pointer (some ⟨B,0,none⟩)] w fun e w'=>e=.returned (.tuple #[.int .i64 ((Jav T 9).1),.int .i64 ((Jav T 9).2)])∧Below w.heap.size w w':=by
 obtain⟨p0,p1,p2,p3,p4,p5,p6,p7,p8,p9,p10,p11,p12⟩:=Jal hB;obtain⟨⟨f0,f1,f2,f3,f4,f5,f6,f7,f8,f9⟩,hts0⟩:=Jca.1 hf;have hts:∀x∈T.tr,(clT x).length≤1000000:=fun x hx=>by have:=hts0 x hx;omega
 have K0:=Lib.hid (S21.kcheck_any (.slice (a 9) T.pr.length (c 9)) T.pr T.di T.wi T.cp (by omega) w h.pr);obtain⟨⟨x0,y0⟩,q0⟩:∃q,Jav T 9=q:=⟨_,rfl⟩;have e0:S21.chkPd T.di T.wi T.cp T.pr=(x0,y0):=q0;rw [e0] at K0;rw [q0];clear f0 f1 f2 f3 f4 f5 f6 f7 f8 f9 hts hts0 hf _ok h hB e0 q0;go_enter func114,ntmps114
 go_wp2_with fail
 refine (K0.out).mono ?_;rintro e w8 ⟨rfl,bw8⟩;have B8:=Lib.hid bw8;clear bw8 K0 p0 p1 p2 p3 p4 p5 p6 p7 p8 p9 p10 p11 p12;go_wp2_with fail
 go_ret2;exact⟨rfl,B8.out⟩
def Cks (T:Tt) (W:World) (v:Value):Prop:=∃G o,v=.slice (some ⟨G,o,none⟩) 10 10∧G<W.heap.size∧∀j,j<10→∃K caps,W.cell? ⟨G,o+j,none⟩=some (.func (.func K) #[] caps)∧(∀args W,(callFunc K args).run prog W=.ok (.enter K args) W) ∧
 ∀W',Below W.heap.size W W'→Calls prog K caps W' fun e w'=>e=.returned (.tuple #[.int .i64 (Jav T j).1,.int .i64 (Jav T j).2])∧Below W'.heap.size W' w'
theorem ent0:∀args W,(callFunc 96 args).run prog W=.ok (.enter 96 args) W:=Jbv func96 (by kernel_rfl) (by kernel_rfl)
theorem ent1:∀args W,(callFunc 98 args).run prog W=.ok (.enter 98 args) W:=Jbv func98 (by kernel_rfl) (by kernel_rfl)
theorem ent2:∀args W,(callFunc 100 args).run prog W=.ok (.enter 100 args) W:=Jbv func100 (by kernel_rfl) (by kernel_rfl)
theorem ent3:∀args W,(callFunc 102 args).run prog W=.ok (.enter 102 args) W:=Jbv func102 (by kernel_rfl) (by kernel_rfl)
theorem ent4:∀args W,(callFunc 104 args).run prog W=.ok (.enter 104 args) W:=Jbv func104 (by kernel_rfl) (by kernel_rfl)
theorem ent5:∀args W,(callFunc 106 args).run prog W=.ok (.enter 106 args) W:=Jbv func106 (by kernel_rfl) (by kernel_rfl)
theorem ent6:∀args W,(callFunc 108 args).run prog W=.ok (.enter 108 args) W:=Jbv func108 (by kernel_rfl) (by kernel_rfl)
theorem ent7:∀args W,(callFunc 110 args).run prog W=.ok (.enter 110 args) W:=Jbv func110 (by kernel_rfl) (by kernel_rfl)
theorem ent8:∀args W,(callFunc 112 args).run prog W=.ok (.enter 112 args) W:=Jbv func112 (by kernel_rfl) (by kernel_rfl)
theorem ent9:∀args W,(callFunc 114 args).run prog W=.ok (.enter 114 args) W:=Jbv func114 (by kernel_rfl) (by kernel_rfl)
theorem Qbt (a:Nat→Option Addr) (c:Nat→Nat) (T:Tt) (hf:manT T=true) (ok:OkTt T) (B Bs Br Bc G:Nat) (w:World) (hB:w.heap[B]?=some (Jbu a c T)) (hs:w.cell? ⟨Bs,0,none⟩=some (.int .i64 T.st.length)) (hr:w.cell? ⟨Br,0,none⟩=some (.int .i64 T.ro.length)) (hc:w.cell? ⟨Bc,0,none⟩=some (.int .i64 T.ca.length)) (h:TtL w a c T) (t:TypeId) (hG:w.heap[G]?=some (.cells #[.func (.func 96) #[] #[.pointer (some ⟨B,0,none⟩)],.func (.func 98) #[] #[.pointer (some ⟨B,0,none⟩)],.func (.func 100) #[] #[.pointer (some ⟨B,0,none⟩)],.func (.func 102) #[] #[.pointer (some ⟨B,0,none⟩),.pointer (some ⟨Bc,0,none⟩)],.func (.func 104) #[] #[.pointer (some ⟨B,0,none⟩),.pointer (some ⟨Bs,0,none⟩),.pointer (some ⟨Br,0,none⟩),.pointer (some ⟨Bc,0,none⟩)],.func (.func 106) #[] #[.pointer (some ⟨B,0,none⟩)],.func (.func 108) #[] #[.pointer (some ⟨B,0,none⟩)],.func (.func 110) #[] #[.pointer (some ⟨B,0,none⟩),.pointer (some ⟨Bs,0,none⟩)],.func (.func 112) #[] #[.pointer (some ⟨B,0,none⟩),.pointer (some ⟨Bs,0,none⟩)],.func (.func 114) #[] #[.pointer (some ⟨B,0,none⟩)]] t (0,0))):Cks T w (.slice (some ⟨G,0,none⟩) 10 10):=by
 have gB:B<w.heap.size:=(Array.getElem?_eq_some_iff.1 hB).1;have gs:=World.block_lt_of_cell? _ _ hs;have gr:=World.block_lt_of_cell? _ _ hr;have gc:=World.block_lt_of_cell? _ _ hc;refine⟨G,0,rfl,(Array.getElem?_eq_some_iff.1 hG).1,fun j hj=>?_⟩;match j,hj with
 | 0,_=>exact⟨_,_,by rw [cell_of_row _ _ _ _ _ _ hG];rfl,ent0,fun W' hW=>J2j a c T hf ok B W' ((hW.block _ gB).trans hB) (h.below hW)⟩
 | 1,_=>exact⟨_,_,by rw [cell_of_row _ _ _ _ _ _ hG];rfl,ent1,fun W' hW=>J2k a c T hf ok B W' ((hW.block _ gB).trans hB) (h.below hW)⟩
 | 2,_=>exact⟨_,_,by rw [cell_of_row _ _ _ _ _ _ hG];rfl,ent2,fun W' hW=>J2l a c T hf ok B W' ((hW.block _ gB).trans hB) (h.below hW)⟩
 | 3,_=>exact⟨_,_,by rw [cell_of_row _ _ _ _ _ _ hG];rfl,ent3,fun W' hW=>J2m a c T hf ok B Bc W' ((hW.block _ gB).trans hB) ((hW.cell (p:=⟨Bc,0,none⟩) gc).trans hc) (h.below hW)⟩
 | 4,_=>exact⟨_,_,by rw [cell_of_row _ _ _ _ _ _ hG];rfl,ent4,fun W' hW=>J2n a c T hf ok B Bs Br Bc W' ((hW.block _ gB).trans hB) ((hW.cell (p:=⟨Bs,0,none⟩) gs).trans hs) ((hW.cell (p:=⟨Br,0,none⟩) gr).trans hr) ((hW.cell (p:=⟨Bc,0,none⟩) gc).trans hc) (h.below hW)⟩
 | 5,_=>exact⟨_,_,by rw [cell_of_row _ _ _ _ _ _ hG];rfl,ent5,fun W' hW=>J2o a c T hf ok B W' ((hW.block _ gB).trans hB) (h.below hW)⟩
 | 6,_=>exact⟨_,_,by rw [cell_of_row _ _ _ _ _ _ hG];rfl,ent6,fun W' hW=>J2p a c T hf ok B W' ((hW.block _ gB).trans hB) (h.below hW)⟩
 | 7,_=>exact⟨_,_,by rw [cell_of_row _ _ _ _ _ _ hG];rfl,ent7,fun W' hW=>J2q a c T hf ok B Bs W' ((hW.block _ gB).trans hB) ((hW.cell (p:=⟨Bs,0,none⟩) gs).trans hs) (h.below hW)⟩
 | 8,_=>exact⟨_,_,by rw [cell_of_row _ _ _ _ _ _ hG];rfl,ent8,fun W' hW=>J2r a c T hf ok B Bs W' ((hW.block _ gB).trans hB) ((hW.cell (p:=⟨Bs,0,none⟩) gs).trans hs) (h.below hW)⟩
 | 9,_=>exact⟨_,_,by rw [cell_of_row _ _ _ _ _ _ hG];rfl,ent9,fun W' hW=>J2s a c T hf ok B W' ((hW.block _ gB).trans hB) (h.below hW)⟩
 | n+10,h=>omega
theorem Jyb {W:World} {t:TypeId} {x y z:Nat} {u1 u2 u3:Value} (hx:Boxed W x t u1) (hy:Boxed W y t u2) (hz:Boxed W z t u3) (xy:x≠y) (xz:x≠z) (yz:y≠z) (p q r:Value) :
  Boxed (((W.setCell ⟨x,0,none⟩ p).setCell ⟨y,0,none⟩ q).setCell ⟨z,0,none⟩ r) x t p∧Boxed (((W.setCell ⟨x,0,none⟩ p).setCell ⟨y,0,none⟩ q).setCell ⟨z,0,none⟩ r) y t q∧Boxed (((W.setCell ⟨x,0,none⟩ p).setCell ⟨y,0,none⟩ q).setCell ⟨z,0,none⟩ r) z t r :=
 ⟨((hx.set _).other xy _).other xz _,((hy.other xy.symm _).set _).other yz _,((hz.other xz.symm _).other yz.symm _).set _⟩
theorem J78 (a:Nat→Option Addr) (c:Nat→Nat) (T:Tt) (hf:manT T=true) (ok:OkTt T) {w0 W:World} {t ti:TypeId} {B x y z base:Nat} (hb:Below base w0 W) (hB:W.heap[B]?=some (Jbu a c T)) (h:TtL w0 a c T) (hbase:base≤B) (bs:base=w0.heap.size) (bx:B<x) (b_y:B<y) (bz:B<z) (hx:Boxed W x ti (.int .i64 0)) (hy:Boxed W y ti (.int .i64 0)) (hz:Boxed W z ti (.int .i64 0)) (xy:x≠y) (xz:x≠z) (yz:y≠z) :
  Cks T (((((W.setCell ⟨x,0,none⟩ (.int .i64 T.st.length)).setCell ⟨y,0,none⟩ (.int .i64 T.ro.length)).setCell ⟨z,0,none⟩ (.int .i64 T.ca.length)).alloc (.cells #[.func (.func 96) #[] #[.pointer (some ⟨B,0,none⟩)],.func (.func 98) #[] #[.pointer (some ⟨B,0,none⟩)],.func (.func 100) #[] #[.pointer (some ⟨B,0,none⟩)],.func (.func 102) #[] #[.pointer (some ⟨B,0,none⟩),.pointer (some ⟨z,0,none⟩)],.func (.func 104) #[] #[.pointer (some ⟨B,0,none⟩),.pointer (some ⟨x,0,none⟩),.pointer (some ⟨y,0,none⟩),.pointer (some ⟨z,0,none⟩)],.func (.func 106) #[] #[.pointer (some ⟨B,0,none⟩)],.func (.func 108) #[] #[.pointer (some ⟨B,0,none⟩)],.func (.func 110) #[] #[.pointer (some ⟨B,0,none⟩),.pointer (some ⟨x,0,none⟩)],.func (.func 112) #[] #[.pointer (some ⟨B,0,none⟩),.pointer (some ⟨x,0,none⟩)],.func (.func 114) #[] #[.pointer (some ⟨B,0,none⟩)]] t (0,0))).drew) (.slice (some ⟨W.heap.size,0,none⟩) 10 10)∧Below base w0 (((((W.setCell ⟨x,0,none⟩ (.int .i64 T.st.length)).setCell ⟨y,0,none⟩ (.int .i64 T.ro.length)).setCell ⟨z,0,none⟩ (.int .i64 T.ca.length)).alloc (.cells #[.func (.func 96) #[] #[.pointer (some ⟨B,0,none⟩)],.func (.func 98) #[] #[.pointer (some ⟨B,0,none⟩)],.func (.func 100) #[] #[.pointer (some ⟨B,0,none⟩)],.func (.func 102) #[] #[.pointer (some ⟨B,0,none⟩),.pointer (some ⟨z,0,none⟩)],.func (.func 104) #[] #[.pointer (some ⟨B,0,none⟩),.pointer (some ⟨x,0,none⟩),.pointer (some ⟨y,0,none⟩),.pointer (some ⟨z,0,none⟩)],.func (.func 106) #[] #[.pointer (some ⟨B,0,none⟩)],.func (.func 108) #[] #[.pointer (some ⟨B,0,none⟩)],.func (.func 110) #[] #[.pointer (some ⟨B,0,none⟩),.pointer (some ⟨x,0,none⟩)],.func (.func 112) #[] #[.pointer (some ⟨B,0,none⟩),.pointer (some ⟨x,0,none⟩)],.func (.func 114) #[] #[.pointer (some ⟨B,0,none⟩)]] t (0,0))).drew):=by
 obtain⟨e1,e2,e3⟩:=Jyb hx hy hz xy xz yz (.int .i64 T.st.length) (.int .i64 T.ro.length) (.int .i64 T.ca.length);have eB:(((W.setCell ⟨x,0,none⟩ (.int .i64 T.st.length)).setCell ⟨y,0,none⟩ (.int .i64 T.ro.length)).setCell ⟨z,0,none⟩ (.int .i64 T.ca.length)).heap[B]?=some (Jbu a c T):=by
  rw [RowKit.Below.heap_setCell _ _ _ B (by show B≠z;omega),RowKit.Below.heap_setCell _ _ _ B (by show B≠y;omega),RowKit.Below.heap_setCell _ _ _ B (by show B≠x;omega)];exact hB
 have b1:=((hb.setCell (p:=⟨x,0,none⟩) (by show base≤x;omega) (.int .i64 T.st.length)).setCell (p:=⟨y,0,none⟩) (by show base≤y;omega) (.int .i64 T.ro.length)).setCell (p:=⟨z,0,none⟩) (by show base≤z;omega) (.int .i64 T.ca.length);have sz:(((W.setCell ⟨x,0,none⟩ (.int .i64 T.st.length)).setCell ⟨y,0,none⟩ (.int .i64 T.ro.length)).setCell ⟨z,0,none⟩ (.int .i64 T.ca.length)).heap.size=W.heap.size:=by simp
 generalize ((W.setCell ⟨x,0,none⟩ (.int .i64 T.st.length)).setCell ⟨y,0,none⟩ (.int .i64 T.ro.length)).setCell ⟨z,0,none⟩ (.int .i64 T.ca.length)=W1 at e1 e2 e3 eB b1 sz ⊢;rw [←sz];obtain⟨W2,hW2⟩:∃X,W1.alloc (.cells #[.func (.func 96) #[] #[.pointer (some ⟨B,0,none⟩)],.func (.func 98) #[] #[.pointer (some ⟨B,0,none⟩)],.func (.func 100) #[] #[.pointer (some ⟨B,0,none⟩)],.func (.func 102) #[] #[.pointer (some ⟨B,0,none⟩),.pointer (some ⟨z,0,none⟩)],.func (.func 104) #[] #[.pointer (some ⟨B,0,none⟩),.pointer (some ⟨x,0,none⟩),.pointer (some ⟨y,0,none⟩),.pointer (some ⟨z,0,none⟩)],.func (.func 106) #[] #[.pointer (some ⟨B,0,none⟩)],.func (.func 108) #[] #[.pointer (some ⟨B,0,none⟩)],.func (.func 110) #[] #[.pointer (some ⟨B,0,none⟩),.pointer (some ⟨x,0,none⟩)],.func (.func 112) #[] #[.pointer (some ⟨B,0,none⟩),.pointer (some ⟨x,0,none⟩)],.func (.func 114) #[] #[.pointer (some ⟨B,0,none⟩)]] t (0,0))=X:=⟨_,rfl⟩;have b2:Below W1.heap.size W1 W2:=by rw [←hW2];exact (Below.refl _ _).alloc (Nat.le_refl _) _
 have y2:W2.heap[W1.heap.size]?=some (.cells #[.func (.func 96) #[] #[.pointer (some ⟨B,0,none⟩)],.func (.func 98) #[] #[.pointer (some ⟨B,0,none⟩)],.func (.func 100) #[] #[.pointer (some ⟨B,0,none⟩)],.func (.func 102) #[] #[.pointer (some ⟨B,0,none⟩),.pointer (some ⟨z,0,none⟩)],.func (.func 104) #[] #[.pointer (some ⟨B,0,none⟩),.pointer (some ⟨x,0,none⟩),.pointer (some ⟨y,0,none⟩),.pointer (some ⟨z,0,none⟩)],.func (.func 106) #[] #[.pointer (some ⟨B,0,none⟩)],.func (.func 108) #[] #[.pointer (some ⟨B,0,none⟩)],.func (.func 110) #[] #[.pointer (some ⟨B,0,none⟩),.pointer (some ⟨x,0,none⟩)],.func (.func 112) #[] #[.pointer (some ⟨B,0,none⟩),.pointer (some ⟨x,0,none⟩)],.func (.func 114) #[] #[.pointer (some ⟨B,0,none⟩)]] t (0,0)):=by rw [←hW2];exact heap_alloc_new W1 _
 have gB:B<W1.heap.size:=(Array.getElem?_eq_some_iff.1 eB).1;have bb:Below base w0 W2:=b1.trans (b2.mono (by omega));rw [hW2];refine⟨?_,bb.drew⟩;have hh:TtL W2 a c T:=h.below (by rw [←bs];exact bb);exact (Qbt a c T hf ok B x y z W1.heap.size W2.drew ((b2.block _ gB).trans eB) ((b2.drew.cell (p:=⟨x,0,none⟩) e1.lt).trans e1.cell) ((b2.drew.cell (p:=⟨y,0,none⟩) e2.lt).trans e2.cell) ((b2.drew.cell (p:=⟨z,0,none⟩) e3.lt).trans e3.cell) (hh.below (Below.refl _ _).drew) t y2)
theorem Js0 (a:Nat→Option Addr) (c:Nat→Nat) (T:Tt) (hf:manT T=true) (ok:OkTt T) (w:World) (h:TtL w a c T):Calls prog 45 #[ttV a c T] w fun e w'=>∃v,e=.returned v∧Cks T w' v∧Below w.heap.size w w':=by
 obtain⟨w7,hw7⟩:∃W,w.alloc (Jbu a c T)=W:=⟨_,rfl⟩;obtain⟨b7,s7,c7⟩:=Jfs hw7;obtain⟨w8,hw8⟩:∃W,w7.alloc (.cells #[.int .i64 0] 3 (0,0))=W:=⟨_,rfl⟩;obtain⟨w9,hw9⟩:∃W,w8.alloc (.cells #[.int .i64 0] 3 (0,0))=W:=⟨_,rfl⟩;obtain⟨wA,hwA⟩:∃W,w9.alloc (.cells #[.int .i64 0] 3 (0,0))=W:=⟨_,rfl⟩;have z8:w8.heap.size=w7.heap.size+1:=by rw [←hw8];simp
 have z9:w9.heap.size=w7.heap.size+2:=by rw [←hw9];simp [z8]
 have b8:Below w7.heap.size w7 w8:=by rw [←hw8];exact (Below.refl _ _).alloc (Nat.le_refl _) _
 have b9:Below w8.heap.size w8 w9:=by rw [←hw9];exact (Below.refl _ _).alloc (Nat.le_refl _) _
 have bA:Below w9.heap.size w9 wA:=by rw [←hwA];exact (Below.refl _ _).alloc (Nat.le_refl _) _
 have y8:w8.heap[w7.heap.size]?=some (.cells #[.int .i64 0] 3 (0,0)):=by rw [←hw8];exact heap_alloc_new w7 _
 have y9:w9.heap[w8.heap.size]?=some (.cells #[.int .i64 0] 3 (0,0)):=by rw [←hw9];exact heap_alloc_new w8 _
 have yA:wA.heap[w9.heap.size]?=some (.cells #[.int .i64 0] 3 (0,0)):=by rw [←hwA];exact heap_alloc_new w9 _
 have c8:=(bA.block _ (by omega)).trans ((b9.block _ (by omega)).trans y8);have c9:=(bA.block _ (by omega)).trans y9;have b7A:=b8.trans ((b9.trans (bA.mono (by omega))).mono (by omega));obtain⟨p0,p1,p2,-,-,-,-,-,-,-,-,-,-⟩:=Jal ((b7A.block _ s7).trans c7);obtain⟨t0,t1,t2,-,-,-,-,-,-,-,-,-,-⟩:=Jal c7;obtain⟨u0,u1,u2,-,-,-,-,-,-,-,-,-,-⟩:=Jal ((b8.block _ s7).trans c7);obtain⟨v0,v1,v2,-,-,-,-,-,-,-,-,-,-⟩:=Jal ((b9.block _ (by omega)).trans ((b8.block _ s7).trans c7));rw [z8] at c9;rw [z9] at yA;have bx3:∀x,w7.heap.size≤x→x<w7.heap.size+3→Boxed wA x 3 (.int .i64 0):=by
  intro x h1 h2;by_cases e1:x=w7.heap.size
  ·subst e1;exact c8
  by_cases e2:x=w7.heap.size+1
  ·subst e2;exact c9
  have e3:x=w7.heap.size+2:=by omega
  subst e3;exact yA
 have r8:wA.cell? ⟨w7.heap.size,0,none⟩=some (.int .i64 0):=by rw [cell_of_row _ _ 0 _ _ _ c8];rfl
 have r9:wA.cell? ⟨w7.heap.size+1,0,none⟩=some (.int .i64 0):=by rw [cell_of_row _ _ 0 _ _ _ c9];rfl
 have rA:wA.cell? ⟨w7.heap.size+2,0,none⟩=some (.int .i64 0):=by rw [cell_of_row _ _ 0 _ _ _ yA];rfl
 have f8:wA.frozen? ⟨w7.heap.size,0,none⟩=false:=frozen_of_row _ _ _ _ _ c8;have f9:wA.frozen? ⟨w7.heap.size+1,0,none⟩=false:=frozen_of_row _ _ _ _ _ c9;have fA:wA.frozen? ⟨w7.heap.size+2,0,none⟩=false:=frozen_of_row _ _ _ _ _ yA;have CE:=Lib.hid (fun (x y z:Nat) (t:TypeId) (x0:w7.heap.size≤x) (x3:x<w7.heap.size+3) (y0:w7.heap.size≤y) (y3:y<w7.heap.size+3) (z0:w7.heap.size≤z) (z3:z<w7.heap.size+3) (xy:x≠y) (xz:x≠z) (yz:y≠z)=>J78 a c T hf ok (t:=t) (B:=w.heap.size) (b7.trans (b7A.mono b7.size)) ((b7A.block _ s7).trans c7) h (Nat.le_refl _) rfl (by omega) (by omega) (by omega) (bx3 x x0 x3) (bx3 y y0 y3) (bx3 z z0 z3) xy xz yz);have n1:w7.heap.size+1≠w7.heap.size:=by omega
 have n2:w7.heap.size+2≠w7.heap.size:=by omega
 have n3:w7.heap.size+2≠w7.heap.size+1:=by omega
 have n4:w7.heap.size≠w7.heap.size+1:=by omega
 have n5:w7.heap.size≠w7.heap.size+2:=by omega
 have n6:w7.heap.size+1≠w7.heap.size+2:=by omega
 clear bx3 hf ok b7 c7 h y8 y9 yA c8 c9 b7A b8 b9 bA;go_enter func45,ntmps45
 go_wp2_with fail
 go_region
 all_goals
  go_wp2_with fail
  go_ret;exact⟨_,rfl,CE.out _ _ _ _ (by omega) (by omega) (by omega) (by omega) (by omega) (by omega) (by omega) (by omega) (by omega)⟩
theorem ckM:CkM:=by
 intro a c T w hf ok _ h;obtain⟨w7,hw7⟩:∃W,w.alloc (Jbu a c T)=W:=⟨_,rfl⟩;obtain⟨b7,s7,c7⟩:=Jfs hw7;obtain⟨p0,p1,p2,p3,p4,p5,p6,p7,p8,p9,p10,p11,p12⟩:=Jal c7;have C1:=Lib.hid (Js0 a c T hf ok w7 (h.below b7));have B7:=Lib.hid b7;obtain⟨V,hV⟩:∃q,ttC T=q:=⟨_,rfl⟩;rw [hV];have HV:Hid (V=ttF (Jav T) 0 10):=Lib.hid hV.symm;clear hV b7 c7 h s7 hf ok;go_enter func23,ntmps23
 go_wp2_with fail
 refine C1.out.mono ?_;rintro e w8 ⟨v,rfl,⟨G,o,rfl,gG,KK⟩,b8⟩;have KK:=Lib.hid KK;have GG:Hid (G<w8.heap.size):=Lib.hid gG;have B8:=Lib.hid (B7.out.trans (b8.mono B7.out.size));clear b8 C1 p0 p1 p2 p3 p4 p5 p6 p7 p8 p9 p10 p11 p12 B7 gG hw7;go_wp2_with fail
 go_loopw [12] (fun i wr=>∃k:Nat,i=.int .i64 k∧k≤10∧Hid (V=ttF (Jav T) k (10 - k))∧Hid (Below w8.heap.size w8 wr)) (fun i _=>10 - (intOf i).toNat)
 case atStart=>exact⟨0,rfl,Nat.zero_le _,HV,Lib.hid (Below.refl _ _)⟩
 case round =>
  clear HV;obtain⟨k,rfl,hk,he,HB⟩:=hrel;by_cases hlt:k<10
  ·obtain⟨K,caps,hcell,hent,hcall⟩:=KK.out k hlt
   have m1:=(HB.out.cell (p:=⟨G,o+k,none⟩) GG.out).trans hcell;have C2:=Lib.hid (hcall wr HB.out);obtain⟨⟨x,y⟩,q⟩:∃q,Jav T k=q:=⟨_,rfl⟩;rw [q] at C2;have gk:(k:Int)<10:=by omega
   obtain⟨r,hr⟩:∃r,10 - k=r+1:=⟨9 - k,by omega⟩;by_cases hy:y=0
   ·have d0:(y != 0)=false:=Jar hy
    have N:Hid (V=ttF (Jav T) (k+1) (10 - (k+1))):=Lib.hid (by rw [he.out,hr,Jnm (by rw [q];exact hy)];congr 1;omega);clear hcell hcall he q hr hlt hk hy;go_wp2_with fail
    refine C2.out.mono ?_;rintro e w9 ⟨rfl,b9⟩;have B9:=Lib.hid (HB.out.trans (b9.mono HB.out.size));clear b9 C2 HB m1 hent;go_wp2_with fail
    go_roundw
    case rel=>exact⟨k+1,by go_num,by omega,N,B9⟩
    case measure=>simp [intOf];omega
   ·have d0:(y != 0)=true:=Jae hy
    have R:Hid (V=((k:Int),x,y)):=Lib.hid (by rw [he.out,hr,Jnl (by rw [q];exact hy),q]);clear hcell hcall he q hr hlt hk hy;go_wp2_with fail
    refine C2.out.mono ?_;rintro e w9 ⟨rfl,b9⟩;have B9:=Lib.hid (HB.out.trans (b9.mono HB.out.size));clear b9 C2 HB m1 hent;go_wp2_with fail
    go_ret3
    exact⟨by rw [R.out];rfl,B8.out.trans (B9.out.mono B8.out.size)⟩
  ·have dk:decide ((k:Int)<10)=false:=by simp;omega
   have R:Hid (V=(0,0,0)):=Lib.hid (by rw [he.out,show 10 - k=0 by omega];rfl);clear he hlt hk;go_wp2_with fail
   go_ret3
   exact⟨by rw [R.out];rfl,B8.out.trans (HB.out.mono B8.out.size)⟩
abbrev B64 (x:Int):Prop:=-9223372036854775808≤x∧x≤9223372036854775807
structure FmB (F:Fm):Prop where
 tim:∀a,B64 (F.tim a).1
 dur:∀a,B64 (F.dur a).1
 day:∀a,B64 (F.day a).1
def Ok6 (T:Tt):Prop:=OkTt T∧∀x∈T.tr,OkS (clT x)
theorem Jft {e:Int} {l:List Bs} {s:Bs} (h:l.length≤1000000):B64 (fnd e l s).1:=by
 unfold fnd;cases hf:l.findIdx? (fun x=>decide (x=s)) with
 | none=>exact⟨by show -9223372036854775808≤(0:Int);decide,by show (0:Int)≤9223372036854775807;decide⟩
 | some i =>
  have:i<l.length:=(List.findIdx?_eq_some_iff_getElem.1 hf).1;exact⟨by show -9223372036854775808≤(i:Int);omega,by show (i:Int)≤9223372036854775807;omega⟩
theorem Jqq (c:Cl):∀(l:List Tp) (x:Tp),x∈addC c l→x∈l∨∃y∈l,x=putC c y
 | [],x,h=>by cases h
 | [y],x,h=>by
  have:x=putC c y:=by simpa [addC] using h
  exact .inr ⟨y,List.mem_singleton.2 rfl,this⟩
 | y::z::r,x,h=>by
  have h:x=y∨x∈addC c (z::r):=by simpa [addC] using h
  rcases h with rfl | h
  ·exact .inl (List.mem_cons_self)
  ·rcases Jqq c (z::r) x h with q | ⟨v,q,e⟩
   ·exact .inl (List.mem_cons_of_mem _ q)
   ·exact .inr ⟨v,List.mem_cons_of_mem _ q,e⟩
theorem J79 (F_:Fm) (hB:FmB F_) {T:Tt} (h:Ok6 T) (hl:∀i,i<10→lenP T i≤1000000) (k:Nat) (f:List Bs):Ok6 (addR F_ T k f).2:=by
 have l0:(Ja8 T).length≤1000000:=by unfold Ja8;rw [List.length_map];exact hl 0 (by omega)
 have l1:(Jcc T).length≤1000000:=by unfold Jcc;rw [List.length_map];exact hl 1 (by omega)
 have l2:(Jbn T).length≤1000000:=by unfold Jbn;rw [List.length_map];exact hl 2 (by omega)
 have l4:(Jbh T).length≤1000000:=by unfold Jbh;rw [List.length_map];exact hl 4 (by omega)
 obtain⟨⟨h1,h2,h3,h4⟩,h5⟩:=h;unfold addR;split
 ·exact⟨⟨h1,h2,h3,h4⟩,h5⟩
 ·exact⟨⟨h1,h2,h3,h4⟩,h5⟩
 ·exact⟨⟨h1,h2,h3,h4⟩,h5⟩
 ·refine⟨⟨fun j x hx=>?_,h2,h3,h4⟩,h5⟩
  have hx:=List.mem_of_getElem? hx;rcases List.mem_append.1 hx with q | q
  ·obtain⟨j,hj,e⟩:=List.getElem_of_mem q
   exact h1 j x (by rw [List.getElem?_eq_getElem hj,e])
  ·obtain rfl:=List.mem_singleton.1 q
   exact⟨Jft l2,hB.day _⟩
 ·refine⟨⟨h1,h2,h3,h4⟩,fun x hx=>?_⟩
  rcases List.mem_append.1 hx with q | q
  ·exact h5 x q
  ·obtain rfl:=List.mem_singleton.1 q
   intro y hy;cases hy
 ·exact⟨⟨h1,h2,h3,h4⟩,h5⟩
 ·refine⟨⟨h1,fun x hx=>?_,h3,h4⟩,h5⟩
  rcases List.mem_append.1 hx with q | q
  ·exact h2 x q
  ·obtain rfl:=List.mem_singleton.1 q
   exact⟨Jft l4,Jft l4⟩
 ·refine⟨⟨h1,h2,fun x hx=>?_,h4⟩,h5⟩
  rcases List.mem_append.1 hx with q | q
  ·exact h3 x q
  ·obtain rfl:=List.mem_singleton.1 q
   exact⟨Jft l4,Jft l4,Jft l0⟩
 ·refine⟨⟨h1,h2,h3,fun x hx=>?_⟩,h5⟩
  rcases List.mem_append.1 hx with q | q
  ·exact h4 x q
  ·obtain rfl:=List.mem_singleton.1 q
   exact⟨Jft l0,Jft l0⟩
 ·exact⟨⟨h1,h2,h3,h4⟩,h5⟩
 ·refine⟨⟨h1,h2,h3,h4⟩,fun x hx=>?_⟩
  rcases Jqq _ _ _ hx with q | ⟨y,q,rfl⟩
  ·exact h5 x q
  ·intro z hz
   have hz:z∈clT y++[_]:=hz;rcases List.mem_append.1 hz with r | r
   ·exact h5 y q z r
   ·obtain rfl:=List.mem_singleton.1 r
    exact⟨Jft l0,hB.tim _,hB.tim _⟩
 ·exact⟨⟨h1,h2,h3,h4⟩,h5⟩
 ·exact⟨⟨h1,h2,h3,h4⟩,h5⟩
theorem Jkm:Ok6 T0:=⟨⟨fun j x h=>by simp [T0] at h,fun x h=>(by simp [T0] at h),fun x h=>(by simp [T0] at h),fun x h=>(by simp [T0] at h)⟩,fun x h=>by simp [T0] at h⟩
theorem J8a (F_:Fm) (hB:FmB F_) {r:Rd} (h:Ok6 r.T) (hl:∀i,i<10→lenP r.T i≤1000000) (x:Bs) (n:Int):Ok6 (oneR F_ r x n).2.T:=by
 unfold oneR;split
 ·exact h
 ·split
  ·exact h
  ·unfold rcd
   dsimp only;split
   ·exact h
   ·split
    ·exact h
    ·split
     ·exact h
     ·split
      ·exact h
      ·exact J79 F_ hB h hl _ _
theorem J8b {T U:Tt} (h:CopT T U) {x:Tp} (hx:x∈U.tr):∃y∈T.tr,noV y=noV x:=by
 have:noV x∈U.tr.map noV:=List.mem_map.2 ⟨x,hx,rfl⟩;rw [h.tr] at this;exact List.mem_map.1 this
theorem Ok6.cop {T U:Tt} (h:Ok6 T) (c:CopT T U):Ok6 U:=by
 obtain⟨⟨h1,h2,h3,h4⟩,h5⟩:=h;refine⟨⟨by rw [c.ex];exact h1,by rw [c.th];exact h2,by rw [c.gu];exact h3,by rw [c.pa];exact h4⟩,fun x hx=>?_⟩;obtain⟨y,hy,e⟩:=J8b c hx;have:=h5 y hy;have e2:clT y=clT x:=congrArg (fun q=>q.2.2.2.2) e;rw [←e2];exact this
theorem J8c {T U:Tt} (c:CopT T U) (i:Nat) (hi:i<10):lenP U i=lenP T i:=by
 have ht:=congrArg List.length c.tr;rw [List.length_map,List.length_map] at ht;match i,hi with
 | 0,_=>exact congrArg List.length c.st
 | 1,_=>exact congrArg List.length c.ro
 | 2,_=>exact congrArg List.length c.ca
 | 3,_=>exact congrArg List.length c.ex
 | 4,_=>exact ht
 | 5,_=>exact congrArg List.length c.fr
 | 6,_=>exact congrArg List.length c.th
 | 7,_=>exact congrArg List.length c.gu
 | 8,_=>exact congrArg List.length c.pa
 | 9,_=>exact congrArg List.length c.pr
theorem Jc6 {α:Type} {enc:α→List Value} {w:World} {base k n:Nat} {T:TypeId} {v:Value} {l:List α} (h:w.ownsRow base T k v n (fl enc l)) (hn:n=l.length):LstG enc w v l:=by
 subst hn;exact OwnG.lst (T:=T) (k:=k) (base:=base) h
theorem Pt.ttL {w0 W:World} {F:Nat} {vs:List Value} {ts:List Tng} {T U:Tt} {N:Nat} (h:Pt w0 vs ts T U N) (G:Gst w0 F 80 vs ts W) (hN:N≤1000000) (ok:Ok6 U):∃a c,(∀X:World,(∀(i:Nat) (r:Rw),ts[i]?=some (tRow w0.heap.size r)→r.At w0.heap.size X)→TtL X a c U)∧W.rangeAt F 2 [.slice (a 0) U.st.length (c 0),.slice (a 1) U.ro.length (c 1),.slice (a 2) U.ca.length (c 2),.slice (a 3) U.ex.length (c 3),.slice (a 4) U.tr.length (c 4),.slice (a 5) U.fr.length (c 5),.slice (a 6) U.th.length (c 6),.slice (a 7) U.gu.length (c 7),.slice (a 8) U.pa.length (c 8),.slice (a 9) U.pr.length (c 9),.int .i64 U.di,.int .i64 U.wi,.int .i64 U.cp]:=by
 have hx:∀i,∃q:Option Addr×Nat,i<10→vs[2+i]?=some (.slice q.1 (lenP U i) q.2)∧ts[i]?=some (tRow w0.heap.size ⟨(tyT i).1,(tyT i).2,.slice q.1 (lenP U i) q.2,lenP U i,xsT U i⟩):=fun i=>by
  by_cases hi:i<10
  ·obtain⟨v,t⟩:=h.tabs i hi
   obtain⟨A,c,rfl⟩:=t.slice G;exact⟨(A,c),fun _=>⟨t.cell,t.row⟩⟩
  ·exact⟨(none,0),fun q=>absurd q hi⟩
 obtain⟨q,hq⟩:=Classical.axiomOfChoice hx;refine⟨fun i=>(q i).1,fun i=>(q i).2,fun X hX=>?_,fun j v hv=>?_⟩
 ·have R:=fun i hi=>hX i _ (hq i hi).2
  refine⟨Jc6 (R 0 (by omega)) rfl,Jc6 (R 1 (by omega)) rfl,Jc6 (R 2 (by omega)) rfl,Jc6 (R 3 (by omega)) rfl,⟨Jc6 (R 4 (by omega)) rfl,fun x hx=>?_⟩,Jc6 (R 5 (by omega)) rfl,Jc6 (R 6 (by omega)) rfl,Jc6 (R 7 (by omega)) rfl,Jc6 (R 8 (by omega)) rfl,Jc6 (R 9 (by omega)) rfl⟩;obtain⟨j,hj,e⟩:=List.getElem_of_mem hx;have hr:=hX _ _ (h.calls j x (by rw [List.getElem?_eq_getElem hj,e]));exact⟨Jc6 hr rfl,by have:=h.fewc x hx;omega,ok.2 x hx⟩
 ·refine (G.cell (i:=2+j) ?_).1
  match j with
  | 0=>cases hv;exact (hq 0 (by omega)).1
  | 1=>cases hv;exact (hq 1 (by omega)).1
  | 2=>cases hv;exact (hq 2 (by omega)).1
  | 3=>cases hv;exact (hq 3 (by omega)).1
  | 4=>cases hv;exact (hq 4 (by omega)).1
  | 5=>cases hv;exact (hq 5 (by omega)).1
  | 6=>cases hv;exact (hq 6 (by omega)).1
  | 7=>cases hv;exact (hq 7 (by omega)).1
  | 8=>cases hv;exact (hq 8 (by omega)).1
  | 9=>cases hv;exact (hq 9 (by omega)).1
  | 10=>cases hv;exact h.di
  | 11=>cases hv;exact h.wi
  | 12=>cases hv;exact h.cp
  | j+13=>simp at hv
theorem Gst.rows {w0 W X:World} {F b:Nat} {T:TypeId} {vs:List Value} {ts:List Tng} (G:Gst w0 F T vs ts W) (g:W.grownBy X (some b)) (hb:b<w0.heap.size):∀(i:Nat) (r:Rw),ts[i]?=some (tRow w0.heap.size r)→r.At w0.heap.size X:=fun i r h=>by
 have hr:=G.row h;refine World.ownsRow.kept hr g ?_;cases hv:r.v.ownBlock with
 | none=>exact .inl rfl
 | some k =>
  refine .inr fun e=>?_
  have:=(World.ownsRow.lt hr k hv).1;cases e
  omega
theorem Jqr (ls:List Bs):ls.length≤(Jag ls).length:=by
 induction ls with
 | nil=>exact Nat.le_refl _
 | cons x l ih =>
  have e:Jag (x::l)=x++[10]++Jag l:=rfl;rw [e,List.length_append,List.length_append,List.length_cons,List.length_cons,List.length_nil];omega
end
end Go.Proofs.YtpifdbphmnifdaaGreatDoor
