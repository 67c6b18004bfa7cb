/-
  The laws' examples (exampleHolds), from what the program's Check and Sizes answer: what the call answers; nothing that existed before the call has changed behind it. Condition: none.
-/
import Derived.Test.YtkhalnjgbdpfhaaGreatTtN
import Derived.Test.YtkhalnjgbdpfhaaGreatTtF
import Derived.Test.YtkhalnjgbdpfhaaGreatMk
namespace Go.Proofs.YtkhalnjgbdpfhaaGreat
open Go.RowKit

/-- The eleven numbers, as a value. -/
abbrev szV (T : Tt) : Value := .agg #[.int .i64 T.st.length, .int .i64 T.ro.length, .int .i64 T.ca.length, .int .i64 T.ex.length, .int .i64 T.tr.length, .int .i64 (sumT T.tr), .int .i64 T.fr.length, .int .i64 T.th.length, .int .i64 T.gu.length, .int .i64 T.pa.length, .int .i64 T.pr.length]
/-- What the program's Check and Sizes answer. -/
def CkC : Prop := ∀ (a : Nat → Option Addr) (c : Nat → Nat) (T : Tt) (w : World), fewT T = true → OkTt T → LnTt T → TtL w a c T → Calls Tryz.prog 8 #[ttV a c T] w fun e w' => e = .returned (.tuple #[.int .i64 ((ttC T).1), .int .i64 ((ttC T).2.1), .int .i64 ((ttC T).2.2)]) ∧ Below w.heap.size w w'
def SzC : Prop := ∀ (a : Nat → Option Addr) (c : Nat → Nat) (T : Tt) (w : World), fewT T = true → OkTt T → LnTt T → TtL w a c T → Calls Tryz.prog 13 #[ttV a c T] w fun e w' => e = .returned (szV T) ∧ Below w.heap.size w w'

def at0 (x : Option Addr) : Nat → Option Addr
  | 0 => x
  | _ => none
def ca0 (n : Nat) : Nat → Nat
  | 0 => n
  | _ => 0
def at08 (x y : Option Addr) : Nat → Option Addr
  | 0 => x
  | 8 => y
  | _ => none
def ca08 (n m : Nat) : Nat → Nat
  | 0 => n
  | 8 => m
  | _ => 0
def at04 (x y : Option Addr) : Nat → Option Addr
  | 0 => x
  | 4 => y
  | _ => none
def ca04 (n m : Nat) : Nat → Nat
  | 0 => n
  | 4 => m
  | _ => 0
def exS (x y : UInt8) : List S13.St := [([x], 0, false, 0), ([y], 0, false, 0)]
def ex1 : Tt := ⟨[], [], [], [], [], [], [], [], [], [], 0, 0, 0⟩
def ex2 : Tt := ⟨exS 65 65, [], [], [], [], [], [], [], [], [], 0, 0, 0⟩
def ex3 : Tt := ⟨exS 65 66, [], [], [], [], [], [], [], [(0, 1, 0, false)], [], 0, 0, 0⟩
def ex4 : Tt := ⟨[], [], [], [], [], [], [], [], [], [], 0, 0, -1⟩
def exL : List Cl := [(0, 0, 0, false, false), (0, 0, 0, false, false), (0, 0, 0, false, false)]
def ex5 (v : Value) : Tt := ⟨[([65], 0, false, 0)], [], [], [], [([], 0, 0, false, v, exL)], [], [], [], [], [], 0, 0, 0⟩
theorem ex_1 : ttC ex1 = (0, 0, 0) := by decide +kernel
theorem ex_2 : ttC ex2 = (0, 1, 6) := by decide +kernel
theorem ex_3 : ttC ex3 = (8, 0, 2) := by decide +kernel
theorem ex_4 : ttC ex4 = (9, -1, 2) := by decide +kernel
theorem ex_no : ∀ (j : Nat) (x : S14.Ex), ([] : List S14.Ex)[j]? = some x → S14.Pl64 (S14.plX x) := fun j x h => by simp at h
theorem no_tp (W : World) : LstTp W (.slice none 0 0) [] := ⟨LstG.nil _ _, fun x h => by simp at h⟩
theorem ttl_0 {W : World} {A : Option Addr} {n : Nat} {l : List S13.St} {d wi q : Int} (h : S13.LstS W (.slice A l.length n) l) : TtL W (at0 A) (ca0 n) ⟨l, [], [], [], [], [], [], [], [], [], d, wi, q⟩ :=
  ⟨h, LstG.nil _ _, LstG.nil _ _, LstG.nil _ _, no_tp _, LstG.nil _ _, LstG.nil _ _, LstG.nil _ _, LstG.nil _ _, LstG.nil _ _⟩
theorem ttl_08 {W : World} {A B : Option Addr} {n m : Nat} {l : List S13.St} {k : List S20.Fp} (h : S13.LstS W (.slice A l.length n) l) (h2 : S20.LstF W (.slice B k.length m) k) : TtL W (at08 A B) (ca08 n m) ⟨l, [], [], [], [], [], [], [], k, [], 0, 0, 0⟩ :=
  ⟨h, LstG.nil _ _, LstG.nil _ _, LstG.nil _ _, no_tp _, LstG.nil _ _, LstG.nil _ _, LstG.nil _ _, h2, LstG.nil _ _⟩
theorem ttl_04 {W : World} {A B : Option Addr} {n m : Nat} {l : List S13.St} {k : List Tp} (h : S13.LstS W (.slice A l.length n) l) (h2 : LstTp W (.slice B k.length m) k) : TtL W (at04 A B) (ca04 n m) ⟨l, [], [], [], k, [], [], [], [], [], 0, 0, 0⟩ :=
  ⟨h, LstG.nil _ _, LstG.nil _ _, LstG.nil _ _, h2, LstG.nil _ _, LstG.nil _ _, LstG.nil _ _, LstG.nil _ _, LstG.nil _ _⟩
theorem ok_0 {T : Tt} (h1 : T.ex = []) (h2 : T.th = []) (h3 : T.gu = []) (h4 : ∀ x ∈ T.pa, x = (0, 1, 0, false)) : OkTt T := by
  refine ⟨fun j x h => by rw [h1] at h; simp at h, fun x h => by rw [h2] at h; simp at h, fun x h => by rw [h3] at h; simp at h, fun x h => ?_⟩
  rw [h4 x h]
  exact ⟨⟨by decide, by decide⟩, by decide, by decide⟩
theorem ln_few {T : Tt} (h : fewN T) : LnTt T := by
  obtain ⟨h0, h1, h2, h3, h4, h5, h6, h7, h8, h9⟩ := h
  exact ⟨by omega, by omega, by omega, by omega, by omega, by omega, by omega, by omega, by omega, by omega⟩
theorem eqIn_11 (x0 x1 x2 x3 x4 x5 x6 x7 x8 x9 x10 y0 y1 y2 y3 y4 y5 y6 y7 y8 y9 y10 : Int) (W : World) (m : Nat) :
    (Op.equalIn (m + 1 + 1) 45 (.agg #[.int .i64 x0, .int .i64 x1, .int .i64 x2, .int .i64 x3, .int .i64 x4, .int .i64 x5, .int .i64 x6, .int .i64 x7, .int .i64 x8, .int .i64 x9, .int .i64 x10]) (.agg #[.int .i64 y0, .int .i64 y1, .int .i64 y2, .int .i64 y3, .int .i64 y4, .int .i64 y5, .int .i64 y6, .int .i64 y7, .int .i64 y8, .int .i64 y9, .int .i64 y10])).run Tryz.prog W = .ok (decide (x0 = y0 ∧ x1 = y1 ∧ x2 = y2 ∧ x3 = y3 ∧ x4 = y4 ∧ x5 = y5 ∧ x6 = y6 ∧ x7 = y7 ∧ x8 = y8 ∧ x9 = y9 ∧ x10 = y10)) W := by
  have ub := Tryz.underlying3
  have ab := Tryz.isAgg3
  have zb := Tryz.sizeOf3
  have r11 : List.range' 0 11 = [0, 1, 2, 3, 4, 5, 6, 7, 8, 9, 10] := rfl
  have P : ∀ (p0 p1 p2 p3 p4 p5 p6 p7 p8 p9 p10 : Int) (W : World), (part 3 #[.int .i64 p0, .int .i64 p1, .int .i64 p2, .int .i64 p3, .int .i64 p4, .int .i64 p5, .int .i64 p6, .int .i64 p7, .int .i64 p8, .int .i64 p9, .int .i64 p10] (0 * 1)).run Tryz.prog W = .ok (.int .i64 p0) W ∧ (part 3 #[.int .i64 p0, .int .i64 p1, .int .i64 p2, .int .i64 p3, .int .i64 p4, .int .i64 p5, .int .i64 p6, .int .i64 p7, .int .i64 p8, .int .i64 p9, .int .i64 p10] (1 * 1)).run Tryz.prog W = .ok (.int .i64 p1) W ∧ (part 3 #[.int .i64 p0, .int .i64 p1, .int .i64 p2, .int .i64 p3, .int .i64 p4, .int .i64 p5, .int .i64 p6, .int .i64 p7, .int .i64 p8, .int .i64 p9, .int .i64 p10] (2 * 1)).run Tryz.prog W = .ok (.int .i64 p2) W ∧ (part 3 #[.int .i64 p0, .int .i64 p1, .int .i64 p2, .int .i64 p3, .int .i64 p4, .int .i64 p5, .int .i64 p6, .int .i64 p7, .int .i64 p8, .int .i64 p9, .int .i64 p10] (3 * 1)).run Tryz.prog W = .ok (.int .i64 p3) W ∧ (part 3 #[.int .i64 p0, .int .i64 p1, .int .i64 p2, .int .i64 p3, .int .i64 p4, .int .i64 p5, .int .i64 p6, .int .i64 p7, .int .i64 p8, .int .i64 p9, .int .i64 p10] (4 * 1)).run Tryz.prog W = .ok (.int .i64 p4) W ∧ (part 3 #[.int .i64 p0, .int .i64 p1, .int .i64 p2, .int .i64 p3, .int .i64 p4, .int .i64 p5, .int .i64 p6, .int .i64 p7, .int .i64 p8, .int .i64 p9, .int .i64 p10] (5 * 1)).run Tryz.prog W = .ok (.int .i64 p5) W ∧ (part 3 #[.int .i64 p0, .int .i64 p1, .int .i64 p2, .int .i64 p3, .int .i64 p4, .int .i64 p5, .int .i64 p6, .int .i64 p7, .int .i64 p8, .int .i64 p9, .int .i64 p10] (6 * 1)).run Tryz.prog W = .ok (.int .i64 p6) W ∧ (part 3 #[.int .i64 p0, .int .i64 p1, .int .i64 p2, .int .i64 p3, .int .i64 p4, .int .i64 p5, .int .i64 p6, .int .i64 p7, .int .i64 p8, .int .i64 p9, .int .i64 p10] (7 * 1)).run Tryz.prog W = .ok (.int .i64 p7) W ∧ (part 3 #[.int .i64 p0, .int .i64 p1, .int .i64 p2, .int .i64 p3, .int .i64 p4, .int .i64 p5, .int .i64 p6, .int .i64 p7, .int .i64 p8, .int .i64 p9, .int .i64 p10] (8 * 1)).run Tryz.prog W = .ok (.int .i64 p8) W ∧ (part 3 #[.int .i64 p0, .int .i64 p1, .int .i64 p2, .int .i64 p3, .int .i64 p4, .int .i64 p5, .int .i64 p6, .int .i64 p7, .int .i64 p8, .int .i64 p9, .int .i64 p10] (9 * 1)).run Tryz.prog W = .ok (.int .i64 p9) W ∧ (part 3 #[.int .i64 p0, .int .i64 p1, .int .i64 p2, .int .i64 p3, .int .i64 p4, .int .i64 p5, .int .i64 p6, .int .i64 p7, .int .i64 p8, .int .i64 p9, .int .i64 p10] (10 * 1)).run Tryz.prog W = .ok (.int .i64 p10) W := by
    intro p0 p1 p2 p3 p4 p5 p6 p7 p8 p9 p10 W
    simp [part, ab]
  have E : ∀ (x y : Int) (W : World), (Op.equalIn (m + 1) 3 (.int .i64 x) (.int .i64 y)).run Tryz.prog W = .ok (x == y) W := fun x y W => run_equalIn_int W m _ _ _ x y ub
  rw [Op.equalIn]
  simp only [Sem.run_bind, run_underlying Tryz.underlying45, Result.andThen_ok, zb]
  by_cases h0 : x0 = y0
  case neg => simp [P, E, r11, h0]
  by_cases h1 : x1 = y1
  case neg => simp [P, E, r11, h0, h1]
  by_cases h2 : x2 = y2
  case neg => simp [P, E, r11, h0, h1, h2]
  by_cases h3 : x3 = y3
  case neg => simp [P, E, r11, h0, h1, h2, h3]
  by_cases h4 : x4 = y4
  case neg => simp [P, E, r11, h0, h1, h2, h3, h4]
  by_cases h5 : x5 = y5
  case neg => simp [P, E, r11, h0, h1, h2, h3, h4, h5]
  by_cases h6 : x6 = y6
  case neg => simp [P, E, r11, h0, h1, h2, h3, h4, h5, h6]
  by_cases h7 : x7 = y7
  case neg => simp [P, E, r11, h0, h1, h2, h3, h4, h5, h6, h7]
  by_cases h8 : x8 = y8
  case neg => simp [P, E, r11, h0, h1, h2, h3, h4, h5, h6, h7, h8]
  by_cases h9 : x9 = y9
  case neg => simp [P, E, r11, h0, h1, h2, h3, h4, h5, h6, h7, h8, h9]
  by_cases h10 : x10 = y10
  case neg => simp [P, E, r11, h0, h1, h2, h3, h4, h5, h6, h7, h8, h9, h10]
  simp [P, E, r11, h0, h1, h2, h3, h4, h5, h6, h7, h8, h9, h10]
theorem info_call : (Tryz.prog.info? 74).map (fun i => (i.zero, i.size, i.bytes)) = some (some (.agg #[.int .i64 0, .int .i64 0, .int .i64 0, .bool false, .bool false]), 5, 32) := by kernel_rfl
theorem mk_3 (W : World) : (Instr.makeSlice 47 (.int .i64 3) (.int .i64 3)).run Tryz.prog W = .ok (.slice (some ⟨W.heap.size, 0, none⟩) 3 3) (W.alloc (.cells #[.int .i64 0, .int .i64 0, .int .i64 0, .bool false, .bool false, .int .i64 0, .int .i64 0, .int .i64 0, .bool false, .bool false, .int .i64 0, .int .i64 0, .int .i64 0, .bool false, .bool false] 74 (0, 0))) :=
  mkG_run (enc := cc) (k := 5) cc_len (by decide) Tryz.underlying47 info_call ((0, 0, 0, false, false) : Cl) rfl 3 (by omega) (by omega) 3 rfl W
theorem exL_ok : OkS exL := by
  intro x hx
  simp [exL] at hx
  subst hx
  exact ⟨⟨by decide, by decide⟩, ⟨by decide, by decide⟩, by decide, by decide⟩
set_option maxRecDepth 100000 in
set_option maxHeartbeats 4000000 in
theorem ex_any (CK : CkC) (SZ : SzC) (w : World) : Calls Tryz.prog 7 #[] w fun e w' => e = .returned (.bool true) ∧ Below w.heap.size w w' := by
  have C1 := Lib.hid (CK (fun _ => none) (fun _ => 0) ex1 w (by decide) (ok_0 rfl rfl rfl (fun x h => by cases h)) (ln_few (by decide)) ⟨LstG.nil _ _, LstG.nil _ _, LstG.nil _ _, LstG.nil _ _, no_tp _, LstG.nil _ _, LstG.nil _ _, LstG.nil _ _, LstG.nil _ _, LstG.nil _ _⟩)
  rw [ex_1] at C1
  have CK := Lib.hid CK
  have SZ := Lib.hid SZ
  go_enter Tryz.func7, Tryz.ntmps7
  go_wp2_with fail
  refine C1.out.mono ?_
  rintro e w1 ⟨rfl, b1⟩
  have B1 := Lib.hid b1
  clear b1 C1
  obtain ⟨w2, hw2⟩ : ∃ x, w1.alloc (.cells #[.string ⟨#[65]⟩, .int .i64 0, .bool false, .int .i64 0, .string ⟨#[65]⟩, .int .i64 0, .bool false, .int .i64 0] 51 (0, 0)) = x := ⟨_, rfl⟩
  have b2 : Below w1.heap.size w1 w2 := by rw [← hw2]; exact (Below.refl _ _).alloc (Nat.le_refl _) _
  have L2 : Hid (S13.LstS w2 (.slice (some ⟨w1.heap.size, 0, none⟩) 2 2) (exS 65 65)) := by show S13.LstS _ _ _; rw [← hw2]; exact lstG_lit w1 _ _ (exS 65 65) rfl 2 rfl
  have B2 := Lib.hid (B1.out.trans (b2.mono B1.out.size))
  have C2 := Lib.hid (CK.out (at0 (some ⟨w1.heap.size, 0, none⟩)) (ca0 2) ex2 w2 (by decide) (ok_0 rfl rfl rfl (fun x h => by cases h)) (ln_few (by decide)) (ttl_0 L2.out))
  rw [ex_2] at C2
  clear b2 B1 L2
  go_wp2_with fail
  refine C2.out.mono ?_
  rintro e w3 ⟨rfl, b3⟩
  have B3 := Lib.hid (B2.out.trans (b3.mono B2.out.size))
  clear b3 C2 B2 hw2
  obtain ⟨w4, hw4⟩ : ∃ x, w3.alloc (.cells #[.string ⟨#[65]⟩, .int .i64 0, .bool false, .int .i64 0, .string ⟨#[66]⟩, .int .i64 0, .bool false, .int .i64 0] 51 (0, 0)) = x := ⟨_, rfl⟩
  have b4 : Below w3.heap.size w3 w4 := by rw [← hw4]; exact (Below.refl _ _).alloc (Nat.le_refl _) _
  have L4 : Hid (S13.LstS w4 (.slice (some ⟨w3.heap.size, 0, none⟩) 2 2) (exS 65 66)) := by show S13.LstS _ _ _; rw [← hw4]; exact lstG_lit w3 _ _ (exS 65 66) rfl 2 rfl
  have B4 := Lib.hid (B3.out.trans (b4.mono B3.out.size))
  obtain ⟨w5, hw5⟩ : ∃ x, w4.alloc (.cells #[.int .i64 0, .int .i64 1, .int .i64 0, .bool false] 53 (0, 0)) = x := ⟨_, rfl⟩
  have b5 : Below w4.heap.size w4 w5 := by rw [← hw5]; exact (Below.refl _ _).alloc (Nat.le_refl _) _
  have L5 : Hid (S20.LstF w5 (.slice (some ⟨w4.heap.size, 0, none⟩) 1 1) [(0, 1, 0, false)]) := by show S20.LstF _ _ _; rw [← hw5]; exact lstG_lit w4 _ _ [(0, 1, 0, false)] rfl 1 rfl
  have B5 := Lib.hid (B4.out.trans (b5.mono B4.out.size))
  have C5 := Lib.hid (CK.out (at08 (some ⟨w3.heap.size, 0, none⟩) (some ⟨w4.heap.size, 0, none⟩)) (ca08 2 1) ex3 w5 (by decide) (ok_0 rfl rfl rfl (fun x h => by simpa [ex3] using h)) (ln_few (by decide)) (ttl_08 (L4.out.below b5) L5.out))
  rw [ex_3] at C5
  clear b4 b5 B3 B4 L4 L5
  go_wp2_with fail
  refine C5.out.mono ?_
  rintro e w6 ⟨rfl, b6⟩
  have B6 := Lib.hid (B5.out.trans (b6.mono B5.out.size))
  clear b6 C5 B5 hw4 hw5
  have C6 := Lib.hid (CK.out (fun _ => none) (fun _ => 0) ex4 w6 (by decide) (ok_0 rfl rfl rfl (fun x h => by cases h)) (ln_few (by decide)) ⟨LstG.nil _ _, LstG.nil _ _, LstG.nil _ _, LstG.nil _ _, no_tp _, LstG.nil _ _, LstG.nil _ _, LstG.nil _ _, LstG.nil _ _, LstG.nil _ _⟩)
  rw [ex_4] at C6
  go_wp2_with fail
  refine C6.out.mono ?_
  rintro e w7 ⟨rfl, b7⟩
  have B7 := Lib.hid (B6.out.trans (b7.mono B6.out.size))
  clear b7 C6 B6
  obtain ⟨w8, hw8⟩ : ∃ x, w7.alloc (.cells #[.string ⟨#[65]⟩, .int .i64 0, .bool false, .int .i64 0] 51 (0, 0)) = x := ⟨_, rfl⟩
  have b8 : Below w7.heap.size w7 w8 := by rw [← hw8]; exact (Below.refl _ _).alloc (Nat.le_refl _) _
  have L8 : Hid (S13.LstS w8 (.slice (some ⟨w7.heap.size, 0, none⟩) 1 1) [([65], 0, false, 0)]) := by show S13.LstS _ _ _; rw [← hw8]; exact lstG_lit w7 _ _ [([65], 0, false, 0)] rfl 1 rfl
  have B8 := Lib.hid (B7.out.trans (b8.mono B7.out.size))
  clear b8 B7
  have MK := mk_3
  obtain ⟨w9, hw9⟩ : ∃ x, w8.alloc (.cells #[.int .i64 0, .int .i64 0, .int .i64 0, .bool false, .bool false, .int .i64 0, .int .i64 0, .int .i64 0, .bool false, .bool false, .int .i64 0, .int .i64 0, .int .i64 0, .bool false, .bool false] 74 (0, 0)) = x := ⟨_, rfl⟩
  have b9 : Below w8.heap.size w8 w9 := by rw [← hw9]; exact (Below.refl _ _).alloc (Nat.le_refl _) _
  have L9 : Hid (LstC w9 (.slice (some ⟨w8.heap.size, 0, none⟩) 3 3) exL) := by show LstC _ _ _; rw [← hw9]; exact lstG_lit w8 _ _ exL rfl 3 rfl
  have B9 := Lib.hid (B8.out.trans (b9.mono B8.out.size))
  have L8 := Lib.hid (L8.out.below b9)
  obtain ⟨w10, hw10⟩ : ∃ x, w9.alloc (.cells #[.string ⟨#[]⟩, .int .i64 0, .int .i64 0, .bool false, .slice (some ⟨w8.heap.size, 0, none⟩) 3 3] 49 (0, 0)) = x := ⟨_, rfl⟩
  have b10 : Below w9.heap.size w9 w10 := by rw [← hw10]; exact (Below.refl _ _).alloc (Nat.le_refl _) _
  have L10 : Hid (LstTp w10 (.slice (some ⟨w9.heap.size, 0, none⟩) 1 1) [([], 0, 0, false, .slice (some ⟨w8.heap.size, 0, none⟩) 3 3, exL)]) := by
    refine ⟨by rw [← hw10]; exact lstG_lit w9 _ _ ([([], 0, 0, false, Value.slice (some ⟨w8.heap.size, 0, none⟩) 3 3, exL)] : List Tp) rfl 1 rfl, fun x hx => ?_⟩
    simp at hx
    subst hx
    exact ⟨L9.out.below b10, (by show exL.length ≤ _; decide), exL_ok⟩
  have B10 := Lib.hid (B9.out.trans (b10.mono B9.out.size))
  have C10 := Lib.hid (SZ.out (at04 (some ⟨w7.heap.size, 0, none⟩) (some ⟨w9.heap.size, 0, none⟩)) (ca04 1 1) (ex5 (.slice (some ⟨w8.heap.size, 0, none⟩) 3 3)) w10 rfl (ok_0 rfl rfl rfl (fun x h => by cases h)) (ln_few (few_iff.1 rfl).1) (ttl_04 (L8.out.below b10) L10.out))
  rw [show szV (ex5 (.slice (some ⟨w8.heap.size, 0, none⟩) 3 3)) = .agg #[.int .i64 1, .int .i64 0, .int .i64 0, .int .i64 0, .int .i64 1, .int .i64 3, .int .i64 0, .int .i64 0, .int .i64 0, .int .i64 0, .int .i64 0] from rfl] at C10
  clear b9 b10 B8 B9 L8 L9 L10
  go_wp2_with fail
  refine C10.out.mono ?_
  rintro e w11 ⟨rfl, b11⟩
  have B11 := Lib.hid (B10.out.trans (b11.mono B10.out.size))
  clear b11 C10 B10 hw8 hw9 hw10 MK CK SZ
  have E := fun W => eqIn_11 1 0 0 0 1 3 0 0 0 0 0 1 0 0 0 1 3 0 0 0 0 0 W 9998
  go_wp2_with fail
  go_ret
  exact ⟨rfl, B11.out.trans (((Below.refl w11.heap.size w11).alloc (Nat.le_refl _) _).mono B11.out.size)⟩
end Go.Proofs.YtkhalnjgbdpfhaaGreat
