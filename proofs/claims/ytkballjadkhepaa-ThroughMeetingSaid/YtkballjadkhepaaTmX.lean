/-
  The laws' examples (exampleHolds) of package through: what the call answers; nothing that existed before the call has changed behind it. Condition: none.
-/
import Derived.Test.YtkballjadkhepaaTmH
import Derived.Test.YtkballjadkhepaaTmG
namespace Go.Proofs.Ytkballjadkhepaa
open Go.RowKit

def exA : List Cl := [(0, 0, 0, true, false), (1, 200, 200, false, true)]
def exB : List Cl := [(1, 200, 200, true, false), (2, 300, 300, false, true)]
def exC : List Cl := [(1, 199, 199, true, false), (2, 300, 300, false, true)]
def exY : List Cl := [(0, 0, 0, false, false), (1, 0, 0, false, false)]
def exZ : List Cl := [(1, 0, 0, false, false), (0, 0, 0, false, false)]
def exL : List Th := [(0, 1)]
def exM : List Th := [(0, 1), (1, 0)]
theorem ex_one : chkH [(0, exA), (0, exB)] [] exL = (0, 0) := by decide +kernel
theorem ex_two : chkH [(0, exA), (0, exC)] [] exL = (0, 10) := by decide +kernel
theorem ex_three : chkH [(0, exY), (0, exZ)] [] exM = (1, 19) := by decide +kernel
theorem ex_meet : meT 1 exA exB = (1, 0, true) := by decide +kernel
theorem ex_chain : chT exL 0 = [0, 1] := by decide +kernel
theorem ix0 : Ix64 0 := by unfold Ix64; decide
theorem ix1 : Ix64 1 := by unfold Ix64; decide
theorem ex_64 : Th64 exL ∧ Th64 exM := by
  constructor
  · intro x hx
    simp [exL] at hx
    subst hx
    exact ⟨ix0, ix1⟩
  · intro x hx
    simp [exM] at hx
    rcases hx with rfl | rfl
    · exact ⟨ix0, ix1⟩
    · exact ⟨ix1, ix0⟩
/-- A trip of the example. -/
def exT (v : Value) (l : List Cl) : Tp := ([], 0, 0, false, v, l)
theorem ok_ex {W : World} {v : Value} {l : List Cl} (h : LstC W v l) (h1 : l.length ≤ 9223372036854775807) (h2 : OkS l) : OkT W (exT v l) := ⟨h, h1, h2⟩
theorem trips_lit {W W' : World} {u v : Value} {l m : List Cl} (h1 : LstC W u l) (h2 : LstC W v m) (l1 : l.length ≤ 9223372036854775807) (l2 : m.length ≤ 9223372036854775807) (o1 : OkS l) (o2 : OkS m)
    (hW : W.alloc (.cells #[.string ⟨#[]⟩, .int .i64 0, .int .i64 0, .bool false, u, .string ⟨#[]⟩, .int .i64 0, .int .i64 0, .bool false, v] 49 (0, 0)) = W') : LstTp W' (.slice (some ⟨W.heap.size, 0, none⟩) 2 2) [exT u l, exT v m] ∧ Below W.heap.size W W' := by
  have b : Below W.heap.size W W' := by rw [← hW]; exact (Below.refl _ _).alloc (Nat.le_refl _) _
  refine ⟨⟨by rw [← hW]; exact lstG_lit W _ _ [exT u l, exT v m] rfl 2 rfl, fun x hx => ?_⟩, b⟩
  simp at hx
  rcases hx with rfl | rfl
  · exact ok_ex (h1.below b) l1 o1
  · exact ok_ex (h2.below b) l2 o2
theorem ex_okS : OkS exA ∧ OkS exB ∧ OkS exC ∧ OkS exY ∧ OkS exZ := by unfold OkS exA exB exC exY exZ; decide
theorem short_ex {u v : Value} {l m : List Cl} (h1 : l.length ≤ 1000000) (h2 : m.length ≤ 1000000) : ∀ x ∈ [exT u l, exT v m], x.2.2.2.2.2.length ≤ 1000000 := by
  intro x hx
  simp at hx
  rcases hx with rfl | rfl
  · exact h1
  · exact h2
set_option maxRecDepth 100000 in
set_option maxHeartbeats 4000000 in
theorem ex_any (w : World) : Calls Try.prog 12 #[] w fun e w' => e = .returned (.bool true) ∧ Below w.heap.size w w' := by
  obtain ⟨w1, hw1⟩ : ∃ x, w.alloc (.cells #[.int .i64 0, .int .i64 0, .int .i64 0, .bool true, .bool false, .int .i64 1, .int .i64 200, .int .i64 200, .bool false, .bool true] 51 (0, 0)) = x := ⟨_, rfl⟩
  have bw1 : Below w.heap.size w w1 := by rw [← hw1]; exact (Below.refl _ _).alloc (Nat.le_refl _) _
  have exA_w1 : Hid (LstC w1 (.slice (some ⟨w.heap.size, 0, none⟩) 2 2) exA) := by show LstC _ _ _; rw [← hw1]; exact lstG_lit w _ _ exA rfl 2 rfl
  have Bw1 : Hid (Below w.heap.size w w1) := bw1
  obtain ⟨w2, hw2⟩ : ∃ x, w1.alloc (.cells #[.int .i64 1, .int .i64 200, .int .i64 200, .bool true, .bool false, .int .i64 2, .int .i64 300, .int .i64 300, .bool false, .bool true] 51 (0, 0)) = x := ⟨_, rfl⟩
  have bw2 : Below w1.heap.size w1 w2 := by rw [← hw2]; exact (Below.refl _ _).alloc (Nat.le_refl _) _
  have exB_w2 : Hid (LstC w2 (.slice (some ⟨w1.heap.size, 0, none⟩) 2 2) exB) := by show LstC _ _ _; rw [← hw2]; exact lstG_lit w1 _ _ exB rfl 2 rfl
  have exA_w2 := Lib.hid (exA_w1.out.below bw2)
  have Bw2 : Hid (Below w.heap.size w w2) := Bw1.out.trans (bw2.mono Bw1.out.size)
  obtain ⟨w3, hw3⟩ : ∃ x, w2.alloc (.cells #[.int .i64 1, .int .i64 199, .int .i64 199, .bool true, .bool false, .int .i64 2, .int .i64 300, .int .i64 300, .bool false, .bool true] 51 (0, 0)) = x := ⟨_, rfl⟩
  have bw3 : Below w2.heap.size w2 w3 := by rw [← hw3]; exact (Below.refl _ _).alloc (Nat.le_refl _) _
  have exC_w3 : Hid (LstC w3 (.slice (some ⟨w2.heap.size, 0, none⟩) 2 2) exC) := by show LstC _ _ _; rw [← hw3]; exact lstG_lit w2 _ _ exC rfl 2 rfl
  have exA_w3 := Lib.hid (exA_w2.out.below bw3)
  have exB_w3 := Lib.hid (exB_w2.out.below bw3)
  have Bw3 : Hid (Below w.heap.size w w3) := Bw2.out.trans (bw3.mono Bw2.out.size)
  obtain ⟨w4, hw4⟩ : ∃ x, w3.alloc (.cells #[.int .i64 0, .int .i64 1] 54 (0, 0)) = x := ⟨_, rfl⟩
  have bw4 : Below w3.heap.size w3 w4 := by rw [← hw4]; exact (Below.refl _ _).alloc (Nat.le_refl _) _
  have exL_w4 : Hid (LstH w4 (.slice (some ⟨w3.heap.size, 0, none⟩) 1 1) exL) := by show LstH _ _ _; rw [← hw4]; exact lstG_lit w3 _ _ exL rfl 1 rfl
  have exA_w4 := Lib.hid (exA_w3.out.below bw4)
  have exB_w4 := Lib.hid (exB_w3.out.below bw4)
  have exC_w4 := Lib.hid (exC_w3.out.below bw4)
  have Bw4 : Hid (Below w.heap.size w w4) := Bw3.out.trans (bw4.mono Bw3.out.size)
  obtain ⟨w5, hw5⟩ : ∃ x, w4.alloc (.cells #[.string ⟨#[]⟩, .int .i64 0, .int .i64 0, .bool false, .slice (some ⟨w.heap.size, 0, none⟩) 2 2, .string ⟨#[]⟩, .int .i64 0, .int .i64 0, .bool false, .slice (some ⟨w1.heap.size, 0, none⟩) 2 2] 49 (0, 0)) = x := ⟨_, rfl⟩
  obtain ⟨tw5, bw5⟩ := trips_lit exA_w4.out exB_w4.out (by decide) (by decide) ex_okS.1 ex_okS.2.1 hw5
  have exA_w5 := Lib.hid (exA_w4.out.below bw5)
  have exB_w5 := Lib.hid (exB_w4.out.below bw5)
  have exC_w5 := Lib.hid (exC_w4.out.below bw5)
  have exL_w5 := Lib.hid (exL_w4.out.below bw5)
  have Bw5 : Hid (Below w.heap.size w w5) := Bw4.out.trans (bw5.mono Bw4.out.size)
  have Cw5 := Lib.hid (kchkh_any (.slice (some ⟨w3.heap.size, 0, none⟩) 1 1) exL (by decide) ex_64.1 (.slice (some ⟨w4.heap.size, 0, none⟩) 2 2) [exT (.slice (some ⟨w.heap.size, 0, none⟩) 2 2) exA, exT (.slice (some ⟨w1.heap.size, 0, none⟩) 2 2) exB] (short_ex (by decide) (by decide)) (.slice none 0 0) [] (by decide) w5 exL_w5.out tw5 (LstG.nil _ _))
  rw [show [exT (.slice (some ⟨w.heap.size, 0, none⟩) 2 2) exA, exT (.slice (some ⟨w1.heap.size, 0, none⟩) 2 2) exB].map tcT = [(0, exA), (0, exB)] from rfl, ex_one] at Cw5
  go_enter Try.func12, Try.ntmps12
  go_wp2_with fail
  refine Cw5.out.mono ?_
  rintro e w6 ⟨rfl, bw6⟩
  have exA_w6 := Lib.hid (exA_w5.out.below bw6)
  have exB_w6 := Lib.hid (exB_w5.out.below bw6)
  have exC_w6 := Lib.hid (exC_w5.out.below bw6)
  have exL_w6 := Lib.hid (exL_w5.out.below bw6)
  have Bw6 : Hid (Below w.heap.size w w6) := Bw5.out.trans (bw6.mono Bw5.out.size)
  clear hw1 hw2 hw3 hw4 hw5 Cw5 tw5
  obtain ⟨w7, hw7⟩ : ∃ x, w6.alloc (.cells #[.string ⟨#[]⟩, .int .i64 0, .int .i64 0, .bool false, .slice (some ⟨w.heap.size, 0, none⟩) 2 2, .string ⟨#[]⟩, .int .i64 0, .int .i64 0, .bool false, .slice (some ⟨w2.heap.size, 0, none⟩) 2 2] 49 (0, 0)) = x := ⟨_, rfl⟩
  obtain ⟨tw7, bw7⟩ := trips_lit exA_w6.out exC_w6.out (by decide) (by decide) ex_okS.1 ex_okS.2.2.1 hw7
  have exA_w7 := Lib.hid (exA_w6.out.below bw7)
  have exB_w7 := Lib.hid (exB_w6.out.below bw7)
  have exC_w7 := Lib.hid (exC_w6.out.below bw7)
  have exL_w7 := Lib.hid (exL_w6.out.below bw7)
  have Bw7 : Hid (Below w.heap.size w w7) := Bw6.out.trans (bw7.mono Bw6.out.size)
  have Cw7 := Lib.hid (kchkh_any (.slice (some ⟨w3.heap.size, 0, none⟩) 1 1) exL (by decide) ex_64.1 (.slice (some ⟨w6.heap.size, 0, none⟩) 2 2) [exT (.slice (some ⟨w.heap.size, 0, none⟩) 2 2) exA, exT (.slice (some ⟨w2.heap.size, 0, none⟩) 2 2) exC] (short_ex (by decide) (by decide)) (.slice none 0 0) [] (by decide) w7 exL_w7.out tw7 (LstG.nil _ _))
  rw [show [exT (.slice (some ⟨w.heap.size, 0, none⟩) 2 2) exA, exT (.slice (some ⟨w2.heap.size, 0, none⟩) 2 2) exC].map tcT = [(0, exA), (0, exC)] from rfl, ex_two] at Cw7
  go_wp2_with fail
  refine Cw7.out.mono ?_
  rintro e w8 ⟨rfl, bw8⟩
  have exA_w8 := Lib.hid (exA_w7.out.below bw8)
  have exB_w8 := Lib.hid (exB_w7.out.below bw8)
  have exC_w8 := Lib.hid (exC_w7.out.below bw8)
  have exL_w8 := Lib.hid (exL_w7.out.below bw8)
  have Bw8 : Hid (Below w.heap.size w w8) := Bw7.out.trans (bw8.mono Bw7.out.size)
  clear hw7 Cw7 tw7
  obtain ⟨w9, hw9⟩ : ∃ x, w8.alloc (.cells #[.int .i64 0, .int .i64 0, .int .i64 0, .bool false, .bool false, .int .i64 1, .int .i64 0, .int .i64 0, .bool false, .bool false] 51 (0, 0)) = x := ⟨_, rfl⟩
  have bw9 : Below w8.heap.size w8 w9 := by rw [← hw9]; exact (Below.refl _ _).alloc (Nat.le_refl _) _
  have exY_w9 : Hid (LstC w9 (.slice (some ⟨w8.heap.size, 0, none⟩) 2 2) exY) := by show LstC _ _ _; rw [← hw9]; exact lstG_lit w8 _ _ exY rfl 2 rfl
  have exA_w9 := Lib.hid (exA_w8.out.below bw9)
  have exB_w9 := Lib.hid (exB_w8.out.below bw9)
  have exC_w9 := Lib.hid (exC_w8.out.below bw9)
  have exL_w9 := Lib.hid (exL_w8.out.below bw9)
  have Bw9 : Hid (Below w.heap.size w w9) := Bw8.out.trans (bw9.mono Bw8.out.size)
  obtain ⟨w10, hw10⟩ : ∃ x, w9.alloc (.cells #[.int .i64 1, .int .i64 0, .int .i64 0, .bool false, .bool false, .int .i64 0, .int .i64 0, .int .i64 0, .bool false, .bool false] 51 (0, 0)) = x := ⟨_, rfl⟩
  have bw10 : Below w9.heap.size w9 w10 := by rw [← hw10]; exact (Below.refl _ _).alloc (Nat.le_refl _) _
  have exZ_w10 : Hid (LstC w10 (.slice (some ⟨w9.heap.size, 0, none⟩) 2 2) exZ) := by show LstC _ _ _; rw [← hw10]; exact lstG_lit w9 _ _ exZ rfl 2 rfl
  have exA_w10 := Lib.hid (exA_w9.out.below bw10)
  have exB_w10 := Lib.hid (exB_w9.out.below bw10)
  have exC_w10 := Lib.hid (exC_w9.out.below bw10)
  have exL_w10 := Lib.hid (exL_w9.out.below bw10)
  have exY_w10 := Lib.hid (exY_w9.out.below bw10)
  have Bw10 : Hid (Below w.heap.size w w10) := Bw9.out.trans (bw10.mono Bw9.out.size)
  obtain ⟨w11, hw11⟩ : ∃ x, w10.alloc (.cells #[.string ⟨#[]⟩, .int .i64 0, .int .i64 0, .bool false, .slice (some ⟨w8.heap.size, 0, none⟩) 2 2, .string ⟨#[]⟩, .int .i64 0, .int .i64 0, .bool false, .slice (some ⟨w9.heap.size, 0, none⟩) 2 2] 49 (0, 0)) = x := ⟨_, rfl⟩
  obtain ⟨tw11, bw11⟩ := trips_lit exY_w10.out exZ_w10.out (by decide) (by decide) ex_okS.2.2.2.1 ex_okS.2.2.2.2 hw11
  have exA_w11 := Lib.hid (exA_w10.out.below bw11)
  have exB_w11 := Lib.hid (exB_w10.out.below bw11)
  have exC_w11 := Lib.hid (exC_w10.out.below bw11)
  have exL_w11 := Lib.hid (exL_w10.out.below bw11)
  have exY_w11 := Lib.hid (exY_w10.out.below bw11)
  have exZ_w11 := Lib.hid (exZ_w10.out.below bw11)
  have Bw11 : Hid (Below w.heap.size w w11) := Bw10.out.trans (bw11.mono Bw10.out.size)
  have Tw11 := Lib.hid tw11
  obtain ⟨w12, hw12⟩ : ∃ x, w11.alloc (.cells #[.int .i64 0, .int .i64 1, .int .i64 1, .int .i64 0] 54 (0, 0)) = x := ⟨_, rfl⟩
  have bw12 : Below w11.heap.size w11 w12 := by rw [← hw12]; exact (Below.refl _ _).alloc (Nat.le_refl _) _
  have exM_w12 : Hid (LstH w12 (.slice (some ⟨w11.heap.size, 0, none⟩) 2 2) exM) := by show LstH _ _ _; rw [← hw12]; exact lstG_lit w11 _ _ exM rfl 2 rfl
  have exA_w12 := Lib.hid (exA_w11.out.below bw12)
  have exB_w12 := Lib.hid (exB_w11.out.below bw12)
  have exC_w12 := Lib.hid (exC_w11.out.below bw12)
  have exL_w12 := Lib.hid (exL_w11.out.below bw12)
  have exY_w12 := Lib.hid (exY_w11.out.below bw12)
  have exZ_w12 := Lib.hid (exZ_w11.out.below bw12)
  have Bw12 : Hid (Below w.heap.size w w12) := Bw11.out.trans (bw12.mono Bw11.out.size)
  have Cw12 := Lib.hid (kchkh_any (.slice (some ⟨w11.heap.size, 0, none⟩) 2 2) exM (by decide) ex_64.2 (.slice (some ⟨w10.heap.size, 0, none⟩) 2 2) [exT (.slice (some ⟨w8.heap.size, 0, none⟩) 2 2) exY, exT (.slice (some ⟨w9.heap.size, 0, none⟩) 2 2) exZ] (short_ex (by decide) (by decide)) (.slice none 0 0) [] (by decide) w12 exM_w12.out (Tw11.out.below bw12) (LstG.nil _ _))
  rw [show [exT (.slice (some ⟨w8.heap.size, 0, none⟩) 2 2) exY, exT (.slice (some ⟨w9.heap.size, 0, none⟩) 2 2) exZ].map tcT = [(0, exY), (0, exZ)] from rfl, ex_three] at Cw12
  go_wp2_with fail
  refine Cw12.out.mono ?_
  rintro e w13 ⟨rfl, bw13⟩
  have exA_w13 := Lib.hid (exA_w12.out.below bw13)
  have exB_w13 := Lib.hid (exB_w12.out.below bw13)
  have exC_w13 := Lib.hid (exC_w12.out.below bw13)
  have exL_w13 := Lib.hid (exL_w12.out.below bw13)
  have exY_w13 := Lib.hid (exY_w12.out.below bw13)
  have exZ_w13 := Lib.hid (exZ_w12.out.below bw13)
  have exM_w13 := Lib.hid (exM_w12.out.below bw13)
  have Bw13 : Hid (Below w.heap.size w w13) := Bw12.out.trans (bw13.mono Bw12.out.size)
  clear hw9 hw10 hw11 hw12 Cw12 tw11 Tw11
  have Cw13 := Lib.hid (kme_any (.slice (some ⟨w.heap.size, 0, none⟩) 2 2) (.slice (some ⟨w1.heap.size, 0, none⟩) 2 2) exA exB (by decide) (by decide) 1 w13 exA_w13.out exB_w13.out)
  rw [ex_meet] at Cw13
  go_wp2_with fail
  refine Cw13.out.mono ?_
  rintro e w14 ⟨rfl, bw14⟩
  have exA_w14 := Lib.hid (exA_w13.out.below bw14)
  have exB_w14 := Lib.hid (exB_w13.out.below bw14)
  have exC_w14 := Lib.hid (exC_w13.out.below bw14)
  have exL_w14 := Lib.hid (exL_w13.out.below bw14)
  have exY_w14 := Lib.hid (exY_w13.out.below bw14)
  have exZ_w14 := Lib.hid (exZ_w13.out.below bw14)
  have exM_w14 := Lib.hid (exM_w13.out.below bw14)
  have Bw14 : Hid (Below w.heap.size w w14) := Bw13.out.trans (bw14.mono Bw13.out.size)
  clear Cw13
  have Cw14 := Lib.hid (kchain_any (.slice (some ⟨w3.heap.size, 0, none⟩) 1 1) exL (by decide) ex_64.1 0 ix0 w14 exL_w14.out)
  rw [ex_chain] at Cw14
  go_wp2_with fail
  refine Cw14.out.mono ?_
  rintro e w15 ⟨u, rfl, ou, bw15⟩
  have Bw15 : Hid (Below w.heap.size w w15) := Bw14.out.trans (bw15.mono Bw14.out.size)
  have OU := Lib.hid (OwnI.lst ou)
  clear Cw14 bw15 ou
  obtain ⟨w16, hw16⟩ : ∃ x, w15.alloc (.cells #[.int .i64 0, .int .i64 1] 3 (0, 0)) = x := ⟨_, rfl⟩
  have bw16 : Below w15.heap.size w15 w16 := by rw [← hw16]; exact (Below.refl _ _).alloc (Nat.le_refl _) _
  have CS := Lib.hid (Calls.below (same_any u (.slice (some ⟨w15.heap.size, 0, none⟩) 2 2) [0, 1] [0, 1] (by decide) w16 (OU.out.below bw16) (by rw [← hw16]; exact lsti_lit w15 #[.int .i64 0, .int .i64 1] [0, 1] rfl 2 rfl)))
  rw [decide_eq_true (rfl : [(0 : Int), 1] = [0, 1])] at CS
  have Bw16 : Hid (Below w.heap.size w w16) := Bw15.out.trans (bw16.mono Bw15.out.size)
  go_wp2_with fail
  refine CS.out.mono ?_
  rintro e w17 ⟨rfl, bw17⟩
  have Bw17 : Hid (Below w.heap.size w w17) := Bw16.out.trans (bw17.mono Bw16.out.size)
  clear CS bw17
  go_wp2_with fail
  go_ret
  exact ⟨rfl, Bw17.out⟩
end Go.Proofs.Ytkballjadkhepaa
