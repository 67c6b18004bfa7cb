/-
  The laws' examples (exampleHolds) of package frequency: what the call answers; nothing that existed before the call has changed behind it. Condition: none.
-/
import Derived.Test.YtahnaidkobodaaaHzM
namespace Go.Proofs.Ytahnaidkobodaaa
open Go.RowKit

def exC : List Cl := [(1, 100, 160, true, false), (2, 400, 400, false, true)]
def exD : List Cl := [(1, 940, 1000, true, false), (2, 1240, 1240, false, true)]
def exF : List Fq := [(0, 200, 300, 50), (0, 299, 301, 50)]
def exG : List Fq := [(3, 0, 0, 0)]
theorem ex_sts : stsF (0, 21600, 25200, 1200) = [21600, 22800, 24000] := by decide +kernel
theorem ex_run : ansC exC 1000 = exD := by decide +kernel
theorem ex_ok : errC exC 1000 = 0 := by decide +kernel
theorem ex_err : errC exC 59 = 10 := by decide +kernel
theorem ex_chk : chkF [exC] exF = (1, 8) := by decide +kernel
theorem ex_rep : repF 3 exG = true := by decide +kernel
theorem ex_okS : OkS exC := by unfold OkS exC; decide
/-- The trip of the example. -/
def exT (v : Value) : Tp := ([], 0, 0, false, v, exC)
set_option maxRecDepth 100000 in
set_option maxHeartbeats 8000000 in
theorem ex_any (w : World) : Calls Try.prog 11 #[] w fun e w' => e = .returned (.bool true) ∧ Below w.heap.size w w' := by
  have C1 := Lib.hid (kstarts_any 0 21600 25200 1200 w)
  rw [ex_sts] at C1
  go_enter Try.func11, Try.ntmps11
  go_wp2_with fail
  refine C1.out.mono ?_
  rintro e w1 ⟨u1, rfl, o1, b1⟩
  obtain ⟨w2, hw2⟩ : ∃ x, w1.alloc (.cells #[.int .i64 1, .int .i64 100, .int .i64 160, .bool true, .bool false, .int .i64 2, .int .i64 400, .int .i64 400, .bool false, .bool true] 46 (0, 0)) = x := ⟨_, rfl⟩
  have b2 : Below w1.heap.size w1 w2 := by rw [← hw2]; exact (Below.refl _ _).alloc (Nat.le_refl _) _
  have l2 : LstC w2 (.slice (some ⟨w1.heap.size, 0, none⟩) 2 2) exC := by rw [← hw2]; exact lstG_lit w1 _ _ exC rfl 2 rfl
  obtain ⟨w3, hw3⟩ : ∃ x, w2.alloc (boxT ⟨#[]⟩ 0 0 false (.slice (some ⟨w1.heap.size, 0, none⟩) 2 2)) = x := ⟨_, rfl⟩
  obtain ⟨b3, p0, p1, p2, p3, p4, s3⟩ := box_tp hw3
  have r3 : w3.heap[w2.heap.size]? = some (boxT ⟨#[]⟩ 0 0 false (.slice (some ⟨w1.heap.size, 0, none⟩) 2 2)) := by rw [← hw3]; exact heap_alloc_new _ _
  have I3 : Hid (LstI w3 u1 [21600, 22800, 24000]) := ((OwnI.lst o1).below b2).below b3
  have B3 : Hid (Below w.heap.size w w3) := (b1.trans (b2.mono b1.size)).trans (b3.mono (b1.trans (b2.mono b1.size)).size)
  have L3 := Lib.hid (l2.below b3)
  have R3 := Lib.hid r3
  have S3 := Lib.hid s3
  have C3 := Lib.hid (kcalls_any ⟨#[]⟩ 0 0 false _ exC (by decide) ex_okS 1000 w3 L3.out)
  rw [ex_run, ex_ok] at C3
  have Z2 : Hid (w1.heap.size < w2.heap.size) := by rw [← hw2]; simp [Hid]
  clear o1 b1 b2 l2 b3 s3 r3 C1
  go_wp2_with fail
  refine C3.out.mono ?_
  rintro e w4 ⟨u4, rfl, o4, b4⟩
  have B4 : Hid (Below w.heap.size w w4) := B3.out.trans (b4.mono B3.out.size)
  have I4 := Lib.hid (I3.out.below b4)
  have L4 := Lib.hid (L3.out.below b4)
  have O4 := Lib.hid (OwnG.lst o4)
  have R4 : Hid (w4.heap[w2.heap.size]? = some (boxT ⟨#[]⟩ 0 0 false (.slice (some ⟨w1.heap.size, 0, none⟩) 2 2))) := (b4.block _ S3.out).trans R3.out
  have S4 : Hid (w2.heap.size < w4.heap.size) := Nat.lt_of_lt_of_le S3.out b4.size
  have C4 := Lib.hid (kcalls_any ⟨#[]⟩ 0 0 false _ exC (by decide) ex_okS 59 w4 L4.out)
  rw [ex_err] at C4
  clear o4 b4 C3 I3 L3 B3 R3 S3 p0 p1 p2 p3 p4 hw3 hw2
  obtain ⟨p0, p1, p2, p3, p4⟩ := row_tp R4.out
  go_wp2_with fail
  refine C4.out.mono ?_
  rintro e w5 ⟨u5, rfl, -, b5⟩
  have B5 : Hid (Below w.heap.size w w5) := B4.out.trans (b5.mono B4.out.size)
  have I5 := Lib.hid (I4.out.below b5)
  have L5 := Lib.hid (L4.out.below b5)
  have O5 := Lib.hid (O4.out.below b5)
  have R5 : Hid (w5.heap[w2.heap.size]? = some (boxT ⟨#[]⟩ 0 0 false (.slice (some ⟨w1.heap.size, 0, none⟩) 2 2))) := (b5.block _ S4.out).trans R4.out
  have S5 : Hid (w2.heap.size < w5.heap.size) := Nat.lt_of_lt_of_le S4.out b5.size
  clear b5 C4 I4 L4 O4 B4 R4 S4 p0 p1 p2 p3 p4
  obtain ⟨w6, hw6⟩ : ∃ x, w5.alloc (.cells #[.int .i64 0, .int .i64 200, .int .i64 300, .int .i64 50, .int .i64 0, .int .i64 299, .int .i64 301, .int .i64 50] 35 (0, 0)) = x := ⟨_, rfl⟩
  have b6 : Below w5.heap.size w5 w6 := by rw [← hw6]; exact (Below.refl _ _).alloc (Nat.le_refl _) _
  have l6 : LstF w6 (.slice (some ⟨w5.heap.size, 0, none⟩) 2 2) exF := by rw [← hw6]; exact lstG_lit w5 _ _ exF rfl 2 rfl
  obtain ⟨p0, p1, p2, p3, p4⟩ := row_tp R5.out
  obtain ⟨q0, q1, q2, q3, q4⟩ := row_tp ((b6.block _ S5.out).trans R5.out)
  obtain ⟨w7, hw7⟩ : ∃ x, w6.alloc (.cells #[.string ⟨#[]⟩, .int .i64 0, .int .i64 0, .bool false, .slice (some ⟨w1.heap.size, 0, none⟩) 2 2] 39 (0, 0)) = x := ⟨_, rfl⟩
  have b7 : Below w6.heap.size w6 w7 := by rw [← hw7]; exact (Below.refl _ _).alloc (Nat.le_refl _) _
  have l7 : LstT w7 (.slice (some ⟨w6.heap.size, 0, none⟩) 1 1) [exT (.slice (some ⟨w1.heap.size, 0, none⟩) 2 2)] := by rw [← hw7]; exact lstG_lit w6 _ _ [exT (.slice (some ⟨w1.heap.size, 0, none⟩) 2 2)] rfl 1 rfl
  have t7 : LstTp w7 (.slice (some ⟨w6.heap.size, 0, none⟩) 1 1) [exT (.slice (some ⟨w1.heap.size, 0, none⟩) 2 2)] := by
    refine ⟨l7, fun x hx => ?_⟩
    rw [List.mem_singleton.1 hx]
    exact ⟨(L5.out.below b6).below b7, show exC.length ≤ 9223372036854775807 by decide, ex_okS⟩
  have C7 := Lib.hid (kchk_any _ exF (by decide) _ _ (fun x hx => by rw [List.mem_singleton.1 hx]; exact show exC.length ≤ 1000000 by decide) w7 (l6.below b7) t7)
  rw [show [exT (.slice (some ⟨w1.heap.size, 0, none⟩) 2 2)].map clT = [exC] from rfl, ex_chk] at C7
  have B7 : Hid (Below w.heap.size w w7) := (B5.out.trans (b6.mono B5.out.size)).trans (b7.mono (B5.out.trans (b6.mono B5.out.size)).size)
  have I7 := Lib.hid ((I5.out.below b6).below b7)
  have O7 := Lib.hid ((O5.out.below b6).below b7)
  clear b6 l6 b7 l7 t7 I5 L5 O5 B5 R5 S5
  go_wp2_with fail
  refine C7.out.mono ?_
  rintro e w8 ⟨rfl, b8⟩
  have B8 : Hid (Below w.heap.size w w8) := B7.out.trans (b8.mono B7.out.size)
  have I8 := Lib.hid (I7.out.below b8)
  have O8 := Lib.hid (O7.out.below b8)
  clear b8 C7 I7 O7 B7 p0 p1 p2 p3 p4 q0 q1 q2 q3 q4 hw6 hw7
  obtain ⟨w9, hw9⟩ : ∃ x, w8.alloc (.cells #[.int .i64 21600, .int .i64 22800, .int .i64 24000] 3 (0, 0)) = x := ⟨_, rfl⟩
  have b9 : Below w8.heap.size w8 w9 := by rw [← hw9]; exact (Below.refl _ _).alloc (Nat.le_refl _) _
  have C9 := Lib.hid (Calls.below (same_any u1 (.slice (some ⟨w8.heap.size, 0, none⟩) 3 3) [21600, 22800, 24000] [21600, 22800, 24000] (by decide) w9 (I8.out.below b9) (by rw [← hw9]; exact lsti_lit w8 #[.int .i64 21600, .int .i64 22800, .int .i64 24000] [21600, 22800, 24000] rfl 3 rfl)))
  rw [decide_eq_true (rfl : [(21600 : Int), 22800, 24000] = [21600, 22800, 24000])] at C9
  have B9 : Hid (Below w.heap.size w w9) := B8.out.trans (b9.mono B8.out.size)
  have O9 := Lib.hid (O8.out.below b9)
  clear b9 I8 O8 B8
  go_wp2_with fail
  refine C9.out.mono ?_
  rintro e wa ⟨rfl, ba⟩
  have Ba : Hid (Below w.heap.size w wa) := B9.out.trans (ba.mono B9.out.size)
  obtain ⟨wb, hwb⟩ : ∃ x, wa.alloc (.cells #[.int .i64 1, .int .i64 940, .int .i64 1000, .bool true, .bool false, .int .i64 2, .int .i64 1240, .int .i64 1240, .bool false, .bool true] 46 (0, 0)) = x := ⟨_, rfl⟩
  have bb : Below wa.heap.size wa wb := by rw [← hwb]; exact (Below.refl _ _).alloc (Nat.le_refl _) _
  have Cb := Lib.hid (Calls.below (rsame_any u4 (.slice (some ⟨wa.heap.size, 0, none⟩) 2 2) exD exD (by decide) wb ((O9.out.below ba).below bb) (by rw [← hwb]; exact lstG_lit wa _ _ exD rfl 2 rfl)))
  rw [decide_eq_true (rfl : exD = exD)] at Cb
  have Bb : Hid (Below w.heap.size w wb) := Ba.out.trans (bb.mono Ba.out.size)
  clear ba bb C9 B9 O9 Ba hw9
  go_wp2_with fail
  refine Cb.out.mono ?_
  rintro e wc ⟨rfl, bc⟩
  have Bc : Hid (Below w.heap.size w wc) := Bb.out.trans (bc.mono Bb.out.size)
  obtain ⟨wd, hwd⟩ : ∃ x, wc.alloc (.cells #[.int .i64 3, .int .i64 0, .int .i64 0, .int .i64 0] 35 (0, 0)) = x := ⟨_, rfl⟩
  have bd : Below wc.heap.size wc wd := by rw [← hwd]; exact (Below.refl _ _).alloc (Nat.le_refl _) _
  have Cd := Lib.hid (krep_any (.slice (some ⟨wc.heap.size, 0, none⟩) 1 1) exG (by decide) 3 wd (by rw [← hwd]; exact lstG_lit wc _ _ exG rfl 1 rfl))
  rw [ex_rep] at Cd
  have Bd : Hid (Below w.heap.size w wd) := Bc.out.trans (bd.mono Bc.out.size)
  clear bc bd Cb Bb Bc hwb
  go_wp2_with fail
  refine Cd.out.mono ?_
  rintro e we ⟨rfl, be⟩
  have Be : Hid (Below w.heap.size w we) := Bd.out.trans (be.mono Bd.out.size)
  clear be Cd Bd hwd
  go_wp2_with fail
  go_ret
  exact ⟨rfl, Be.out⟩
end Go.Proofs.Ytahnaidkobodaaa
