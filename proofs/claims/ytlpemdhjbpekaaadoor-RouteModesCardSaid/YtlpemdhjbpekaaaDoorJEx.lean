/-
  The laws' examples (exampleHolds): what the call answers; nothing that existed before the call has changed behind it. Condition: the tables as their initialisers lay them.
-/
import Derived.Test.YtlpemdhjbpekaaaDoorJPrs
import Derived.Test.YtlpemdhjbpekaaaDoorJRef
import Derived.Test.YtlpemdhjbpekaaaDoorJRFm
namespace Go.Proofs.YtlpemdhjbpekaaaDoor
open Go.RowKit

def exL : List Rt := [([97], 3, false), ([98], 0, false), ([99], 3, false)]
theorem ex_fmt : fmtR 9 = ([98, 117, 115, 43, 114, 97, 105, 108], 0) := by decide +kernel
theorem ex_prs : prsR [114, 97, 105, 108, 43, 98, 117, 115] = -1 := by decide +kernel
theorem ex_none : prsR [110, 111, 110, 101] = 0 := by decide +kernel
theorem ex_fnd : fdT (isR [99]) exL = 2 := by decide +kernel
theorem ex_mod : modR exL = 9 := by decide +kernel
theorem ex_with : withR 8 exL = [0, 2] := by decide +kernel
theorem ex_nam : nmR 7 = [102, 117, 110, 105, 99, 117, 108, 97, 114] := rfl
theorem str_test {l : List UInt8} {z : ByteArray} (h : str l = z) : (z.toList == l) = true := by
  rw [← h, Lib.toList_data]
  show (l == l) = true
  simp
set_option maxRecDepth 100000 in
set_option maxHeartbeats 4000000 in
theorem ex_any (w : World) (hg : GoodR w) : Calls Tryd.prog 8 #[] w fun e w' => e = .returned (.bool true) ∧ Below w.heap.size w w' := by
  have F := Lib.hid (kfmt_any 9 (by decide) (by decide) w hg)
  rw [ex_fmt] at F
  obtain ⟨z, hz⟩ : ∃ z, str [98, 117, 115, 43, 114, 97, 105, 108] = z := ⟨_, rfl⟩
  simp only [hz] at F
  have tz := str_test hz
  have P := Lib.hid (fun W hW => kprs_any [114, 97, 105, 108, 43, 98, 117, 115] ⟨#[114, 97, 105, 108, 43, 98, 117, 115]⟩ rfl (by decide) W hW)
  rw [ex_prs, ansR_bad] at P
  have Q := Lib.hid (fun W hW => kprs_any [110, 111, 110, 101] ⟨#[110, 111, 110, 101]⟩ rfl (by decide) W hW)
  rw [ex_none, show ansR 0 = (0, 0) by rfl] at Q
  have N := Lib.hid (fun W hW => name_any 7 (by decide) W hW)
  rw [ex_nam] at N
  obtain ⟨y, hy⟩ : ∃ y, str [102, 117, 110, 105, 99, 117, 108, 97, 114] = y := ⟨_, rfl⟩
  simp only [hy] at N
  have ty := str_test hy
  have HG := Lib.hid hg
  clear hz hy hg
  go_enter Tryd.func8, Tryd.ntmps8
  go_wp2_with fail
  refine F.out.mono ?_
  rintro e w1 ⟨rfl, b1⟩
  have B1 := Lib.hid b1
  have G1 := Lib.hid (HG.out.below b1)
  clear b1 F HG
  go_wp2_with fail
  refine (P.out _ G1.out).mono ?_
  rintro e w' ⟨rfl, rfl⟩
  clear P
  go_wp2_with fail
  refine (Q.out _ G1.out).mono ?_
  rintro e w' ⟨rfl, rfl⟩
  clear Q
  obtain ⟨w2, hw2⟩ : ∃ x, w1.alloc (.cells #[.string ⟨#[97]⟩, .int .i64 3, .bool false, .string ⟨#[98]⟩, .int .i64 0, .bool false, .string ⟨#[99]⟩, .int .i64 3, .bool false] 50 (0, 0)) = x := ⟨_, rfl⟩
  have b12 : Below w1.heap.size w1 w2 := by rw [← hw2]; exact (Below.refl _ _).alloc (Nat.le_refl _) _
  have B2 : Hid (Below w.heap.size w w2) := B1.out.trans (b12.mono B1.out.size)
  have G2 := Lib.hid (G1.out.below b12)
  have L2 : Hid (LstR w2 (.slice (some ⟨w1.heap.size, 0, none⟩) 3 3) exL) := by
    show LstR _ _ _
    rw [← hw2]
    exact lstG_lit w1 _ _ exL rfl 3 rfl
  clear b12 B1 G1
  go_wp2_with fail
  refine (kfind_any _ exL (by decide) [99] ⟨#[99]⟩ rfl w2 L2.out).mono ?_
  rw [ex_fnd, show max (2 : Int) 0 = 2 by rfl, show decide ((0 : Int) ≤ 2) = true by rfl]
  rintro e w3 ⟨rfl, b3⟩
  have B3 : Hid (Below w.heap.size w w3) := B2.out.trans (b3.mono B2.out.size)
  have L3 := Lib.hid (L2.out.below b3)
  have G3 := Lib.hid (G2.out.below b3)
  clear b3 B2 L2 G2 hw2
  go_wp2_with fail
  refine (N.out _ G3.out).mono ?_
  rintro e w' ⟨rfl, rfl⟩
  clear N G3
  go_wp2_with fail
  refine (kmodes_any _ exL (by decide) w3 L3.out).mono ?_
  rw [ex_mod, show ((9 : Nat) : Int) = 9 by rfl]
  rintro e w4 ⟨rfl, b4⟩
  have B4 : Hid (Below w.heap.size w w4) := B3.out.trans (b4.mono B3.out.size)
  have L4 := Lib.hid (L3.out.below b4)
  clear b4 B3 L3
  go_wp2_with fail
  refine (kwith_any _ exL (by decide) 8 w4 L4.out).mono ?_
  rw [ex_with]
  rintro e w5 ⟨u5, rfl, o5, b5⟩
  have B5 : Hid (Below w.heap.size w w5) := B4.out.trans (b5.mono B4.out.size)
  have I5 : Hid (LstI w5 u5 [0, 2]) := OwnI.lst o5
  clear b5 B4 L4 o5
  obtain ⟨w6, hw6⟩ : ∃ x, w5.alloc (.cells #[.int .i64 0, .int .i64 2] 3 (0, 0)) = x := ⟨_, rfl⟩
  have b6 : Below w5.heap.size w5 w6 := by rw [← hw6]; exact (Below.refl _ _).alloc (Nat.le_refl _) _
  have B6 : Hid (Below w.heap.size w w6) := B5.out.trans (b6.mono B5.out.size)
  have S1 := Lib.hid (Calls.below (same_any u5 (.slice (some ⟨w5.heap.size, 0, none⟩) 2 2) [0, 2] [0, 2] (by decide) w6 (I5.out.below b6) (by rw [← hw6]; exact lsti_lit w5 #[.int .i64 0, .int .i64 2] [0, 2] rfl 2 rfl)))
  clear b6 B5 I5
  go_wp2_with fail
  refine S1.out.mono ?_
  rintro e w7 ⟨rfl, b7⟩
  have B7 : Hid (Below w.heap.size w w7) := B6.out.trans (b7.mono B6.out.size)
  clear b7 B6 S1 hw6
  go_wp2_with fail
  go_ret
  exact ⟨rfl, B7.out⟩
end Go.Proofs.YtlpemdhjbpekaaaDoor
