/-
  The laws' helper exampleHolds: it answers true; nothing that existed before the call has changed behind it. Condition: none.
-/
import Derived.Test.YtlbockpaeacigaaYEx
import Derived.Test.YtlbockpaeacigaaYDys
import Derived.Test.YtlbockpaeacigaaYChk
import Derived.Test.YtlbockpaeacigaaYCx
namespace Go.Proofs.Ytlbockpaeacigaa
open Go.RowKit

theorem ex_act14 (d : Int) (h : 14 ≤ d) (h2 : d ≤ 36524) : actT [exC] exX 0 d = false := by
  unfold actT
  rw [show (0 : Int) = ((0 : Nat) : Int) from rfl, rsn_at (l := [exC]) (n := 0) rfl ⟨by omega, h2⟩]
  have : addF ((0 : Nat) : Int) d exX = none := by
    unfold exX addF
    rw [if_neg (by simp; omega)]
    unfold addF
    rw [if_neg (by simp; omega)]
    rfl
  rw [this, why_out (.inr (by show (13 : Int) < d; omega))]
  rfl
theorem ex_next0 : nxtT (actT [exC] exX 0) 0 = (3, true) := by
  rw [nxt_start]
  show nxtF _ 0 36525 = _
  rw [nxtF_no (by decide), nxtF_no (by decide), nxtF_no (by decide), nxtF_yes (by decide)]
  rfl
theorem ex_next14 : nxtT (actT [exC] exX 0) 14 = (0, false) := by
  rw [nxt_start]
  show nxtF _ 14 (36511 + 0) = _
  rw [nxtF_skip 36511 14 0 (fun j hj => ex_act14 _ (by omega) (by omega))]
  rfl
theorem ex_prev8 : prvT (actT [exC] exX 0) 8 = (7, true) := by
  rw [prv_start]
  show prvF _ 8 (8 + 1) = _
  rw [prvF_no (by decide)]
  show prvF _ 7 (7 + 1) = _
  rw [prvF_yes (by decide)]
theorem ex_days : daysT (actT [exC] exX 0) 0 7 = [3, 4, 5, 6, 7] := by decide
theorem ex_chk : chkC [exC, exC] = (1, 6) := by decide
theorem ex_cx : chkX 1 [(0, 1, false), (1, 0, false)] = (1, 9) := by decide
theorem ex_r2 : rsnT [exC] exX 0 2 = 3 := by decide
theorem ex_r3 : rsnT [exC] exX 0 3 = 1 := by decide
theorem ex_r8 : rsnT [exC] exX 0 8 = 4 := by decide
theorem ex_r7 : rsnT [exC] exX 0 7 = 2 := by decide
theorem ex_r14 : rsnT [exC] exX 0 14 = 5 := by decide
theorem ex_r1 : rsnT [exC] exX 1 2 = 0 := by decide
theorem ex_rm : rsnT [exC] exX 0 (-1) = 0 := by decide
theorem ex_a7 : actT [exC] exX 0 7 = true := by decide
theorem ex_a2 : actT [exC] exX 0 2 = false := by decide
theorem kal {W : World} {a : Addr} {v : Value} (h : W.cell? a = some v) (o : Obj) : (W.alloc o).cell? a = some v :=
  (((Below.refl W.heap.size W).alloc (Nat.le_refl _) o).cell (p := a) (World.block_lt_of_cell? _ _ h)).trans h
/-- The example's calendar, laid twice. -/
abbrev twoC : Array Value := #[.string { data := #[119, 111, 114, 107] }, .bool true, .bool true, .bool true, .bool true, .bool true, .bool false, .bool false, .int .i64 0, .int .i64 13, .string { data := #[119, 111, 114, 107] }, .bool true, .bool true, .bool true, .bool true, .bool true, .bool false, .bool false, .int .i64 0, .int .i64 13]
theorem ex_two (X w : World) (hb : Below (X.alloc (.cells twoC 50 (0, 0))).heap.size (X.alloc (.cells twoC 50 (0, 0))) w) : Calls Try.prog 13 #[.slice (some ⟨X.heap.size, 0, none⟩) 2 2] w fun e w' => e = .returned (.tuple #[.int .i64 1, .int .i64 6]) ∧ Below w.heap.size w w' := by
  have h := kcheck_any (.slice (some ⟨X.heap.size, 0, none⟩) 2 2) [exC, exC] (by decide) (fun j x hx => by
    have hm := List.mem_of_getElem? hx
    simp at hm
    rw [hm]
    decide) w (LstG.below (litG_at (enc := ce) X twoC 50 [exC, exC] rfl 2 rfl _ rfl) hb)
  rw [ex_chk] at h
  exact h
theorem ex_two2 (X w : World) (hb : Below (X.alloc (.cells #[.int .i64 0, .int .i64 1, .bool false, .int .i64 1, .int .i64 0, .bool false] 53 (0, 0))).heap.size (X.alloc (.cells #[.int .i64 0, .int .i64 1, .bool false, .int .i64 1, .int .i64 0, .bool false] 53 (0, 0))) w) : Calls Try.prog 15 #[.slice (some ⟨X.heap.size, 0, none⟩) 2 2, .int .i64 1] w fun e w' => e = .returned (.tuple #[.int .i64 1, .int .i64 9]) ∧ Below w.heap.size w w' := by
  have h := kcx_any (.slice (some ⟨X.heap.size, 0, none⟩) 2 2) [(0, 1, false), (1, 0, false)] 1 (by decide) (fun j x hx => by
    have hm := List.mem_of_getElem? hx
    simp at hm
    rcases hm with rfl | rfl <;> (unfold Pl64 plX; decide)) w (LstG.below (litG_at (enc := xe) X _ 53 [(0, 1, false), (1, 0, false)] rfl 2 rfl _ rfl) hb)
  rw [ex_cx] at h
  exact h
theorem ex_same (u : Value) (base : Nat) (X w : World) (o : OwnI X base u [3, 4, 5, 6, 7]) (hb : Below (X.alloc (.cells #[.int .i64 3, .int .i64 4, .int .i64 5, .int .i64 6, .int .i64 7] 3 (0, 0))).heap.size (X.alloc (.cells #[.int .i64 3, .int .i64 4, .int .i64 5, .int .i64 6, .int .i64 7] 3 (0, 0))) w) : Calls Try.prog 22 #[u, .slice (some ⟨X.heap.size, 0, none⟩) 5 5] w fun e w' => e = .returned (.bool true) ∧ Below w.heap.size w w' := by
  have hl : LstI X u [3, 4, 5, 6, 7] := OwnI.lst o
  have h := Calls.below (same_any u (.slice (some ⟨X.heap.size, 0, none⟩) 5 5) [3, 4, 5, 6, 7] [3, 4, 5, 6, 7] (by decide) w (LstI.below (LstI.below hl ((Below.refl _ _).alloc (Nat.le_refl _) _)) hb) (LstI.below (lsti_lit X #[.int .i64 3, .int .i64 4, .int .i64 5, .int .i64 6, .int .i64 7] [3, 4, 5, 6, 7] rfl 5 rfl) hb))
  rw [decide_eq_true (rfl : ([3, 4, 5, 6, 7] : List Int) = [3, 4, 5, 6, 7])] at h
  exact h
section
variable (lv xv : Value) (w : World) (h1 : LstC w lv [exC]) (h2 : LstX w xv exX)
include h1 h2
theorem xn0 : Calls Try.prog 25 #[lv, xv, .int .i64 0, .int .i64 0] w fun e w' => e = .returned (.tuple #[.int .i64 3, .bool true]) ∧ Below w.heap.size w w' := by
  have h := next_any lv xv [exC] exX (by decide) 0 0 w h1 h2
  rw [ex_next0] at h
  exact h
theorem xn14 : Calls Try.prog 25 #[lv, xv, .int .i64 0, .int .i64 14] w fun e w' => e = .returned (.tuple #[.int .i64 0, .bool false]) ∧ Below w.heap.size w w' := by
  have h := next_any lv xv [exC] exX (by decide) 0 14 w h1 h2
  rw [ex_next14] at h
  exact h
theorem xp8 : Calls Try.prog 27 #[lv, xv, .int .i64 0, .int .i64 8] w fun e w' => e = .returned (.tuple #[.int .i64 7, .bool true]) ∧ Below w.heap.size w w' := by
  have h := prev_any lv xv [exC] exX (by decide) 0 8 w h1 h2
  rw [ex_prev8] at h
  exact h
theorem xr2 : Calls Try.prog 18 #[lv, xv, .int .i64 0, .int .i64 2] w fun e w' => e = .returned (.int .i64 3) ∧ Below w.heap.size w w' := by
  have h := reason_any lv xv [exC] exX (by decide) 0 2 w h1 h2
  rw [ex_r2] at h
  exact h
theorem xr3 : Calls Try.prog 18 #[lv, xv, .int .i64 0, .int .i64 3] w fun e w' => e = .returned (.int .i64 1) ∧ Below w.heap.size w w' := by
  have h := reason_any lv xv [exC] exX (by decide) 0 3 w h1 h2
  rw [ex_r3] at h
  exact h
theorem xr8 : Calls Try.prog 18 #[lv, xv, .int .i64 0, .int .i64 8] w fun e w' => e = .returned (.int .i64 4) ∧ Below w.heap.size w w' := by
  have h := reason_any lv xv [exC] exX (by decide) 0 8 w h1 h2
  rw [ex_r8] at h
  exact h
theorem xr7 : Calls Try.prog 18 #[lv, xv, .int .i64 0, .int .i64 7] w fun e w' => e = .returned (.int .i64 2) ∧ Below w.heap.size w w' := by
  have h := reason_any lv xv [exC] exX (by decide) 0 7 w h1 h2
  rw [ex_r7] at h
  exact h
theorem xr14 : Calls Try.prog 18 #[lv, xv, .int .i64 0, .int .i64 14] w fun e w' => e = .returned (.int .i64 5) ∧ Below w.heap.size w w' := by
  have h := reason_any lv xv [exC] exX (by decide) 0 14 w h1 h2
  rw [ex_r14] at h
  exact h
theorem xr1 : Calls Try.prog 18 #[lv, xv, .int .i64 1, .int .i64 2] w fun e w' => e = .returned (.int .i64 0) ∧ Below w.heap.size w w' := by
  have h := reason_any lv xv [exC] exX (by decide) 1 2 w h1 h2
  rw [ex_r1] at h
  exact h
theorem xrm : Calls Try.prog 18 #[lv, xv, .int .i64 0, .int .i64 (-1)] w fun e w' => e = .returned (.int .i64 0) ∧ Below w.heap.size w w' := by
  have h := reason_any lv xv [exC] exX (by decide) 0 (-1) w h1 h2
  rw [ex_rm] at h
  exact h
theorem xa7 : Calls Try.prog 20 #[lv, xv, .int .i64 0, .int .i64 7] w fun e w' => e = .returned (.bool true) ∧ Below w.heap.size w w' := by
  have h := active_any lv xv [exC] exX (by decide) 0 7 w h1 h2
  rw [ex_a7] at h
  exact h
theorem xa2 : Calls Try.prog 20 #[lv, xv, .int .i64 0, .int .i64 2] w fun e w' => e = .returned (.bool false) ∧ Below w.heap.size w w' := by
  have h := active_any lv xv [exC] exX (by decide) 0 2 w h1 h2
  rw [ex_a2] at h
  exact h
theorem xdys : Calls Try.prog 23 #[lv, xv, .int .i64 0, .int .i64 0, .int .i64 7] w fun e w' => ∃ u, e = .returned u ∧ OwnI w' w.heap.size u [3, 4, 5, 6, 7] ∧ Below w.heap.size w w' := by
  have h := days_any lv xv [exC] exX (by decide) 0 0 7 w h1 h2
  rw [ex_days] at h
  exact h
end
set_option maxRecDepth 100000 in
set_option maxHeartbeats 8000000 in
theorem ex_any (w : World) : Calls Try.prog 12 #[] w fun e w' => e = .returned (.bool true) ∧ Below w.heap.size w w' := by
  go_enter Try.func12, Try.ntmps12
  go_wp2_with fail
  refine (exam_any _).mono ?_
  rintro e w1 ⟨a, b, rfl, hc, hx, b1⟩
  have HC := Lib.hid hc
  have HX := Lib.hid hx
  have B1 := Lib.hid b1
  have K1 := Lib.hid (Below.refl w1.heap.size w1)
  clear hc hx b1
  go_wp2_with fail
  refine (xn0 _ _ _ (HC.out.below K1.out) (HX.out.below K1.out)).mono ?_
  rintro e w2 ⟨rfl, b⟩
  have K2 := Lib.hid (K1.out.trans (b.mono K1.out.size))
  clear b K1
  go_wp2_with fail
  refine (xp8 _ _ _ (HC.out.below K2.out) (HX.out.below K2.out)).mono ?_
  rintro e w3 ⟨rfl, b⟩
  have K3 := Lib.hid (K2.out.trans (b.mono K2.out.size))
  clear b K2
  go_wp2_with fail
  refine (xn14 _ _ _ (HC.out.below K3.out) (HX.out.below K3.out)).mono ?_
  rintro e w4 ⟨rfl, b⟩
  have K4 := Lib.hid (K3.out.trans (b.mono K3.out.size))
  clear b K3
  have m0 : w4.cell? ⟨a, 0, none⟩ = some (.string { data := #[119, 111, 114, 107] }) := LstG.reads (HC.out.below K4.out) 0 _ rfl
  have m1 : w4.cell? ⟨a, 1, none⟩ = some (.bool true) := LstG.reads (HC.out.below K4.out) 1 _ rfl
  have m2 : w4.cell? ⟨a, 2, none⟩ = some (.bool true) := LstG.reads (HC.out.below K4.out) 2 _ rfl
  have m3 : w4.cell? ⟨a, 3, none⟩ = some (.bool true) := LstG.reads (HC.out.below K4.out) 3 _ rfl
  have m4 : w4.cell? ⟨a, 4, none⟩ = some (.bool true) := LstG.reads (HC.out.below K4.out) 4 _ rfl
  have m5 : w4.cell? ⟨a, 5, none⟩ = some (.bool true) := LstG.reads (HC.out.below K4.out) 5 _ rfl
  have m6 : w4.cell? ⟨a, 6, none⟩ = some (.bool false) := LstG.reads (HC.out.below K4.out) 6 _ rfl
  have m7 : w4.cell? ⟨a, 7, none⟩ = some (.bool false) := LstG.reads (HC.out.below K4.out) 7 _ rfl
  have m8 : w4.cell? ⟨a, 8, none⟩ = some (.int .i64 0) := LstG.reads (HC.out.below K4.out) 8 _ rfl
  have m9 : w4.cell? ⟨a, 9, none⟩ = some (.int .i64 13) := LstG.reads (HC.out.below K4.out) 9 _ rfl
  have hz4 := K4.out.size
  have z4 : a < w4.heap.size := World.block_lt_of_cell? _ _ m0
  go_wp2_with fail
  go_region_held3 (fun W => W.cell? ⟨a, 0, none⟩ = some (.string { data := #[119, 111, 114, 107] }) ∧ W.cell? ⟨a, 1, none⟩ = some (.bool true) ∧ W.cell? ⟨a, 2, none⟩ = some (.bool true) ∧ W.cell? ⟨a, 3, none⟩ = some (.bool true) ∧ W.cell? ⟨a, 4, none⟩ = some (.bool true) ∧ W.cell? ⟨a, 5, none⟩ = some (.bool true) ∧ W.cell? ⟨a, 6, none⟩ = some (.bool false) ∧ W.cell? ⟨a, 7, none⟩ = some (.bool false) ∧ W.cell? ⟨a, 8, none⟩ = some (.int .i64 0) ∧ W.cell? ⟨a, 9, none⟩ = some (.int .i64 13)) (first | assumption | (exact ⟨by assumption, by assumption, by assumption, by assumption, by assumption, by assumption, by assumption, by assumption, by assumption, by assumption⟩) | (exact ⟨kal (by assumption) _, kal (by assumption) _, kal (by assumption) _, kal (by assumption) _, kal (by assumption) _, kal (by assumption) _, kal (by assumption) _, kal (by assumption) _, kal (by assumption) _, kal (by assumption) _⟩)) (first | (go_at_call 13; refine (ex_two w4 _ (by first | assumption | exact Below.refl _ _ | exact (Below.refl _ _).drew | (apply Below.drew; assumption))).mono ?_; rintro e wb ⟨rfl, bb⟩; have K5 := Lib.hid ((K4.out.alloc hz4 (.cells twoC 50 (0, 0))).drew.trans (bb.mono (by simp; omega))); have n0 := (bb.cell (p := ⟨a, 0, none⟩) (by simp; omega)).trans (kal m0 _); have n1 := (bb.cell (p := ⟨a, 1, none⟩) (by simp; omega)).trans (kal m1 _); have n2 := (bb.cell (p := ⟨a, 2, none⟩) (by simp; omega)).trans (kal m2 _); have n3 := (bb.cell (p := ⟨a, 3, none⟩) (by simp; omega)).trans (kal m3 _); have n4 := (bb.cell (p := ⟨a, 4, none⟩) (by simp; omega)).trans (kal m4 _); have n5 := (bb.cell (p := ⟨a, 5, none⟩) (by simp; omega)).trans (kal m5 _); have n6 := (bb.cell (p := ⟨a, 6, none⟩) (by simp; omega)).trans (kal m6 _); have n7 := (bb.cell (p := ⟨a, 7, none⟩) (by simp; omega)).trans (kal m7 _); have n8 := (bb.cell (p := ⟨a, 8, none⟩) (by simp; omega)).trans (kal m8 _); have n9 := (bb.cell (p := ⟨a, 9, none⟩) (by simp; omega)).trans (kal m9 _)))
  all_goals
    clear n0 n1 n2 n3 n4 n5 n6 n7 n8 n9 m0 m1 m2 m3 m4 m5 m6 m7 m8 m9 bb K4 z4 hz4
    have hz5 := K5.out.size
    go_wp2_with fail
    refine (ex_two2 wb _ (Below.refl _ _)).mono ?_
    rintro e w6 ⟨rfl, b⟩
    have K6 := Lib.hid ((K5.out.alloc hz5 (.cells #[.int .i64 0, .int .i64 1, .bool false, .int .i64 1, .int .i64 0, .bool false] 53 (0, 0))).trans (b.mono (by simp; omega)))
    clear b K5 hz5
    go_wp2_with fail
    refine (xr2 _ _ _ (HC.out.below K6.out) (HX.out.below K6.out)).mono ?_
    rintro e w7 ⟨rfl, b⟩
    have K7 := Lib.hid (K6.out.trans (b.mono K6.out.size))
    clear b K6
    go_wp2_with fail
    refine (xr3 _ _ _ (HC.out.below K7.out) (HX.out.below K7.out)).mono ?_
    rintro e w8 ⟨rfl, b⟩
    have K8 := Lib.hid (K7.out.trans (b.mono K7.out.size))
    clear b K7
    go_wp2_with fail
    refine (xr8 _ _ _ (HC.out.below K8.out) (HX.out.below K8.out)).mono ?_
    rintro e w9 ⟨rfl, b⟩
    have K9 := Lib.hid (K8.out.trans (b.mono K8.out.size))
    clear b K8
    go_wp2_with fail
    refine (xr7 _ _ _ (HC.out.below K9.out) (HX.out.below K9.out)).mono ?_
    rintro e w10 ⟨rfl, b⟩
    have K10 := Lib.hid (K9.out.trans (b.mono K9.out.size))
    clear b K9
    go_wp2_with fail
    refine (xr14 _ _ _ (HC.out.below K10.out) (HX.out.below K10.out)).mono ?_
    rintro e w11 ⟨rfl, b⟩
    have K11 := Lib.hid (K10.out.trans (b.mono K10.out.size))
    clear b K10
    go_wp2_with fail
    refine (xr1 _ _ _ (HC.out.below K11.out) (HX.out.below K11.out)).mono ?_
    rintro e w12 ⟨rfl, b⟩
    have K12 := Lib.hid (K11.out.trans (b.mono K11.out.size))
    clear b K11
    go_wp2_with fail
    refine (xrm _ _ _ (HC.out.below K12.out) (HX.out.below K12.out)).mono ?_
    rintro e w13 ⟨rfl, b⟩
    have K13 := Lib.hid (K12.out.trans (b.mono K12.out.size))
    clear b K12
    go_wp2_with fail
    refine (xdys _ _ _ (HC.out.below K13.out) (HX.out.below K13.out)).mono ?_
    rintro e w14 ⟨u, rfl, o, b⟩
    have O := Lib.hid o
    have K14 := Lib.hid (K13.out.trans (b.mono K13.out.size))
    have hz := K14.out.size
    clear b K13 o
    go_wp2_with fail
    refine (ex_same u _ w14 _ O.out (Below.refl _ _)).mono ?_
    rintro e w15 ⟨rfl, b⟩
    have K15 := Lib.hid ((K14.out.alloc hz (.cells #[.int .i64 3, .int .i64 4, .int .i64 5, .int .i64 6, .int .i64 7] 3 (0, 0))).trans (b.mono (by simp; omega)))
    clear b K14 hz O
    go_wp2_with fail
    refine (xa7 _ _ _ (HC.out.below K15.out) (HX.out.below K15.out)).mono ?_
    rintro e w16 ⟨rfl, b⟩
    have K16 := Lib.hid (K15.out.trans (b.mono K15.out.size))
    clear b K15
    go_wp2_with fail
    refine (xa2 _ _ _ (HC.out.below K16.out) (HX.out.below K16.out)).mono ?_
    rintro e w17 ⟨rfl, b⟩
    have K17 := Lib.hid (K16.out.trans (b.mono K16.out.size))
    clear b K16
    go_wp2_with fail
    go_ret
    exact ⟨rfl, B1.out.trans (K17.out.mono B1.out.size)⟩
end Go.Proofs.Ytlbockpaeacigaa
