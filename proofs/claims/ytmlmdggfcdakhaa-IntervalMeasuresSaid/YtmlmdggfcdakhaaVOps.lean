/-
  Union, Intersect, Subtract and Gaps: what each call answers. Condition: lists of at most 10000 spans.
-/
import Derived.Test.YtmlmdggfcdakhaaVClo
namespace Go.Proofs.Ytmlmdggfcdakhaa
open Go.RowKit

set_option maxHeartbeats 2000000 in
theorem union_any (va vb : Value) (a b : List Sp) (ha : a.length ≤ 10000) (hb : b.length ≤ 10000) (w : World) (hA : LstV w va a) (hB : LstV w vb b) :
    Calls Try.prog 19 #[va, vb] w fun e w' => ∃ v', e = .returned v' ∧ LstV w' v' (opS (opF 0 a b) a b) ∧ Below w.heap.size w w' := by
  have C := Lib.hid (memb_any va a (by omega) w hA)
  have D := Lib.hid (fun W (hW : Below w.heap.size w W) => memb_any vb b (by omega) W (hB.below hW))
  have HA := Lib.hid hA
  have HB := Lib.hid hB
  clear hA hB
  go_enter Try.func19, Try.ntmps19
  go_wp2_with fail
  refine C.out.mono ?_
  rintro er w1 ⟨fa, rfl, ca, b1⟩
  have E := Lib.hid (D.out w1 b1)
  have CA := Lib.hid ca
  have B1 := Lib.hid b1
  clear C D ca b1
  go_wp2_with fail
  refine E.out.mono ?_
  rintro er w2 ⟨fb, rfl, cb, b2⟩
  obtain ⟨K1, c1, rfl, e1, a1⟩ := CA.out.below b2
  obtain ⟨K2, c2, rfl, e2, a2⟩ := cb
  have B2 := Lib.hid (B1.out.trans (b2.mono B1.out.size))
  have ba : Below w2.heap.size w2 ((w2.alloc (.cells #[(.func (.func K1) #[] c1)] 51 (0, 0))).alloc (.cells #[(.func (.func K2) #[] c2)] 51 (0, 0))) := ((Below.refl _ _).alloc (Nat.le_refl _) _).alloc (by simp) _
  have r1 : ((w2.alloc (.cells #[.nilFunc] 51 (0, 0))).alloc (.cells #[.nilFunc] 51 (0, 0))).heap[w2.heap.size]? = some (.cells #[.nilFunc] 51 (0, 0)) := (Go.heap_alloc_old _ _ (show w2.heap.size < _ by simp)).trans (heap_alloc_new w2 _)
  have q1 : ((w2.alloc (.cells #[.nilFunc] 51 (0, 0))).alloc (.cells #[.nilFunc] 51 (0, 0))).cell? ⟨w2.heap.size, 0, none⟩ = some .nilFunc := by rw [cell_of_row _ _ 0 _ _ _ r1]; rfl
  have q2 : ((w2.alloc (.cells #[.nilFunc] 51 (0, 0))).alloc (.cells #[.nilFunc] 51 (0, 0))).frozen? ⟨w2.heap.size, 0, none⟩ = false := frozen_of_row _ _ 0 _ _ r1
  have st1 : (store ⟨w2.heap.size, 0, none⟩ (.func (.func K1) #[] c1)).run Try.prog ((w2.alloc (.cells #[.nilFunc] 51 (0, 0))).alloc (.cells #[.nilFunc] 51 (0, 0))) = .ok () (((w2.alloc (.cells #[.nilFunc] 51 (0, 0))).alloc (.cells #[.nilFunc] 51 (0, 0))).setCell ⟨w2.heap.size, 0, none⟩ (.func (.func K1) #[] c1)) := by rw [run_store _ _ _ _ _ rfl, q1, q2]; rfl
  have s2 : ((w2.alloc (.cells #[(.func (.func K1) #[] c1)] 51 (0, 0))).alloc (.cells #[.nilFunc] 51 (0, 0))).heap[w2.heap.size + 1]? = some (.cells #[.nilFunc] 51 (0, 0)) := by
    have hh := heap_alloc_new (w2.alloc (.cells #[(.func (.func K1) #[] c1)] 51 (0, 0))) (.cells #[.nilFunc] 51 (0, 0))
    rw [show (w2.alloc (.cells #[(.func (.func K1) #[] c1)] 51 (0, 0))).heap.size = w2.heap.size + 1 by simp] at hh
    exact hh
  have q3 : ((w2.alloc (.cells #[(.func (.func K1) #[] c1)] 51 (0, 0))).alloc (.cells #[.nilFunc] 51 (0, 0))).cell? ⟨w2.heap.size + 1, 0, none⟩ = some .nilFunc := by rw [cell_of_row _ _ 0 _ _ _ s2]; rfl
  have q4 : ((w2.alloc (.cells #[(.func (.func K1) #[] c1)] 51 (0, 0))).alloc (.cells #[.nilFunc] 51 (0, 0))).frozen? ⟨w2.heap.size + 1, 0, none⟩ = false := frozen_of_row _ _ 0 _ _ s2
  have st2 : (store ⟨w2.heap.size + 1, 0, none⟩ (.func (.func K2) #[] c2)).run Try.prog ((w2.alloc (.cells #[(.func (.func K1) #[] c1)] 51 (0, 0))).alloc (.cells #[.nilFunc] 51 (0, 0))) = .ok () (((w2.alloc (.cells #[(.func (.func K1) #[] c1)] 51 (0, 0))).alloc (.cells #[.nilFunc] 51 (0, 0))).setCell ⟨w2.heap.size + 1, 0, none⟩ (.func (.func K2) #[] c2)) := by rw [run_store _ _ _ _ _ rfl, q3, q4]; rfl
  have k1 : ((w2.alloc (.cells #[(.func (.func K1) #[] c1)] 51 (0, 0))).alloc (.cells #[(.func (.func K2) #[] c2)] 51 (0, 0))).cell? ⟨w2.heap.size, 0, none⟩ = some (.func (.func K1) #[] c1) := by
    have hh := (Go.heap_alloc_old (w2.alloc (.cells #[(.func (.func K1) #[] c1)] 51 (0, 0))) (.cells #[(.func (.func K2) #[] c2)] 51 (0, 0)) (show w2.heap.size < _ by simp)).trans (heap_alloc_new w2 _)
    rw [cell_of_row _ _ 0 _ _ _ hh]; rfl
  have k2 : ((w2.alloc (.cells #[(.func (.func K1) #[] c1)] 51 (0, 0))).alloc (.cells #[(.func (.func K2) #[] c2)] 51 (0, 0))).cell? ⟨w2.heap.size + 1, 0, none⟩ = some (.func (.func K2) #[] c2) := by
    have hh := heap_alloc_new (w2.alloc (.cells #[(.func (.func K1) #[] c1)] 51 (0, 0))) (.cells #[(.func (.func K2) #[] c2)] 51 (0, 0))
    rw [show (w2.alloc (.cells #[(.func (.func K1) #[] c1)] 51 (0, 0))).heap.size = w2.heap.size + 1 by simp] at hh
    rw [cell_of_row _ _ 0 _ _ _ hh]; rfl
  have z2 : ((w2.alloc (.cells #[(.func (.func K1) #[] c1)] 51 (0, 0))).alloc (.cells #[(.func (.func K2) #[] c2)] 51 (0, 0))).heap.size = w2.heap.size + 2 := by simp
  have F : Hid (Calls Try.prog 34 #[va, vb, .func (.func 35) #[] #[.pointer (some ⟨w2.heap.size, 0, none⟩), .pointer (some ⟨w2.heap.size + 1, 0, none⟩)]] ((w2.alloc (.cells #[(.func (.func K1) #[] c1)] 51 (0, 0))).alloc (.cells #[(.func (.func K2) #[] c2)] 51 (0, 0))) fun e w' => ∃ v', e = .returned v' ∧ LstV w' v' (opS (opF 0 a b) a b) ∧ Below w.heap.size w w') := by
    have bw := B2.out.trans (ba.mono B2.out.size)
    refine (combine_any va vb _ a b (opF 0 a b) (opF_opr 0 a b) ha hb _ (HA.out.below bw) (HB.out.below bw) ⟨35, _, rfl, enters_of Try.func35 (by kernel_rfl) rfl, fun x W hW => ?_⟩).mono ?_
    · exact union_clo x w2.heap.size (w2.heap.size + 1) K1 K2 c1 c2 (memS a x) (memS b x) W ((hW.cell (p := ⟨w2.heap.size, 0, none⟩) (by rw [z2]; simp)).trans k1) ((hW.cell (p := ⟨w2.heap.size + 1, 0, none⟩) (by rw [z2]; simp)).trans k2) e1 e2 (fun V hV => a1 x V ((ba.trans (hW.mono ba.size)).trans (hV.mono (Nat.le_trans ba.size hW.size)))) (fun V hV => a2 x V ((ba.trans (hW.mono ba.size)).trans (hV.mono (Nat.le_trans ba.size hW.size))))
    · rintro e w' ⟨v', he, hl, hb'⟩
      exact ⟨v', he, hl, bw.trans (hb'.mono bw.size)⟩
  clear e1 e2 a1 a2 b2 ba r1 s2 k1 k2 q1 q2 q3 q4 z2 E CA B1 B2 HA HB
  go_wp2_with fail
  refine F.out.mono ?_
  rintro er w3 ⟨v3, rfl, l3, b3⟩
  have R : Hid (LstV w3 v3 (opS (opF 0 a b) a b) ∧ Below w.heap.size w w3) := ⟨l3, b3⟩
  clear l3 b3 F
  go_wp2_with fail
  go_ret
  exact ⟨_, rfl, R.out⟩
set_option maxHeartbeats 2000000 in
theorem meet_any (va vb : Value) (a b : List Sp) (ha : a.length ≤ 10000) (hb : b.length ≤ 10000) (w : World) (hA : LstV w va a) (hB : LstV w vb b) :
    Calls Try.prog 20 #[va, vb] w fun e w' => ∃ v', e = .returned v' ∧ LstV w' v' (opS (opF 1 a b) a b) ∧ Below w.heap.size w w' := by
  have C := Lib.hid (memb_any va a (by omega) w hA)
  have D := Lib.hid (fun W (hW : Below w.heap.size w W) => memb_any vb b (by omega) W (hB.below hW))
  have HA := Lib.hid hA
  have HB := Lib.hid hB
  clear hA hB
  go_enter Try.func20, Try.ntmps20
  go_wp2_with fail
  refine C.out.mono ?_
  rintro er w1 ⟨fa, rfl, ca, b1⟩
  have E := Lib.hid (D.out w1 b1)
  have CA := Lib.hid ca
  have B1 := Lib.hid b1
  clear C D ca b1
  go_wp2_with fail
  refine E.out.mono ?_
  rintro er w2 ⟨fb, rfl, cb, b2⟩
  obtain ⟨K1, c1, rfl, e1, a1⟩ := CA.out.below b2
  obtain ⟨K2, c2, rfl, e2, a2⟩ := cb
  have B2 := Lib.hid (B1.out.trans (b2.mono B1.out.size))
  have ba : Below w2.heap.size w2 ((w2.alloc (.cells #[(.func (.func K1) #[] c1)] 51 (0, 0))).alloc (.cells #[(.func (.func K2) #[] c2)] 51 (0, 0))) := ((Below.refl _ _).alloc (Nat.le_refl _) _).alloc (by simp) _
  have r1 : ((w2.alloc (.cells #[.nilFunc] 51 (0, 0))).alloc (.cells #[.nilFunc] 51 (0, 0))).heap[w2.heap.size]? = some (.cells #[.nilFunc] 51 (0, 0)) := (Go.heap_alloc_old _ _ (show w2.heap.size < _ by simp)).trans (heap_alloc_new w2 _)
  have q1 : ((w2.alloc (.cells #[.nilFunc] 51 (0, 0))).alloc (.cells #[.nilFunc] 51 (0, 0))).cell? ⟨w2.heap.size, 0, none⟩ = some .nilFunc := by rw [cell_of_row _ _ 0 _ _ _ r1]; rfl
  have q2 : ((w2.alloc (.cells #[.nilFunc] 51 (0, 0))).alloc (.cells #[.nilFunc] 51 (0, 0))).frozen? ⟨w2.heap.size, 0, none⟩ = false := frozen_of_row _ _ 0 _ _ r1
  have st1 : (store ⟨w2.heap.size, 0, none⟩ (.func (.func K1) #[] c1)).run Try.prog ((w2.alloc (.cells #[.nilFunc] 51 (0, 0))).alloc (.cells #[.nilFunc] 51 (0, 0))) = .ok () (((w2.alloc (.cells #[.nilFunc] 51 (0, 0))).alloc (.cells #[.nilFunc] 51 (0, 0))).setCell ⟨w2.heap.size, 0, none⟩ (.func (.func K1) #[] c1)) := by rw [run_store _ _ _ _ _ rfl, q1, q2]; rfl
  have s2 : ((w2.alloc (.cells #[(.func (.func K1) #[] c1)] 51 (0, 0))).alloc (.cells #[.nilFunc] 51 (0, 0))).heap[w2.heap.size + 1]? = some (.cells #[.nilFunc] 51 (0, 0)) := by
    have hh := heap_alloc_new (w2.alloc (.cells #[(.func (.func K1) #[] c1)] 51 (0, 0))) (.cells #[.nilFunc] 51 (0, 0))
    rw [show (w2.alloc (.cells #[(.func (.func K1) #[] c1)] 51 (0, 0))).heap.size = w2.heap.size + 1 by simp] at hh
    exact hh
  have q3 : ((w2.alloc (.cells #[(.func (.func K1) #[] c1)] 51 (0, 0))).alloc (.cells #[.nilFunc] 51 (0, 0))).cell? ⟨w2.heap.size + 1, 0, none⟩ = some .nilFunc := by rw [cell_of_row _ _ 0 _ _ _ s2]; rfl
  have q4 : ((w2.alloc (.cells #[(.func (.func K1) #[] c1)] 51 (0, 0))).alloc (.cells #[.nilFunc] 51 (0, 0))).frozen? ⟨w2.heap.size + 1, 0, none⟩ = false := frozen_of_row _ _ 0 _ _ s2
  have st2 : (store ⟨w2.heap.size + 1, 0, none⟩ (.func (.func K2) #[] c2)).run Try.prog ((w2.alloc (.cells #[(.func (.func K1) #[] c1)] 51 (0, 0))).alloc (.cells #[.nilFunc] 51 (0, 0))) = .ok () (((w2.alloc (.cells #[(.func (.func K1) #[] c1)] 51 (0, 0))).alloc (.cells #[.nilFunc] 51 (0, 0))).setCell ⟨w2.heap.size + 1, 0, none⟩ (.func (.func K2) #[] c2)) := by rw [run_store _ _ _ _ _ rfl, q3, q4]; rfl
  have k1 : ((w2.alloc (.cells #[(.func (.func K1) #[] c1)] 51 (0, 0))).alloc (.cells #[(.func (.func K2) #[] c2)] 51 (0, 0))).cell? ⟨w2.heap.size, 0, none⟩ = some (.func (.func K1) #[] c1) := by
    have hh := (Go.heap_alloc_old (w2.alloc (.cells #[(.func (.func K1) #[] c1)] 51 (0, 0))) (.cells #[(.func (.func K2) #[] c2)] 51 (0, 0)) (show w2.heap.size < _ by simp)).trans (heap_alloc_new w2 _)
    rw [cell_of_row _ _ 0 _ _ _ hh]; rfl
  have k2 : ((w2.alloc (.cells #[(.func (.func K1) #[] c1)] 51 (0, 0))).alloc (.cells #[(.func (.func K2) #[] c2)] 51 (0, 0))).cell? ⟨w2.heap.size + 1, 0, none⟩ = some (.func (.func K2) #[] c2) := by
    have hh := heap_alloc_new (w2.alloc (.cells #[(.func (.func K1) #[] c1)] 51 (0, 0))) (.cells #[(.func (.func K2) #[] c2)] 51 (0, 0))
    rw [show (w2.alloc (.cells #[(.func (.func K1) #[] c1)] 51 (0, 0))).heap.size = w2.heap.size + 1 by simp] at hh
    rw [cell_of_row _ _ 0 _ _ _ hh]; rfl
  have z2 : ((w2.alloc (.cells #[(.func (.func K1) #[] c1)] 51 (0, 0))).alloc (.cells #[(.func (.func K2) #[] c2)] 51 (0, 0))).heap.size = w2.heap.size + 2 := by simp
  have F : Hid (Calls Try.prog 34 #[va, vb, .func (.func 36) #[] #[.pointer (some ⟨w2.heap.size, 0, none⟩), .pointer (some ⟨w2.heap.size + 1, 0, none⟩)]] ((w2.alloc (.cells #[(.func (.func K1) #[] c1)] 51 (0, 0))).alloc (.cells #[(.func (.func K2) #[] c2)] 51 (0, 0))) fun e w' => ∃ v', e = .returned v' ∧ LstV w' v' (opS (opF 1 a b) a b) ∧ Below w.heap.size w w') := by
    have bw := B2.out.trans (ba.mono B2.out.size)
    refine (combine_any va vb _ a b (opF 1 a b) (opF_opr 1 a b) ha hb _ (HA.out.below bw) (HB.out.below bw) ⟨36, _, rfl, enters_of Try.func36 (by kernel_rfl) rfl, fun x W hW => ?_⟩).mono ?_
    · exact meet_clo x w2.heap.size (w2.heap.size + 1) K1 K2 c1 c2 (memS a x) (memS b x) W ((hW.cell (p := ⟨w2.heap.size, 0, none⟩) (by rw [z2]; simp)).trans k1) ((hW.cell (p := ⟨w2.heap.size + 1, 0, none⟩) (by rw [z2]; simp)).trans k2) e1 e2 (fun V hV => a1 x V ((ba.trans (hW.mono ba.size)).trans (hV.mono (Nat.le_trans ba.size hW.size)))) (fun V hV => a2 x V ((ba.trans (hW.mono ba.size)).trans (hV.mono (Nat.le_trans ba.size hW.size))))
    · rintro e w' ⟨v', he, hl, hb'⟩
      exact ⟨v', he, hl, bw.trans (hb'.mono bw.size)⟩
  clear e1 e2 a1 a2 b2 ba r1 s2 k1 k2 q1 q2 q3 q4 z2 E CA B1 B2 HA HB
  go_wp2_with fail
  refine F.out.mono ?_
  rintro er w3 ⟨v3, rfl, l3, b3⟩
  have R : Hid (LstV w3 v3 (opS (opF 1 a b) a b) ∧ Below w.heap.size w w3) := ⟨l3, b3⟩
  clear l3 b3 F
  go_wp2_with fail
  go_ret
  exact ⟨_, rfl, R.out⟩
set_option maxHeartbeats 2000000 in
theorem sub_any (va vb : Value) (a b : List Sp) (ha : a.length ≤ 10000) (hb : b.length ≤ 10000) (w : World) (hA : LstV w va a) (hB : LstV w vb b) :
    Calls Try.prog 21 #[va, vb] w fun e w' => ∃ v', e = .returned v' ∧ LstV w' v' (opS (opF 2 a b) a b) ∧ Below w.heap.size w w' := by
  have C := Lib.hid (memb_any va a (by omega) w hA)
  have D := Lib.hid (fun W (hW : Below w.heap.size w W) => memb_any vb b (by omega) W (hB.below hW))
  have HA := Lib.hid hA
  have HB := Lib.hid hB
  clear hA hB
  go_enter Try.func21, Try.ntmps21
  go_wp2_with fail
  refine C.out.mono ?_
  rintro er w1 ⟨fa, rfl, ca, b1⟩
  have E := Lib.hid (D.out w1 b1)
  have CA := Lib.hid ca
  have B1 := Lib.hid b1
  clear C D ca b1
  go_wp2_with fail
  refine E.out.mono ?_
  rintro er w2 ⟨fb, rfl, cb, b2⟩
  obtain ⟨K1, c1, rfl, e1, a1⟩ := CA.out.below b2
  obtain ⟨K2, c2, rfl, e2, a2⟩ := cb
  have B2 := Lib.hid (B1.out.trans (b2.mono B1.out.size))
  have ba : Below w2.heap.size w2 ((w2.alloc (.cells #[(.func (.func K1) #[] c1)] 51 (0, 0))).alloc (.cells #[(.func (.func K2) #[] c2)] 51 (0, 0))) := ((Below.refl _ _).alloc (Nat.le_refl _) _).alloc (by simp) _
  have r1 : ((w2.alloc (.cells #[.nilFunc] 51 (0, 0))).alloc (.cells #[.nilFunc] 51 (0, 0))).heap[w2.heap.size]? = some (.cells #[.nilFunc] 51 (0, 0)) := (Go.heap_alloc_old _ _ (show w2.heap.size < _ by simp)).trans (heap_alloc_new w2 _)
  have q1 : ((w2.alloc (.cells #[.nilFunc] 51 (0, 0))).alloc (.cells #[.nilFunc] 51 (0, 0))).cell? ⟨w2.heap.size, 0, none⟩ = some .nilFunc := by rw [cell_of_row _ _ 0 _ _ _ r1]; rfl
  have q2 : ((w2.alloc (.cells #[.nilFunc] 51 (0, 0))).alloc (.cells #[.nilFunc] 51 (0, 0))).frozen? ⟨w2.heap.size, 0, none⟩ = false := frozen_of_row _ _ 0 _ _ r1
  have st1 : (store ⟨w2.heap.size, 0, none⟩ (.func (.func K1) #[] c1)).run Try.prog ((w2.alloc (.cells #[.nilFunc] 51 (0, 0))).alloc (.cells #[.nilFunc] 51 (0, 0))) = .ok () (((w2.alloc (.cells #[.nilFunc] 51 (0, 0))).alloc (.cells #[.nilFunc] 51 (0, 0))).setCell ⟨w2.heap.size, 0, none⟩ (.func (.func K1) #[] c1)) := by rw [run_store _ _ _ _ _ rfl, q1, q2]; rfl
  have s2 : ((w2.alloc (.cells #[(.func (.func K1) #[] c1)] 51 (0, 0))).alloc (.cells #[.nilFunc] 51 (0, 0))).heap[w2.heap.size + 1]? = some (.cells #[.nilFunc] 51 (0, 0)) := by
    have hh := heap_alloc_new (w2.alloc (.cells #[(.func (.func K1) #[] c1)] 51 (0, 0))) (.cells #[.nilFunc] 51 (0, 0))
    rw [show (w2.alloc (.cells #[(.func (.func K1) #[] c1)] 51 (0, 0))).heap.size = w2.heap.size + 1 by simp] at hh
    exact hh
  have q3 : ((w2.alloc (.cells #[(.func (.func K1) #[] c1)] 51 (0, 0))).alloc (.cells #[.nilFunc] 51 (0, 0))).cell? ⟨w2.heap.size + 1, 0, none⟩ = some .nilFunc := by rw [cell_of_row _ _ 0 _ _ _ s2]; rfl
  have q4 : ((w2.alloc (.cells #[(.func (.func K1) #[] c1)] 51 (0, 0))).alloc (.cells #[.nilFunc] 51 (0, 0))).frozen? ⟨w2.heap.size + 1, 0, none⟩ = false := frozen_of_row _ _ 0 _ _ s2
  have st2 : (store ⟨w2.heap.size + 1, 0, none⟩ (.func (.func K2) #[] c2)).run Try.prog ((w2.alloc (.cells #[(.func (.func K1) #[] c1)] 51 (0, 0))).alloc (.cells #[.nilFunc] 51 (0, 0))) = .ok () (((w2.alloc (.cells #[(.func (.func K1) #[] c1)] 51 (0, 0))).alloc (.cells #[.nilFunc] 51 (0, 0))).setCell ⟨w2.heap.size + 1, 0, none⟩ (.func (.func K2) #[] c2)) := by rw [run_store _ _ _ _ _ rfl, q3, q4]; rfl
  have k1 : ((w2.alloc (.cells #[(.func (.func K1) #[] c1)] 51 (0, 0))).alloc (.cells #[(.func (.func K2) #[] c2)] 51 (0, 0))).cell? ⟨w2.heap.size, 0, none⟩ = some (.func (.func K1) #[] c1) := by
    have hh := (Go.heap_alloc_old (w2.alloc (.cells #[(.func (.func K1) #[] c1)] 51 (0, 0))) (.cells #[(.func (.func K2) #[] c2)] 51 (0, 0)) (show w2.heap.size < _ by simp)).trans (heap_alloc_new w2 _)
    rw [cell_of_row _ _ 0 _ _ _ hh]; rfl
  have k2 : ((w2.alloc (.cells #[(.func (.func K1) #[] c1)] 51 (0, 0))).alloc (.cells #[(.func (.func K2) #[] c2)] 51 (0, 0))).cell? ⟨w2.heap.size + 1, 0, none⟩ = some (.func (.func K2) #[] c2) := by
    have hh := heap_alloc_new (w2.alloc (.cells #[(.func (.func K1) #[] c1)] 51 (0, 0))) (.cells #[(.func (.func K2) #[] c2)] 51 (0, 0))
    rw [show (w2.alloc (.cells #[(.func (.func K1) #[] c1)] 51 (0, 0))).heap.size = w2.heap.size + 1 by simp] at hh
    rw [cell_of_row _ _ 0 _ _ _ hh]; rfl
  have z2 : ((w2.alloc (.cells #[(.func (.func K1) #[] c1)] 51 (0, 0))).alloc (.cells #[(.func (.func K2) #[] c2)] 51 (0, 0))).heap.size = w2.heap.size + 2 := by simp
  have F : Hid (Calls Try.prog 34 #[va, vb, .func (.func 37) #[] #[.pointer (some ⟨w2.heap.size, 0, none⟩), .pointer (some ⟨w2.heap.size + 1, 0, none⟩)]] ((w2.alloc (.cells #[(.func (.func K1) #[] c1)] 51 (0, 0))).alloc (.cells #[(.func (.func K2) #[] c2)] 51 (0, 0))) fun e w' => ∃ v', e = .returned v' ∧ LstV w' v' (opS (opF 2 a b) a b) ∧ Below w.heap.size w w') := by
    have bw := B2.out.trans (ba.mono B2.out.size)
    refine (combine_any va vb _ a b (opF 2 a b) (opF_opr 2 a b) ha hb _ (HA.out.below bw) (HB.out.below bw) ⟨37, _, rfl, enters_of Try.func37 (by kernel_rfl) rfl, fun x W hW => ?_⟩).mono ?_
    · exact sub_clo x w2.heap.size (w2.heap.size + 1) K1 K2 c1 c2 (memS a x) (memS b x) W ((hW.cell (p := ⟨w2.heap.size, 0, none⟩) (by rw [z2]; simp)).trans k1) ((hW.cell (p := ⟨w2.heap.size + 1, 0, none⟩) (by rw [z2]; simp)).trans k2) e1 e2 (fun V hV => a1 x V ((ba.trans (hW.mono ba.size)).trans (hV.mono (Nat.le_trans ba.size hW.size)))) (fun V hV => a2 x V ((ba.trans (hW.mono ba.size)).trans (hV.mono (Nat.le_trans ba.size hW.size))))
    · rintro e w' ⟨v', he, hl, hb'⟩
      exact ⟨v', he, hl, bw.trans (hb'.mono bw.size)⟩
  clear e1 e2 a1 a2 b2 ba r1 s2 k1 k2 q1 q2 q3 q4 z2 E CA B1 B2 HA HB
  go_wp2_with fail
  refine F.out.mono ?_
  rintro er w3 ⟨v3, rfl, l3, b3⟩
  have R : Hid (LstV w3 v3 (opS (opF 2 a b) a b) ∧ Below w.heap.size w w3) := ⟨l3, b3⟩
  clear l3 b3 F
  go_wp2_with fail
  go_ret
  exact ⟨_, rfl, R.out⟩
set_option maxHeartbeats 2000000 in
theorem gaps_any (v : Value) (s : Sp) (l : List Sp) (hl : l.length ≤ 10000) (w : World) (h : LstV w v l) :
    Calls Try.prog 24 #[v, .agg #[.int .i64 s.1, .int .i64 s.2]] w fun e w' => ∃ v', e = .returned v' ∧ LstV w' v' (opS (opF 2 [s] l) [s] l) ∧ Below w.heap.size w w' := by
  obtain ⟨x, y⟩ := s
  have ba : Below w.heap.size w ((w.alloc (.cells #[.int .i64 x, .int .i64 y] 27 (0, 0))).alloc (.cells #[.int .i64 x, .int .i64 y] 27 (0, 0))) := ((Below.refl _ _).alloc (Nat.le_refl _) _).alloc (by simp) _
  have l1 := lstG_lit (enc := sc) (w.alloc (.cells #[.int .i64 x, .int .i64 y] 27 (0, 0))) #[.int .i64 x, .int .i64 y] 27 [(x, y)] rfl 1 rfl
  rw [show (w.alloc (.cells #[.int .i64 x, .int .i64 y] 27 (0, 0))).heap.size = w.heap.size + 1 by simp] at l1
  have C := Lib.hid (sub_any _ v [(x, y)] l (by simp) hl _ l1 (h.below ba))
  have BA := Lib.hid ba
  clear ba l1 h
  go_enter Try.func24, Try.ntmps24
  go_wp2_with fail
  refine C.out.mono ?_
  rintro er w3 ⟨v3, rfl, l3, b3⟩
  have R : Hid (LstV w3 v3 (opS (opF 2 [(x, y)] l) [(x, y)] l) ∧ Below w.heap.size w w3) := ⟨l3, BA.out.trans (b3.mono BA.out.size)⟩
  clear l3 b3 C BA
  go_wp2_with fail
  go_ret
  exact ⟨_, rfl, R.out⟩
end Go.Proofs.Ytmlmdggfcdakhaa
