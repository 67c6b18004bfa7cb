/-
  Frequencies in memory: the cells of a frequency, a frequency put into a box of its own; the small functions on frequencies and times of the code and of its reference: what each call answers. Condition: none beyond each theorem's own hypotheses.
-/
import Derived.Test.YtahnaidkobodaaaTpS
import Derived.Test.YtahnaidkobodaaaFrq
import Derived.Lib.Hide
namespace Go.Proofs.Ytahnaidkobodaaa
open Go.RowKit

/-- A frequency as cells. -/
def fe (x : Fq) : List Value := [.int .i64 x.1, .int .i64 x.2.1, .int .i64 x.2.2.1, .int .i64 x.2.2.2]
theorem fe_len (x : Fq) : (fe x).length = 4 := rfl
abbrev LstF := @LstG Fq fe
/-- The four cells of a frequency. -/
theorem four_at {w : World} {A : Option Addr} {n c : Nat} {l : List Fq} (h : LstF w (.slice A n c) l) {i : Nat} {t a b v : Int} (hs : l[i]? = some (t, a, b, v)) :
    ∃ k f, A = some ⟨k, f, none⟩ ∧ k < w.heap.size ∧ w.cell? ⟨k, f + i * 4, none⟩ = some (.int .i64 t) ∧ w.cell? ⟨k, f + i * 4 + 1, none⟩ = some (.int .i64 a) ∧ w.cell? ⟨k, f + i * 4 + 2, none⟩ = some (.int .i64 b) ∧ w.cell? ⟨k, f + i * 4 + 3, none⟩ = some (.int .i64 v) := by
  obtain ⟨A', c', hv, _, _, hx⟩ := h
  cases hv
  have hi := (List.getElem?_eq_some_iff.1 hs).1
  obtain ⟨k, f, rfl, hb, hcell⟩ := hx (by omega)
  exact ⟨k, f, rfl, hb, hcell (i * 4) _ (by rw [← Nat.add_zero (i * 4), fl_at fe_len hs 0 (by omega)]; rfl), (hcell (i * 4 + 1) _ (by rw [fl_at fe_len hs 1 (by omega)]; rfl) : _), (hcell (i * 4 + 2) _ (by rw [fl_at fe_len hs 2 (by omega)]; rfl) : _), (hcell (i * 4 + 3) _ (by rw [fl_at fe_len hs 3 (by omega)]; rfl) : _)⟩
/-- A frequency in a box. -/
abbrev boxF (t a b v : Int) : Obj := .cells #[.int .i64 t, .int .i64 a, .int .i64 b, .int .i64 v] 35 (0, 0)
theorem row_fq {w : World} {k : Nat} {t a b v : Int} (h : w.heap[k]? = some (boxF t a b v)) :
    w.cell? ⟨k, 0, none⟩ = some (.int .i64 t) ∧ w.cell? ⟨k, 1, none⟩ = some (.int .i64 a) ∧ w.cell? ⟨k, 2, none⟩ = some (.int .i64 b) ∧ w.cell? ⟨k, 3, none⟩ = some (.int .i64 v) :=
  ⟨by rw [cell_of_row _ _ 0 _ _ _ h]; rfl, by rw [cell_of_row _ _ 1 _ _ _ h]; rfl, by rw [cell_of_row _ _ 2 _ _ _ h]; rfl, by rw [cell_of_row _ _ 3 _ _ _ h]; rfl⟩
theorem box_fq {w w7 : World} {t a b v : Int} (h : w.alloc (boxF t a b v) = w7) :
    Below w.heap.size w w7 ∧ w7.cell? ⟨w.heap.size, 0, none⟩ = some (.int .i64 t) ∧ w7.cell? ⟨w.heap.size, 1, none⟩ = some (.int .i64 a) ∧ w7.cell? ⟨w.heap.size, 2, none⟩ = some (.int .i64 b) ∧ w7.cell? ⟨w.heap.size, 3, none⟩ = some (.int .i64 v) ∧ w.heap.size < w7.heap.size ∧ w7.heap[w.heap.size]? = some (boxF t a b v) := by
  subst h
  have c7 := heap_alloc_new w (boxF t a b v)
  obtain ⟨h0, h1, h2, h3⟩ := row_fq c7
  exact ⟨(Below.refl _ _).alloc (Nat.le_refl _) _, h0, h1, h2, h3, by simp, c7⟩
/-- A frequency as a value. -/
abbrev fqV (t a b v : Int) : Value := .agg #[.int .i64 t, .int .i64 a, .int .i64 b, .int .i64 v]

set_option maxRecDepth 100000 in
set_option maxHeartbeats 4000000 in
theorem ksnd_any (t a b v : Int) (w : World) : Calls Try.prog 36 #[fqV t a b v] w fun e w' => e = .returned (.bool (sndF (t, a, b, v))) ∧ Below w.heap.size w w' := by
  obtain ⟨w7, hw7⟩ : ∃ W, w.alloc (boxF t a b v) = W := ⟨_, rfl⟩
  obtain ⟨b7, p0, p1, p2, p3, s7, c7⟩ := box_fq hw7
  have B7 := Lib.hid b7
  clear b7 c7 s7
  by_cases n0 : ¬ (0 ≤ a)
  · have h0 := n0
    clear n0
    have g0 : decide (0 ≤ a) = false := decide_eq_false h0
    have R := Lib.hid (snd_no (t := t) (a := a) (b := b) (e := v) (by omega))
    clear h0
    go_enter Try.func36, Try.ntmps36
    go_wp2_with fail
    go_ret
    exact ⟨ret_bool R.out.symm, B7.out⟩
  have h0 := Decidable.not_not.1 n0
  clear n0
  by_cases n1 : ¬ (a < b)
  · have h1 := n1
    clear n1
    have g1 : decide (a < b) = false := decide_eq_false h1
    have R := Lib.hid (snd_no (t := t) (a := a) (b := b) (e := v) (by omega))
    clear h1
    go_enter Try.func36, Try.ntmps36
    go_wp2_with fail
    go_ret
    exact ⟨ret_bool R.out.symm, B7.out⟩
  have h1 := Decidable.not_not.1 n1
  clear n1
  by_cases n2 : ¬ (b ≤ 172800)
  · have h2 := n2
    clear n2
    have g2 : decide (b ≤ 172800) = false := decide_eq_false h2
    have R := Lib.hid (snd_no (t := t) (a := a) (b := b) (e := v) (by omega))
    clear h2
    go_enter Try.func36, Try.ntmps36
    go_wp2_with fail
    go_ret
    exact ⟨ret_bool R.out.symm, B7.out⟩
  have h2 := Decidable.not_not.1 n2
  clear n2
  by_cases n3 : ¬ (1 ≤ v)
  · have h3 := n3
    clear n3
    have g3 : decide (1 ≤ v) = false := decide_eq_false h3
    have R := Lib.hid (snd_no (t := t) (a := a) (b := b) (e := v) (by omega))
    clear h3
    go_enter Try.func36, Try.ntmps36
    go_wp2_with fail
    go_ret
    exact ⟨ret_bool R.out.symm, B7.out⟩
  have h3 := Decidable.not_not.1 n3
  clear n3
  by_cases n4 : ¬ (v ≤ 86400)
  · have h4 := n4
    clear n4
    have g4 : decide (v ≤ 86400) = false := decide_eq_false h4
    have R := Lib.hid (snd_no (t := t) (a := a) (b := b) (e := v) (by omega))
    clear h4
    go_enter Try.func36, Try.ntmps36
    go_wp2_with fail
    go_ret
    exact ⟨ret_bool R.out.symm, B7.out⟩
  have h4 := Decidable.not_not.1 n4
  clear n4
  have R := Lib.hid ((snd_iff (t := t) (a := a) (b := b) (e := v)).2 ⟨h0, h1, h2, h3, h4⟩)
  go_enter Try.func36, Try.ntmps36
  go_wp2_with fail
  go_ret
  exact ⟨ret_bool R.out.symm, B7.out⟩
set_option maxRecDepth 100000 in
set_option maxHeartbeats 4000000 in
theorem rsnd_any (t a b v : Int) (w : World) : Calls Try.prog 24 #[fqV t a b v] w fun e w' => e = .returned (.bool (sndF (t, a, b, v))) ∧ Below w.heap.size w w' := by
  obtain ⟨w7, hw7⟩ : ∃ W, w.alloc (boxF t a b v) = W := ⟨_, rfl⟩
  obtain ⟨b7, p0, p1, p2, p3, s7, c7⟩ := box_fq hw7
  have B7 := Lib.hid b7
  clear b7 c7 s7
  by_cases n0 : ¬ (0 ≤ a)
  · have h0 := n0
    clear n0
    have g0 : decide (0 ≤ a) = false := decide_eq_false h0
    have R := Lib.hid (snd_no (t := t) (a := a) (b := b) (e := v) (by omega))
    clear h0
    go_enter Try.func24, Try.ntmps24
    go_wp2_with fail
    go_ret
    exact ⟨ret_bool R.out.symm, B7.out⟩
  have h0 := Decidable.not_not.1 n0
  clear n0
  by_cases n1 : ¬ (a ≤ 172800)
  · have h1 := n1
    clear n1
    have g1 : decide (a ≤ 172800) = false := decide_eq_false h1
    have R := Lib.hid (snd_no (t := t) (a := a) (b := b) (e := v) (by omega))
    clear h1
    go_enter Try.func24, Try.ntmps24
    go_wp2_with fail
    go_ret
    exact ⟨ret_bool R.out.symm, B7.out⟩
  have h1 := Decidable.not_not.1 n1
  clear n1
  by_cases n2 : ¬ (0 ≤ b)
  · have h2 := n2
    clear n2
    have g2 : decide (0 ≤ b) = false := decide_eq_false h2
    have R := Lib.hid (snd_no (t := t) (a := a) (b := b) (e := v) (by omega))
    clear h2
    go_enter Try.func24, Try.ntmps24
    go_wp2_with fail
    go_ret
    exact ⟨ret_bool R.out.symm, B7.out⟩
  have h2 := Decidable.not_not.1 n2
  clear n2
  by_cases n3 : ¬ (b ≤ 172800)
  · have h3 := n3
    clear n3
    have g3 : decide (b ≤ 172800) = false := decide_eq_false h3
    have R := Lib.hid (snd_no (t := t) (a := a) (b := b) (e := v) (by omega))
    clear h3
    go_enter Try.func24, Try.ntmps24
    go_wp2_with fail
    go_ret
    exact ⟨ret_bool R.out.symm, B7.out⟩
  have h3 := Decidable.not_not.1 n3
  clear n3
  by_cases n4 : ¬ (a < b)
  · have h4 := n4
    clear n4
    have g4 : decide (a < b) = false := decide_eq_false h4
    have R := Lib.hid (snd_no (t := t) (a := a) (b := b) (e := v) (by omega))
    clear h4
    go_enter Try.func24, Try.ntmps24
    go_wp2_with fail
    go_ret
    exact ⟨ret_bool R.out.symm, B7.out⟩
  have h4 := Decidable.not_not.1 n4
  clear n4
  by_cases n5 : ¬ (1 ≤ v)
  · have h5 := n5
    clear n5
    have g5 : decide (1 ≤ v) = false := decide_eq_false h5
    have R := Lib.hid (snd_no (t := t) (a := a) (b := b) (e := v) (by omega))
    clear h5
    go_enter Try.func24, Try.ntmps24
    go_wp2_with fail
    go_ret
    exact ⟨ret_bool R.out.symm, B7.out⟩
  have h5 := Decidable.not_not.1 n5
  clear n5
  by_cases n6 : ¬ (v ≤ 86400)
  · have h6 := n6
    clear n6
    have g6 : decide (v ≤ 86400) = false := decide_eq_false h6
    have R := Lib.hid (snd_no (t := t) (a := a) (b := b) (e := v) (by omega))
    clear h6
    go_enter Try.func24, Try.ntmps24
    go_wp2_with fail
    go_ret
    exact ⟨ret_bool R.out.symm, B7.out⟩
  have h6 := Decidable.not_not.1 n6
  clear n6
  have R := Lib.hid ((snd_iff (t := t) (a := a) (b := b) (e := v)).2 ⟨h0, h4, h3, h5, h6⟩)
  go_enter Try.func24, Try.ntmps24
  go_wp2_with fail
  go_ret
  exact ⟨ret_bool R.out.symm, B7.out⟩
set_option maxRecDepth 100000 in
set_option maxHeartbeats 4000000 in
theorem kovl_any (t a b v t' a' b' v' : Int) (w : World) : Calls Try.prog 39 #[fqV t a b v, fqV t' a' b' v'] w fun e w' => e = .returned (.bool (ovlF (t, a, b, v) (t', a', b', v'))) ∧ Below w.heap.size w w' := by
  obtain ⟨w7, hw7, -, ra, rb, b7⟩ := box_both w (boxF t a b v) (boxF t' a' b' v')
  obtain ⟨p0, p1, p2, p3⟩ := row_fq ra
  obtain ⟨q0, q1, q2, q3⟩ := row_fq rb
  have B7 := Lib.hid b7
  clear b7 ra rb
  by_cases n0 : ¬ a < b'
  · have h0 := n0
    clear n0
    have g0 : decide (a < b') = false := decide_eq_false h0
    have R := Lib.hid (ovl_a (f := (t, a, b, v)) (g := (t', a', b', v')) h0)
    clear h0
    go_enter Try.func39, Try.ntmps39
    go_wp2_with fail
    go_ret
    exact ⟨ret_bool R.out.symm, B7.out⟩
  have h0 := Decidable.not_not.1 n0
  clear n0
  by_cases n1 : ¬ a' < b
  · have h1 := n1
    clear n1
    have g1 : decide (a' < b) = false := decide_eq_false h1
    have R := Lib.hid (ovl_b (f := (t, a, b, v)) (g := (t', a', b', v')) h1)
    clear h1
    go_enter Try.func39, Try.ntmps39
    go_wp2_with fail
    go_ret
    exact ⟨ret_bool R.out.symm, B7.out⟩
  have h1 := Decidable.not_not.1 n1
  clear n1
  have R := Lib.hid (ovl_yes (f := (t, a, b, v)) (g := (t', a', b', v')) h0 h1)
  go_enter Try.func39, Try.ntmps39
  go_wp2_with fail
  go_ret
  exact ⟨ret_bool R.out.symm, B7.out⟩
theorem tdiv_cnt {t a b v : Int} (h : sndF (t, a, b, v) = true) : (b - a - 1).tdiv v + 1 = ((cntF (t, a, b, v) : Nat) : Int) := by
  obtain ⟨h1, h2, h3, h4, h5⟩ := snd_iff.1 h
  have q0 : 0 ≤ (b - a - 1) / v := Int.ediv_nonneg (by omega) (by omega)
  unfold cntF
  rw [Int.tdiv_eq_ediv_of_nonneg (by omega)]
  simp only
  omega
set_option maxRecDepth 100000 in
set_option maxHeartbeats 4000000 in
theorem rcnt_any (t a b v : Int) (h : sndF (t, a, b, v) = true) (w : World) : Calls Try.prog 25 #[fqV t a b v] w fun e w' => e = .returned (.int .i64 ((cntF (t, a, b, v) : Nat) : Int)) ∧ Below w.heap.size w w' := by
  obtain ⟨w7, hw7⟩ : ∃ W, w.alloc (boxF t a b v) = W := ⟨_, rfl⟩
  obtain ⟨b7, p0, p1, p2, p3, s7, c7⟩ := box_fq hw7
  have B7 := Lib.hid b7
  clear b7 c7 s7
  obtain ⟨h1, h2, h3, h4, h5⟩ := snd_iff.1 h
  have R := Lib.hid (tdiv_cnt h)
  have L := Lib.hid (cnt_le h)
  clear h
  have q0 : 0 ≤ (b - a - 1).tdiv v := by
    rw [Int.tdiv_eq_ediv_of_nonneg (by omega)]
    exact Int.ediv_nonneg (by omega) (by omega)
  have q1 : (b - a - 1).tdiv v ≤ 172800 := by have := R.out; have := L.out; omega
  have e0 : v ≠ 0 := by omega
  go_enter Try.func25, Try.ntmps25
  go_wp2_with fail
  go_ret
  exact ⟨ret_int (by first | exact R.out | (rw [← R.out]; simp)), B7.out⟩
end Go.Proofs.Ytahnaidkobodaaa
