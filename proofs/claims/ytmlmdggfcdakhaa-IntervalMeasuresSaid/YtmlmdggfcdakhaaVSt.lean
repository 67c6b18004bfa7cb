/-
  Spans in memory: as cells, as slices of a call's own or handed in; Valid, cmp.Compare, and the comparison by which spans are sorted. Condition: none beyond each theorem's own hypotheses.
-/
import Derived.Test.YtmlmdggfcdakhaaIvl
import Derived.Test.YtmlmdggfcdakhaaFrm
import Derived.Lib.Small
namespace Go.Proofs.Ytmlmdggfcdakhaa
open Go.RowKit

/-- A span as cells. -/
def sc (s : Sp) : List Value := [.int .i64 s.1, .int .i64 s.2]
theorem sc_len (s : Sp) : (sc s).length = 2 := rfl
theorem sc_one (s : Sp) : ∀ u ∈ sc s, u.oneCell' = true := by
  intro u hu
  simp [sc] at hu
  rcases hu with rfl | rfl <;> rfl
theorem info_sp : (Try.prog.info? 27).map (fun i => (i.zero, i.size, i.bytes)) = some (some (.agg #[.int .i64 0, .int .i64 0]), 2, 16) := by kernel_rfl
theorem info_rp : (Try.prog.info? 24).map (fun i => (i.zero, i.size, i.bytes)) = some (some (.agg #[.int .i64 0, .int .i64 0]), 2, 16) := by kernel_rfl
/-- A slice of the program's spans, of the call's own. -/
abbrev OwnV := @OwnG Sp sc 27 2
/-- A slice of the reference's spans, of the call's own. -/
abbrev OwnR := @OwnG Sp sc 24 2
/-- A slice of spans of either kind. -/
abbrev LstV := @LstG Sp sc
/-- A span's two cells in a slice. -/
theorem sp_at {w : World} {A : Option Addr} {n c : Nat} {l : List Sp} (h : LstV w (.slice A n c) l) {i : Nat} {s : Sp} (hs : l[i]? = some s) :
    ∃ b o, A = some ⟨b, o, none⟩ ∧ b < w.heap.size ∧ w.cell? ⟨b, o + i * 2, none⟩ = some (.int .i64 s.1) ∧ w.cell? ⟨b, o + i * 2 + 1, none⟩ = some (.int .i64 s.2) := by
  obtain ⟨A', c', hv, _, _, hx⟩ := h
  cases hv
  have hi := (List.getElem?_eq_some_iff.1 hs).1
  obtain ⟨b, o, rfl, hb, hcell⟩ := hx (by omega)
  exact ⟨b, o, rfl, hb, hcell (i * 2) _ (by rw [← Nat.add_zero (i * 2), fl_at sc_len hs 0 (by omega)]; rfl), (hcell (i * 2 + 1) _ (by rw [fl_at sc_len hs 1 (by omega)]; rfl) : _)⟩

theorem valid_any (s : Sp) (w : World) : Calls Try.prog 12 #[.agg #[.int .i64 s.1, .int .i64 s.2]] w fun e w' => e = .returned (.bool (decide (s.1 < s.2))) ∧ Below w.heap.size w w' := by
  obtain ⟨a, b⟩ := s
  go_enter Try.func12, Try.ntmps12
  go_wp2_with fail
  go_ret
  exact ⟨rfl, (Below.refl _ _).alloc (Nat.le_refl _) _⟩
theorem nan_any (a : Int) (w : World) : Calls Try.prog 49 #[.int .i64 a] w fun e w' => e = .returned (.bool false) ∧ w = w' := by
  go_enter Try.func49, Try.ntmps49
  go_wp2_with fail
  go_ret
  exact ⟨by simp, rfl⟩
theorem compare_any (a b : Int) (w : World) : Calls Try.prog 41 #[.int .i64 a, .int .i64 b] w fun e w' => e = .returned (.int .i64 (Lib.compareInt a b)) ∧ w = w' := by
  unfold Lib.compareInt
  by_cases h1 : a < b
  · rw [if_pos h1]
    go_enter Try.func41, Try.ntmps41
    go_wp2_with fail
    refine (nan_any a _).mono ?_
    rintro e w' ⟨rfl, rfl⟩
    go_wp2_with fail
    refine (nan_any b _).mono ?_
    rintro e w' ⟨rfl, rfl⟩
    go_wp2_with fail
    go_ret
    exact ⟨rfl, rfl⟩
  · rw [if_neg h1]
    have d1 : decide (a < b) = false := decide_eq_false h1
    by_cases h2 : b < a
    · rw [if_pos h2]
      clear h1
      go_enter Try.func41, Try.ntmps41
      go_wp2_with fail
      refine (nan_any a _).mono ?_
      rintro e w' ⟨rfl, rfl⟩
      go_wp2_with fail
      refine (nan_any b _).mono ?_
      rintro e w' ⟨rfl, rfl⟩
      go_wp2_with fail
      go_ret
      exact ⟨rfl, rfl⟩
    · rw [if_neg h2]
      have d2 : decide (b < a) = false := decide_eq_false h2
      clear h1 h2
      go_enter Try.func41, Try.ntmps41
      go_wp2_with fail
      refine (nan_any a _).mono ?_
      rintro e w' ⟨rfl, rfl⟩
      go_wp2_with fail
      refine (nan_any b _).mono ?_
      rintro e w' ⟨rfl, rfl⟩
      go_wp2_with fail
      go_ret
      exact ⟨rfl, rfl⟩
end Go.Proofs.Ytmlmdggfcdakhaa
