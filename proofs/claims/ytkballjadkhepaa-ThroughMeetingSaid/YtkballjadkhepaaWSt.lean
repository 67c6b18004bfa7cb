/-
  A slice of calls in memory: the cells of a call, a call put into a box of its own; '!=' of two calls. Condition: none beyond each theorem's own hypotheses.
-/
import Derived.Test.YtkballjadkhepaaOpenG
import Derived.Test.YtkballjadkhepaaRowS
import Derived.Test.YtkballjadkhepaaFrm
import Derived.Test.YtkballjadkhepaaSameI
import Derived.Test.YtkballjadkhepaaTcl
import Derived.Lib.QuietBelow
namespace Go.Proofs.Ytkballjadkhepaa
open Go.RowKit

/-- A call as cells. -/
def cc (x : Cl) : List Value := [.int .i64 x.1, .int .i64 x.2.1, .int .i64 x.2.2.1, .bool x.2.2.2.1, .bool x.2.2.2.2]
theorem cc_len (x : Cl) : (cc x).length = 5 := rfl
theorem cc_one (x : Cl) : ∀ u ∈ cc x, u.oneCell' = true := by
  intro u hu
  simp [cc] at hu
  rcases hu with rfl | rfl | rfl | rfl | rfl <;> rfl
abbrev LstC := @LstG Cl cc
abbrev OwnC := @OwnG Cl cc 51 5
theorem info_cc : (Try.prog.info? 51).map (fun i => (i.zero, i.size, i.bytes)) = some (some (.agg #[.int .i64 0, .int .i64 0, .int .i64 0, .bool false, .bool false]), 5, 32) := by kernel_rfl
/-- The five cells of a call. -/
theorem five_at {w : World} {A : Option Addr} {n c : Nat} {l : List Cl} (h : LstC w (.slice A n c) l) {i : Nat} {s a d : Int} {o e : Bool} (hs : l[i]? = some (s, a, d, o, e)) :
    ∃ b f, A = some ⟨b, f, none⟩ ∧ b < w.heap.size ∧ w.cell? ⟨b, f + i * 5, none⟩ = some (.int .i64 s) ∧ w.cell? ⟨b, f + i * 5 + 1, none⟩ = some (.int .i64 a) ∧ w.cell? ⟨b, f + i * 5 + 2, none⟩ = some (.int .i64 d) ∧ w.cell? ⟨b, f + i * 5 + 3, none⟩ = some (.bool o) ∧ w.cell? ⟨b, f + i * 5 + 4, none⟩ = some (.bool e) := by
  obtain ⟨A', c', hv, _, _, hx⟩ := h
  cases hv
  have hi := (List.getElem?_eq_some_iff.1 hs).1
  obtain ⟨b, f, rfl, hb, hcell⟩ := hx (by omega)
  exact ⟨b, f, rfl, hb, hcell (i * 5) _ (by rw [← Nat.add_zero (i * 5), fl_at cc_len hs 0 (by omega)]; rfl), (hcell (i * 5 + 1) _ (by rw [fl_at cc_len hs 1 (by omega)]; rfl) : _), (hcell (i * 5 + 2) _ (by rw [fl_at cc_len hs 2 (by omega)]; rfl) : _), (hcell (i * 5 + 3) _ (by rw [fl_at cc_len hs 3 (by omega)]; rfl) : _), (hcell (i * 5 + 4) _ (by rw [fl_at cc_len hs 4 (by omega)]; rfl) : _)⟩
/-- A call in a box. -/
abbrev boxC (s a d : Int) (o e : Bool) : Obj := .cells #[.int .i64 s, .int .i64 a, .int .i64 d, .bool o, .bool e] 51 (0, 0)
theorem box_cc {w w7 : World} {s a d : Int} {o e : Bool} (h : w.alloc (boxC s a d o e) = w7) :
    Below w.heap.size w w7 ∧ w7.cell? ⟨w.heap.size, 0, none⟩ = some (.int .i64 s) ∧ w7.cell? ⟨w.heap.size, 1, none⟩ = some (.int .i64 a) ∧ w7.cell? ⟨w.heap.size, 2, none⟩ = some (.int .i64 d) ∧ w7.cell? ⟨w.heap.size, 3, none⟩ = some (.bool o) ∧ w7.cell? ⟨w.heap.size, 4, none⟩ = some (.bool e) ∧ w.heap.size < w7.heap.size := by
  subst h
  have c7 := heap_alloc_new w (boxC s a d o e)
  exact ⟨(Below.refl _ _).alloc (Nat.le_refl _) _, by rw [cell_of_row _ _ 0 _ _ _ c7]; rfl, by rw [cell_of_row _ _ 1 _ _ _ c7]; rfl, by rw [cell_of_row _ _ 2 _ _ _ c7]; rfl, by rw [cell_of_row _ _ 3 _ _ _ c7]; rfl, by rw [cell_of_row _ _ 4 _ _ _ c7]; rfl, by simp⟩
theorem ret_chk {a b c d : Int} (h : a = b) (k : c = d) : Ending.returned (.tuple #[.int .i64 a, .int .i64 c]) = .returned (.tuple #[.int .i64 b, .int .i64 d]) := by rw [h, k]
/-- '!=' of two calls. -/
theorem neq_cc (s a d : Int) (o e : Bool) (s' a' d' : Int) (o' e' : Bool) (q : Bool) (h : (!decide ((s, a, d, o, e) = (s', a', d', o', e'))) = q) (W : World) : (binOp BinOp.neq 51 (.agg #[.int .i64 s, .int .i64 a, .int .i64 d, .bool o, .bool e]) (.agg #[.int .i64 s', .int .i64 a', .int .i64 d', .bool o', .bool e'])).run Try.prog W = .ok (.bool q) W := by
  subst h
  by_cases h1 : s = s'
  · by_cases h2 : a = a'
    · by_cases h3 : d = d'
      · subst h1 h2 h3
        cases o <;> cases o' <;> cases e <;> cases e' <;> go_simp
      · subst h1 h2
        have : (d == d') = false := beq_false h3
        go_simp
    · subst h1
      have : (a == a') = false := beq_false h2
      go_simp
  · have : (s == s') = false := beq_false h1
    go_simp
/-! ### Pairs of indices: rows of arrays of two ints -/
/-- A pair as cells. -/
def pe (p : Pr) : List Value := [.int .i64 (p.1 : Int), .int .i64 (p.2 : Int)]
theorem pe_len (p : Pr) : (pe p).length = 2 := rfl
theorem pe_one (p : Pr) : ∀ u ∈ pe p, u.oneCell' = true := by
  intro u hu
  simp [pe] at hu
  rcases hu with rfl | rfl <;> rfl
abbrev LstP := @LstG Pr pe
/-- The two cells of a pair. -/
theorem two_at {w : World} {A : Option Addr} {n c : Nat} {l : List Pr} (h : LstP w (.slice A n c) l) {i x y : Nat} (hs : l[i]? = some (x, y)) :
    ∃ b f, A = some ⟨b, f, none⟩ ∧ b < w.heap.size ∧ w.cell? ⟨b, f + i * 2, none⟩ = some (.int .i64 (x : Int)) ∧ w.cell? ⟨b, f + i * 2 + 1, none⟩ = some (.int .i64 (y : Int)) := by
  obtain ⟨A', c', hv, _, _, hx⟩ := h
  cases hv
  have hi := (List.getElem?_eq_some_iff.1 hs).1
  obtain ⟨b, f, rfl, hb, hcell⟩ := hx (by omega)
  exact ⟨b, f, rfl, hb, hcell (i * 2) _ (by rw [← Nat.add_zero (i * 2), fl_at pe_len hs 0 (by omega)]; rfl), (hcell (i * 2 + 1) _ (by rw [fl_at pe_len hs 1 (by omega)]; rfl) : _)⟩
theorem run_eqIn_two {T : TypeId} (hT : Try.prog.underlying T = some (.array 2 3)) (a b a' b' : Int) (W : World) (m : Nat) :
    (Op.equalIn (m + 1 + 1) T (.agg #[.int .i64 a, .int .i64 b]) (.agg #[.int .i64 a', .int .i64 b'])).run Try.prog W = .ok (decide (a = a' ∧ b = b')) W := by
  have u3 := Try.underlying3
  have a3 := Try.isAgg3
  have z3 := Try.sizeOf3
  have r4 : List.range' 0 2 = [0, 1] := rfl
  have P : ∀ (p q : Int) (W : World), (part 3 #[.int .i64 p, .int .i64 q] (0 * 1)).run Try.prog W = .ok (.int .i64 p) W ∧ (part 3 #[.int .i64 p, .int .i64 q] (1 * 1)).run Try.prog W = .ok (.int .i64 q) W := by
    intro p q W
    simp [part, a3]
  have E : ∀ (x y : Int) (W : World), (Op.equalIn (m + 1) 3 (.int .i64 x) (.int .i64 y)).run Try.prog W = .ok (x == y) W := fun x y W => run_equalIn_int W m _ _ _ x y u3
  rw [Op.equalIn]
  simp only [Sem.run_bind, run_underlying hT, Result.andThen_ok, z3]
  by_cases h1 : a = a'
  · by_cases h2 : b = b' <;> simp [r4, (P _ _ _).1, (P _ _ _).2, E, h1, h2]
  · simp [r4, P, E, h1]
end Go.Proofs.Ytkballjadkhepaa
