/-
  Lists of lists of ints: slices of slices that a call makes or is handed. Condition: none beyond each theorem's own hypotheses.
-/
import Derived.Test.YtfbobfejnbhjbaaDoorRow
namespace Go.Proofs.YtfbobfejnbhjbaaDoor
open Go.RowKit

/-! ### Slices of slices -/
/-- A slice: its array, its length, its capacity. -/
abbrev SlT := Option Addr × Nat × Nat
def svV (t : SlT) : Value := .slice t.1 t.2.1 t.2.2
def sv (t : SlT) : List Value := [svV t]
theorem sv_len (t : SlT) : (sv t).length = 1 := rfl
theorem sv_one (t : SlT) : ∀ u ∈ sv t, u.oneCell' = true := by
  intro u hu
  simp [sv, svV] at hu
  subst hu
  rfl
theorem info_sl : (Tryd.prog.info? 41).map (fun i => (i.zero, i.size, i.bytes)) = some (some (.slice none 0 0), 1, 24) := by kernel_rfl
theorem fl_sv (l : List SlT) : fl sv l = l.map svV := by
  induction l with
  | nil => rfl
  | cons a r ih => rw [fl_cons, ih]; rfl
abbrev OwnL := @OwnG SlT sv 41 1
theorem OwnL.putn {w : World} {base g c n : Nat} {l : List SlT} (hl : l.length = n) (h : OwnL w base (.slice (some ⟨g, 0, none⟩) n c) l) (i : Nat) (t : SlT) : OwnL (w.setCell ⟨g, i, none⟩ (svV t)) base (.slice (some ⟨g, 0, none⟩) n c) (l.set i t) := by
  subst hl
  have h1 := (World.ownsRow.stored h i (svV t)).1
  have e : (fl sv l).set i (svV t) = fl sv (l.set i t) := by rw [fl_sv, fl_sv, List.map_set]
  rw [e] at h1
  show World.ownsRow _ base _ 1 _ (l.set i t).length _
  rw [List.length_set]
  exact h1
theorem OwnL.atn {w : World} {base g c n : Nat} {l : List SlT} (hl : l.length = n) (h : OwnL w base (.slice (some ⟨g, 0, none⟩) n c) l) {i : Nat} {t : SlT} (ht : l[i]? = some t) : w.cell? ⟨g, i, none⟩ = some (svV t) ∧ w.frozen? ⟨g, i, none⟩ = false := by
  subst hl
  have hi := (List.getElem?_eq_some_iff.1 ht).1
  refine ⟨?_, World.ownsRow.frozenAt h _⟩
  rw [World.ownsRow.cellAt h _ (by omega), fl_sv, List.getElem?_map, ht]
  rfl
/-- The value is a slice of slices that reads as these lists. -/
def LL (w : World) (u : Value) (ls : List (List Int)) : Prop := ∃ ts : List SlT, LstG sv w u ts ∧ ts.length = ls.length ∧ ∀ (i : Nat) t l, ts[i]? = some t → ls[i]? = some l → LstI w (svV t) l
theorem LL.below {w w' : World} {u : Value} {ls : List (List Int)} (h : LL w u ls) (hb : Below w.heap.size w w') : LL w' u ls := by
  obtain ⟨ts, h1, h2, h3⟩ := h
  exact ⟨ts, h1.below hb, h2, fun i t l ht hl => (h3 i t l ht hl).below hb⟩
theorem LL.nil (w : World) : LL w (.slice none 0 0) [] := ⟨[], LstG.nil _ _, rfl, fun i t l ht => by simp at ht⟩
/-- An element. -/
theorem LL.at {w : World} {A : Option Addr} {n c : Nat} {ls : List (List Int)} (h : LL w (.slice A n c) ls) {i : Nat} {l : List Int} (hl : ls[i]? = some l) : n = ls.length ∧ ∃ b o t, A = some ⟨b, o, none⟩ ∧ b < w.heap.size ∧ w.cell? ⟨b, o + i, none⟩ = some (svV t) ∧ LstI w (svV t) l := by
  obtain ⟨ts, ⟨A', c', hv, _, _, hx⟩, h2, h3⟩ := h
  have hi := (List.getElem?_eq_some_iff.1 hl).1
  cases hv
  obtain ⟨t, ht⟩ := at_lt (l := ts) (k := i) (by omega)
  obtain ⟨b, o, rfl, hb, hcell⟩ := hx (by omega)
  exact ⟨h2, b, o, t, rfl, hb, hcell i _ (by rw [fl_sv, List.getElem?_map, ht]; rfl), h3 i t l ht hl⟩
theorem LL.len {w : World} {u : Value} {ls : List (List Int)} (h : LL w u ls) : ∃ A c, u = .slice A ls.length c := by
  obtain ⟨ts, ⟨A, c, hv, _⟩, h2, _⟩ := h
  exact ⟨A, c, by rw [hv, h2]⟩
/-- The rows so far: each lies above g. -/
def Rows2 (w : World) (g : Nat) (ts : List SlT) (ls : List (List Int)) : Prop := ts.length = ls.length ∧ ∀ (i : Nat) t l, ts[i]? = some t → ls[i]? = some l → OwnI w g (svV t) l
theorem Rows2.below {w w' : World} {g : Nat} {ts : List SlT} {ls : List (List Int)} (h : Rows2 w g ts ls) (hb : Below w.heap.size w w') : Rows2 w' g ts ls := ⟨h.1, fun i t l ht hl => (h.2 i t l ht hl).below hb⟩
theorem Rows2.store {w : World} {g : Nat} {ts : List SlT} {ls : List (List Int)} (h : Rows2 w g ts ls) {p : Addr} (hp : p.block < g) (u : Value) : Rows2 (w.setCell p u) g ts ls := ⟨h.1, fun i t l ht hl => ownsRow_setCell_below (h.2 i t l ht hl) hp u⟩
theorem Rows2.snoc {w : World} {g : Nat} {ts : List SlT} {ls : List (List Int)} {t : SlT} {l : List Int} (h : Rows2 w g ts ls) (ho : OwnI w g (svV t) l) : Rows2 w g (ts ++ [t]) (ls ++ [l]) := by
  refine ⟨by simp [h.1], fun i t' l' ht hl => ?_⟩
  rw [List.getElem?_append] at ht hl
  rw [← h.1] at hl
  split at ht
  · next hi => rw [if_pos hi] at hl; exact h.2 i t' l' ht hl
  · next hi =>
    rw [if_neg hi] at hl
    obtain ⟨k, hk⟩ : ∃ k, i - ts.length = k := ⟨_, rfl⟩
    rw [hk] at ht hl
    cases k with
    | zero => simp at ht hl; rw [← ht, ← hl]; exact ho
    | succ k => simp at ht
theorem Rows2.ll {w : World} {g : Nat} {ts : List SlT} {ls : List (List Int)} (h : Rows2 w g ts ls) {u : Value} (hu : LstG sv w u ts) : LL w u ls := ⟨ts, hu, h.1, fun i t l ht hl => OwnI.lst (h.2 i t l ht hl)⟩
end Go.Proofs.YtfbobfejnbhjbaaDoor
