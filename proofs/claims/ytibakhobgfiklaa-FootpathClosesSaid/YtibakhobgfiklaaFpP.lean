/-
  Plain facts: what the walks over a matrix of lengths are, what is left of them when they are sorted and compared: the closure. The edges that are left of sorted footpaths tell the same times. Condition: none beyond each theorem's own hypotheses.
-/
import Derived.Test.YtibakhobgfiklaaFpZ
import Derived.Test.YtibakhobgfiklaaMd
namespace Go.Proofs.Ytibakhobgfiklaa
open Go

/-! ### Sorted rows -/
theorem cf_sym {x y : Fp} (h : cfP x y = 0) : cfP y x = 0 := by rw [cfP_zero] at *; omega
theorem cf_eqv {x y z : Fp} (h : cfP x y = 0) (h2 : cfP y z = 0) : cfP x z = 0 := by rw [cfP_zero] at *; omega
theorem cf_lt {x y z : Fp} (h : cfP x y < 0) (h2 : cfP y z < 0) : cfP x z < 0 := by rw [cfP_neg] at *; omega
theorem cf_lt_le {x y z : Fp} (h : cfP x y < 0) (h2 : cfP y z < 0 ∨ cfP y z = 0) : cfP x z < 0 := by
  rcases h2 with h2 | h2
  · exact cf_lt h h2
  · rw [cfP_zero] at h2; rw [cfP_neg] at *; omega
theorem cf_le_lt {x y z : Fp} (h : cfP x y < 0 ∨ cfP x y = 0) (h2 : cfP y z < 0) : cfP x z < 0 := by
  rcases h with h | h
  · exact cf_lt h h2
  · rw [cfP_zero] at h; rw [cfP_neg] at *; omega
theorem cf_irr {x y : Fp} (h : cfP x y < 0) (h2 : cfP y x < 0 ∨ cfP y x = 0) : False := by
  rcases h2 with h2 | h2
  · rw [cfP_neg] at *; omega
  · rw [cfP_zero] at h2; rw [cfP_neg] at h; omega
abbrev SrtW (r : List Fp) : Prop := r.Pairwise fun x y => cfP x y < 0 ∨ cfP x y = 0
abbrev SrtS (r : List Fp) : Prop := r.Pairwise fun x y => cfP x y < 0
theorem srt_unique : ∀ a b : List Fp, SrtS a → SrtS b → (∀ x, x ∈ a ↔ x ∈ b) → a = b
  | [], [], _, _, _ => rfl
  | [], y :: s, _, _, h => absurd ((h y).2 List.mem_cons_self) List.not_mem_nil
  | x :: r, [], _, _, h => absurd ((h x).1 List.mem_cons_self) List.not_mem_nil
  | x :: r, y :: s, h1, h2, h => by
    obtain ⟨hx, hr⟩ := List.pairwise_cons.1 h1
    obtain ⟨hy, hs⟩ := List.pairwise_cons.1 h2
    have e : x = y := by
      rcases List.mem_cons.1 ((h x).1 List.mem_cons_self) with e | hxs
      · exact e
      · rcases List.mem_cons.1 ((h y).2 List.mem_cons_self) with e | hyr
        · exact e.symm
        · exact (cf_irr (hy x hxs) (.inl (hx y hyr))).elim
    subst e
    have ni : ∀ z, z ∈ r → z ≠ x := fun z hz e => cf_irr (hx z hz) (.inl (by rw [e]; have := hx z hz; rw [e] at this; exact this))
    have ni' : ∀ z, z ∈ s → z ≠ x := fun z hz e => cf_irr (hy z hz) (.inl (by rw [e]; have := hy z hz; rw [e] at this; exact this))
    rw [srt_unique r s hr hs (fun z => ⟨fun hz => by
      rcases List.mem_cons.1 ((h z).1 (List.mem_cons_of_mem _ hz)) with e | h3
      · exact absurd e (ni z hz)
      · exact h3, fun hz => by
      rcases List.mem_cons.1 ((h z).2 (List.mem_cons_of_mem _ hz)) with e | h3
      · exact absurd e (ni' z hz)
      · exact h3⟩)]

/-! ### What is left when equal neighbours are struck -/
theorem like_iff (x y : Fp) : likeE x y = true ↔ cfP x y = 0 := by
  unfold likeE
  rw [cfP_zero, decide_eq_true_iff]
theorem cpR_mem {e : Fp → Fp → Bool} : ∀ (r : List Fp) (p z : Fp), z ∈ cpR e p r → z ∈ r
  | [], _, _, h => h
  | b :: r, p, z, h => by
    unfold cpR at h
    split at h
    · exact List.mem_cons_of_mem _ (cpR_mem r b z h)
    · rcases List.mem_cons.1 h with rfl | h
      · exact List.mem_cons_self
      · exact List.mem_cons_of_mem _ (cpR_mem r b z h)
theorem cpF_mem {e : Fp → Fp → Bool} {r : List Fp} {z : Fp} (h : z ∈ cpF e r) : z ∈ r := by
  cases r with
  | nil => exact h
  | cons a r =>
    rcases List.mem_cons.1 h with rfl | h
    · exact List.mem_cons_self
    · exact List.mem_cons_of_mem _ (cpR_mem r a z h)
/-- Each one has one like it among those that are left. -/
theorem cpR_rep : ∀ (r : List Fp) (p : Fp), ∀ y ∈ p :: r, ∃ z ∈ p :: cpR likeE p r, cfP z y = 0
  | [], p, y, hy => by
    rw [List.mem_singleton.1 hy]
    exact ⟨p, List.mem_cons_self, (cfP_zero).2 ⟨rfl, rfl, rfl⟩⟩
  | b :: r, p, y, hy => by
    unfold cpR
    rcases List.mem_cons.1 hy with rfl | hy
    · exact ⟨y, List.mem_cons_self, (cfP_zero).2 ⟨rfl, rfl, rfl⟩⟩
    · obtain ⟨z, hz, hc⟩ := cpR_rep r b y hy
      by_cases hl : likeE b p = true
      · rw [if_pos hl]
        rcases List.mem_cons.1 hz with rfl | hz
        · exact ⟨p, List.mem_cons_self, cf_eqv (cf_sym ((like_iff _ _).1 hl)) hc⟩
        · exact ⟨z, List.mem_cons_of_mem _ hz, hc⟩
      · rw [if_neg hl]
        exact ⟨z, List.mem_cons_of_mem _ hz, hc⟩
theorem cpF_rep {r : List Fp} {y : Fp} (hy : y ∈ r) : ∃ z ∈ cpF likeE r, cfP z y = 0 := by
  cases r with
  | nil => cases hy
  | cons a r => exact cpR_rep r a y hy
/-- The ones that are left are in strict order. -/
theorem cpR_srt : ∀ (r : List Fp) (p : Fp), SrtW (p :: r) → SrtS (cpR likeE p r) ∧ ∀ z ∈ cpR likeE p r, cfP p z < 0
  | [], _, _ => ⟨List.Pairwise.nil, fun z hz => by cases hz⟩
  | b :: r, p, h => by
    obtain ⟨h1, h2⟩ := List.pairwise_cons.1 h
    obtain ⟨i1, i2⟩ := cpR_srt r b h2
    have hb := h1 b List.mem_cons_self
    unfold cpR
    by_cases hl : likeE b p = true
    · rw [if_pos hl]
      refine ⟨i1, fun z hz => cf_le_lt hb (i2 z hz)⟩
    · rw [if_neg hl]
      have hlt : cfP p b < 0 := by
        rcases hb with hb | hb
        · exact hb
        · exact absurd ((like_iff _ _).2 (cf_sym hb)) hl
      refine ⟨List.pairwise_cons.2 ⟨i2, i1⟩, fun z hz => ?_⟩
      rcases List.mem_cons.1 hz with rfl | hz
      · exact hlt
      · exact cf_lt hlt (i2 z hz)
theorem cpF_srt {r : List Fp} (h : SrtW r) : SrtS (cpF likeE r) := by
  cases r with
  | nil => exact List.Pairwise.nil
  | cons a r =>
    obtain ⟨h1, h2⟩ := cpR_srt r a h
    exact List.pairwise_cons.2 ⟨h2, h1⟩
/-- Where ties lie in an order, the first of them is left. -/
theorem cpR_first {P : Fp → Fp → Prop} (hP : ∀ x y, P x y → ¬ P y x) : ∀ (r : List Fp) (p : Fp), SrtW (p :: r) → ((p :: r).Pairwise fun x y => cfP x y = 0 → P x y) → ∀ z ∈ cpR likeE p r, ∀ y ∈ p :: r, cfP z y = 0 → z = y ∨ P z y
  | [], _, _, _, z, hz, _, _, _ => by cases hz
  | b :: r, p, h, hs, z, hz, y, hy, hc => by
    obtain ⟨h1, h2⟩ := List.pairwise_cons.1 h
    obtain ⟨s1, s2⟩ := List.pairwise_cons.1 hs
    have hb := h1 b List.mem_cons_self
    have ih := cpR_first hP r b h2 s2
    unfold cpR at hz
    by_cases hl : likeE b p = true
    · rw [if_pos hl] at hz
      rcases List.mem_cons.1 hy with rfl | hy
      · have hzb : cfP z b = 0 := cf_eqv hc (cf_sym ((like_iff _ _).1 hl))
        have hzr := cpR_mem r b z hz
        have pb := (List.pairwise_cons.1 s2).1 z hzr (cf_sym hzb)
        rcases ih z hz b List.mem_cons_self hzb with e | h3
        · subst e; exact absurd pb (hP _ _ pb)
        · exact absurd pb (hP _ _ h3)
      · exact ih z hz y hy hc
    · rw [if_neg hl] at hz
      have hlt : cfP p b < 0 := by
        rcases hb with hb | hb
        · exact hb
        · exact absurd ((like_iff _ _).2 (cf_sym hb)) hl
      rcases List.mem_cons.1 hz with rfl | hz
      · rcases List.mem_cons.1 hy with rfl | hy
        · exact (cf_irr hlt (.inr hc)).elim
        · rcases List.mem_cons.1 hy with rfl | hy
          · exact .inl rfl
          · exact .inr ((List.pairwise_cons.1 s2).1 y hy hc)
      · rcases List.mem_cons.1 hy with rfl | hy
        · exact (cf_irr (cf_lt hlt ((cpR_srt r b h2).2 z hz)) (.inr hc)).elim
        · exact ih z hz y hy hc
theorem cpF_first {P : Fp → Fp → Prop} (hP : ∀ x y, P x y → ¬ P y x) {r : List Fp} (h : SrtW r) (hs : r.Pairwise fun x y => cfP x y = 0 → P x y) {z y : Fp} (hz : z ∈ cpF likeE r) (hy : y ∈ r) (hc : cfP z y = 0) : z = y ∨ P z y := by
  cases r with
  | nil => cases hy
  | cons a r =>
    rcases List.mem_cons.1 hz with rfl | hz
    · rcases List.mem_cons.1 hy with rfl | hy
      · exact .inl rfl
      · exact .inr ((List.pairwise_cons.1 hs).1 y hy hc)
    · exact cpR_first hP r a h hs z hz y hy hc

/-! ### The walks -/
/-- The walks of at most MaxWalk seconds, one for each pair. -/
def wkE (sf : Bool) (i j : Nat) : Option Nat → List Fp
  | some a => [((i : Int), (j : Int), (a : Int), sf)]
  | none => []
def wkC (n : Nat) (t : Nat → Nat → Option Nat) (sf : Bool) : List Fp := (List.range n).flatMap fun i => (List.range n).flatMap fun j => if i = j then [] else wkE sf i j (t i j)
theorem wk_mem {n : Nat} {t : Nat → Nat → Option Nat} {sf : Bool} {x : Fp} : x ∈ wkC n t sf ↔ ∃ i j a, i < n ∧ j < n ∧ i ≠ j ∧ t i j = some a ∧ x = ((i : Int), (j : Int), (a : Int), sf) := by
  unfold wkC
  rw [List.mem_flatMap]
  constructor
  · rintro ⟨i, hi, hx⟩
    obtain ⟨j, hj, hx⟩ := List.mem_flatMap.1 hx
    split at hx
    · cases hx
    · next hne =>
      cases e : t i j with
      | none => rw [e] at hx; cases hx
      | some a => rw [e] at hx; exact ⟨i, j, a, List.mem_range.1 hi, List.mem_range.1 hj, hne, e, List.mem_singleton.1 hx⟩
  · rintro ⟨i, j, a, hi, hj, hne, e, rfl⟩
    exact ⟨i, List.mem_range.2 hi, List.mem_flatMap.2 ⟨j, List.mem_range.2 hj, by rw [if_neg hne, e]; exact List.mem_singleton.2 rfl⟩⟩
theorem flat_srt {n : Nat} {f : Nat → List Fp} (h1 : ∀ i, i < n → SrtS (f i)) (h2 : ∀ i j, i < j → ∀ x ∈ f i, ∀ y ∈ f j, cfP x y < 0) : SrtS ((List.range n).flatMap f) := by
  show List.Pairwise _ _
  rw [List.pairwise_flatMap]
  refine ⟨fun i hi => h1 i (List.mem_range.1 hi), ?_⟩
  exact List.pairwise_lt_range.imp fun {i j} hij x hx y hy => h2 i j hij x hx y hy
theorem wk_srt (n : Nat) (t : Nat → Nat → Option Nat) (sf : Bool) : SrtS (wkC n t sf) := by
  have ends : ∀ {i j : Nat} {x : Fp}, x ∈ (if i = j then [] else wkE sf i j (t i j)) → x.1 = (i : Int) ∧ x.2.1 = (j : Int) := by
    intro i j x hx
    split at hx
    · cases hx
    · cases e : t i j with
      | none => rw [e] at hx; cases hx
      | some a => rw [e] at hx; rw [List.mem_singleton.1 hx]; exact ⟨rfl, rfl⟩
  unfold wkC
  refine flat_srt (fun i _ => flat_srt (fun j _ => ?_) (fun j k hjk x hx y hy => ?_)) (fun i k hik x hx y hy => ?_)
  · split
    · exact List.Pairwise.nil
    · cases t i j with
      | none => exact List.Pairwise.nil
      | some a => exact List.pairwise_singleton _ _
  · obtain ⟨a1, a2⟩ := ends hx
    obtain ⟨b1, b2⟩ := ends hy
    rw [cfP_neg]
    omega
  · obtain ⟨j, -, hx⟩ := List.mem_flatMap.1 hx
    obtain ⟨j', -, hy⟩ := List.mem_flatMap.1 hy
    obtain ⟨a1, a2⟩ := ends hx
    obtain ⟨b1, b2⟩ := ends hy
    rw [cfP_neg]
    omega
theorem clo_srt {n : Nat} {l : List Fp} {ta tf : Nat → Nat → Option Nat} (_ : l = l) : SrtS (cloC ta tf n) := by
  unfold cloC cloK rowC
  refine flat_srt (fun i _ => flat_srt (fun j _ => ?_) (fun j k hjk x hx y hy => ?_)) (fun i k hik x hx y hy => ?_)
  · split
    · exact List.Pairwise.nil
    · unfold entC
      cases ta i j with
      | none => exact List.Pairwise.nil
      | some a =>
        cases tf i j with
        | none => exact List.pairwise_singleton _ _
        | some f =>
          simp only
          split
          · refine List.pairwise_cons.2 ⟨fun y hy => ?_, List.pairwise_singleton _ _⟩
            rw [List.mem_singleton.1 hy, cfP_neg]
            exact .inr ⟨rfl, .inr ⟨rfl, by show (a : Int) < (f : Int); omega⟩⟩
          · exact List.pairwise_singleton _ _
  · split at hx
    · cases hx
    · split at hy
      · cases hy
      · obtain ⟨a1, a2, -⟩ := ent_mem hx
        obtain ⟨b1, b2, -⟩ := ent_mem hy
        rw [cfP_neg]
        omega
  · obtain ⟨j, -, hx⟩ := List.mem_flatMap.1 hx
    obtain ⟨j', -, hy⟩ := List.mem_flatMap.1 hy
    split at hx
    · cases hx
    · split at hy
      · cases hy
      · obtain ⟨a1, a2, -⟩ := ent_mem hx
        obtain ⟨b1, b2, -⟩ := ent_mem hy
        rw [cfP_neg]
        omega
/-- The walks over step-free footpaths, then those over all, sorted, those struck that are like the one ahead: the closure. -/
theorem clo_is {n : Nat} {l : List Fp} {ta tf : Nat → Nat → Option Nat} (ha : TmS (edF false l) n ta) (hf : TmS (edF true l) n tf) {r : List Fp} (hr : StbS (wkC n tf true ++ wkC n ta false) r) : cpF likeE r = cloC ta tf n := by
  have hw : SrtW r := hr.sorted
  have hst : r.Pairwise fun x y => cfP x y = 0 → (x.2.2.2 = true ∧ y.2.2.2 = false) := by
    refine hr.stable (List.pairwise_append.2 ⟨?_, ?_, ?_⟩)
    · exact (wk_srt n tf true).imp fun h e => by rw [e] at h; exact absurd h (by decide)
    · exact (wk_srt n ta false).imp fun h e => by rw [e] at h; exact absurd h (by decide)
    · intro x hx y hy _
      obtain ⟨_, _, _, -, -, -, -, rfl⟩ := wk_mem.1 hx
      obtain ⟨_, _, _, -, -, -, -, rfl⟩ := wk_mem.1 hy
      exact ⟨rfl, rfl⟩
  have first : ∀ {z y : Fp}, z ∈ cpF likeE r → y ∈ r → cfP z y = 0 → z = y ∨ (z.2.2.2 = true ∧ y.2.2.2 = false) := fun hz hy hc => cpF_first (P := fun x y => x.2.2.2 = true ∧ y.2.2.2 = false) (fun x y h h' => by rw [h.1] at h'; cases h'.2) hw hst hz hy hc
  have mem : ∀ {x : Fp}, x ∈ r ↔ (∃ i j a, i < n ∧ j < n ∧ i ≠ j ∧ tf i j = some a ∧ x = ((i : Int), (j : Int), (a : Int), true)) ∨ ∃ i j a, i < n ∧ j < n ∧ i ≠ j ∧ ta i j = some a ∧ x = ((i : Int), (j : Int), (a : Int), false) := by
    intro x
    rw [hr.perm.mem_iff, List.mem_append, wk_mem, wk_mem]
  -- one like a given one: the same stops and seconds
  have like : ∀ {i j a : Nat} {d : Bool} {z : Fp}, z ∈ r → cfP z ((i : Int), (j : Int), (a : Int), d) = 0 → (z = ((i : Int), (j : Int), (a : Int), true) ∧ tf i j = some a) ∨ (z = ((i : Int), (j : Int), (a : Int), false) ∧ ta i j = some a) := by
    intro i j a d z hz hc
    rw [cfP_zero] at hc
    rcases mem.1 hz with ⟨i', j', a', -, -, -, e, rfl⟩ | ⟨i', j', a', -, -, -, e, rfl⟩
    · simp only at hc
      obtain rfl : i' = i := by omega
      obtain rfl : j' = j := by omega
      obtain rfl : a' = a := by omega
      exact .inl ⟨rfl, e⟩
    · simp only at hc
      obtain rfl : i' = i := by omega
      obtain rfl : j' = j := by omega
      obtain rfl : a' = a := by omega
      exact .inr ⟨rfl, e⟩
  -- a walk that is not step-free is left only if no step-free one takes that time
  have notf : ∀ {i j a : Nat}, i < n → j < n → i ≠ j → ((i : Int), (j : Int), (a : Int), false) ∈ cpF likeE r → tf i j ≠ some a := by
    intro i j a hi hj hne hz e
    rcases first hz (mem.2 (.inl ⟨i, j, a, hi, hj, hne, e, rfl⟩)) ((cfP_zero).2 ⟨rfl, rfl, rfl⟩) with h | h
    · simp at h
    · cases h.1
  refine srt_unique _ _ (cpF_srt hw) (clo_srt (rfl : l = l)) (fun x => ?_)
  rw [clo_mem]
  constructor
  · intro hx
    rcases mem.1 (cpF_mem hx) with ⟨i, j, f, hi, hj, hne, e, rfl⟩ | ⟨i, j, a, hi, hj, hne, e, rfl⟩
    · obtain ⟨a, ea, hle⟩ := free_ge ha hf hi hj hne e
      refine ⟨i, j, hi, hj, hne, ?_⟩
      by_cases h : a < f
      · rw [ent_two ea e h]
        simp
      · obtain rfl : a = f := by omega
        rw [ent_one ea (fun g hg => by rw [e] at hg; have := Option.some.inj hg; omega), e]
        simp
    · have nt := notf hi hj hne hx
      refine ⟨i, j, hi, hj, hne, ?_⟩
      unfold entC
      rw [e]
      refine List.mem_cons.2 (.inl ?_)
      rw [decide_eq_false nt]
  · rintro ⟨i, j, hi, hj, hne, hx⟩
    obtain ⟨-, -, h⟩ := ent_mem hx
    rcases h with ⟨a, ea, rfl⟩ | ⟨a, f, ea, ef, hlt, rfl⟩
    · by_cases ht : tf i j = some a
      · rw [decide_eq_true ht]
        obtain ⟨z, hz, hc⟩ := cpF_rep (r := r) (mem.2 (.inl ⟨i, j, a, hi, hj, hne, ht, rfl⟩))
        rcases like (cpF_mem hz) hc with ⟨rfl, -⟩ | ⟨rfl, -⟩
        · exact hz
        · exact absurd ht (notf hi hj hne hz)
      · rw [decide_eq_false ht]
        obtain ⟨z, hz, hc⟩ := cpF_rep (r := r) (mem.2 (.inr ⟨i, j, a, hi, hj, hne, ea, rfl⟩))
        rcases like (cpF_mem hz) hc with ⟨rfl, e⟩ | ⟨rfl, -⟩
        · exact absurd e ht
        · exact hz
    · obtain ⟨z, hz, hc⟩ := cpF_rep (r := r) (mem.2 (.inl ⟨i, j, f, hi, hj, hne, ef, rfl⟩))
      rcases like (cpF_mem hz) hc with ⟨rfl, -⟩ | ⟨rfl, e⟩
      · exact hz
      · rw [ea] at e
        have := Option.some.inj e
        omega

/-! ### The edges -/
/-- The ends of sorted footpaths struck: each has one with the same ends and no more seconds. -/
theorem cpS_rep : ∀ (r : List Fp) (p : Fp), SrtW (p :: r) → ∀ y ∈ p :: r, ∃ z ∈ p :: cpR sameE p r, z.1 = y.1 ∧ z.2.1 = y.2.1 ∧ z.2.2.1 ≤ y.2.2.1
  | [], p, _, y, hy => by
    rw [List.mem_singleton.1 hy]
    exact ⟨p, List.mem_cons_self, rfl, rfl, Int.le_refl _⟩
  | b :: r, p, h, y, hy => by
    obtain ⟨h1, h2⟩ := List.pairwise_cons.1 h
    unfold cpR
    rcases List.mem_cons.1 hy with rfl | hy
    · exact ⟨y, List.mem_cons_self, rfl, rfl, Int.le_refl _⟩
    · obtain ⟨z, hz, c1, c2, c3⟩ := cpS_rep r b h2 y hy
      by_cases hl : sameE b p = true
      · rw [if_pos hl]
        rcases List.mem_cons.1 hz with rfl | hz
        · have hl' := of_decide_eq_true (show decide (z.1 = p.1 ∧ z.2.1 = p.2.1) = true from hl)
          have hb := h1 z List.mem_cons_self
          rw [cfP_neg, cfP_zero] at hb
          exact ⟨p, List.mem_cons_self, by omega, by omega, by omega⟩
        · exact ⟨z, List.mem_cons_of_mem _ hz, c1, c2, c3⟩
      · rw [if_neg hl]
        exact ⟨z, List.mem_cons_of_mem _ hz, c1, c2, c3⟩
/-- The footpaths that edges makes edges of. -/
def EdgS (sf : Bool) (l r : List Fp) : Prop := ∃ r0, StbS (l.filter (useP sf)) r0 ∧ r = cpF sameE r0
theorem EdgS.mem {sf : Bool} {l r : List Fp} (h : EdgS sf l r) {x : Fp} (hx : x ∈ r) : x ∈ l ∧ useP sf x = true := by
  obtain ⟨r0, h0, rfl⟩ := h
  exact List.mem_filter.1 (h0.perm.mem_iff.1 (cpF_mem hx))
theorem EdgS.rep {sf : Bool} {l r : List Fp} (h : EdgS sf l r) {y : Fp} (hy : y ∈ l) (hu : useP sf y = true) : ∃ z ∈ r, z.1 = y.1 ∧ z.2.1 = y.2.1 ∧ z.2.2.1 ≤ y.2.2.1 := by
  obtain ⟨r0, h0, rfl⟩ := h
  have hm := h0.perm.mem_iff.2 (List.mem_filter.2 ⟨hy, hu⟩)
  have hw : SrtW r0 := h0.sorted
  cases r0 with
  | nil => cases hm
  | cons a r0 => exact cpS_rep r0 a hw y hm
theorem cpR_len {e : Fp → Fp → Bool} : ∀ (r : List Fp) (p : Fp), (cpR e p r).length ≤ r.length
  | [], _ => Nat.le_refl _
  | b :: r, p => by
    unfold cpR
    have := cpR_len (e := e) r b
    split
    · rw [List.length_cons]; omega
    · rw [List.length_cons, List.length_cons]; omega
theorem cpF_len (e : Fp → Fp → Bool) (r : List Fp) : (cpF e r).length ≤ r.length := by
  cases r with
  | nil => exact Nat.le_refl _
  | cons a r =>
    have := cpR_len (e := e) r a
    show (a :: cpR e a r).length ≤ _
    rw [List.length_cons, List.length_cons]
    omega
theorem EdgS.len {sf : Bool} {l r : List Fp} (h : EdgS sf l r) : r.length ≤ l.length := by
  obtain ⟨r0, h0, rfl⟩ := h
  have h1 := cpF_len sameE r0
  have h2 := h0.perm.length_eq
  have h3 := List.length_filter_le (useP sf) l
  omega
/-- Edges that are fewer, and no heavier: the same lengths. -/
theorem wl_less {E E' : List Ed} (h : ∀ a b w, (a, b, w) ∈ E → ∃ w', w' ≤ w ∧ (a, b, w') ∈ E') {b : Nat} : ∀ {k a W : Nat}, Wl E b k a W → ∃ W', W' ≤ W ∧ Wl E' b k a W'
  | 0, _, W, hw => ⟨W, Nat.le_refl _, hw⟩
  | _ + 1, _, _, ⟨x, w, V, he, hw, hW⟩ => by
    obtain ⟨w', h1, he'⟩ := h _ _ _ he
    obtain ⟨V', h2, hw'⟩ := wl_less h hw
    exact ⟨V' + w', by omega, x, w', V', he', hw', rfl⟩
theorem dist_less {E E' : List Ed} (h1 : ∀ e ∈ E', e ∈ E) (h2 : ∀ a b w, (a, b, w) ∈ E → ∃ w', w' ≤ w ∧ (a, b, w') ∈ E') {b a W : Nat} : Dist E' b a W ↔ Dist E b a W := by
  constructor
  · rintro ⟨⟨k, hk⟩, hm⟩
    refine ⟨⟨k, wl_mono h1 hk⟩, fun k' V hv => ?_⟩
    obtain ⟨V', hV, hv'⟩ := wl_less h2 hv
    have := hm k' V' hv'
    omega
  · rintro ⟨⟨k, hk⟩, hm⟩
    obtain ⟨W', hW, hk'⟩ := wl_less h2 hk
    have := hm k W' (wl_mono h1 hk')
    obtain rfl : W' = W := by omega
    exact ⟨⟨k, hk'⟩, fun k' V hv => hm k' V (wl_mono h1 hv)⟩
theorem tm_less {E E' : List Ed} {n : Nat} {t : Nat → Nat → Option Nat} (h1 : ∀ e ∈ E', e ∈ E) (h2 : ∀ a b w, (a, b, w) ∈ E → ∃ w', w' ≤ w ∧ (a, b, w') ∈ E') (h : TmS E n t) : TmS E' n t := by
  intro i j hi hj hne W
  rw [dist_less h1 h2]
  exact h i j hi hj hne W
theorem EdgS.less {sf : Bool} {n : Nat} {l r : List Fp} (h : EdgS sf l r) (hl : OkP n l) : (∀ e ∈ r.map edP, e ∈ edF sf l) ∧ ∀ a b w, (a, b, w) ∈ edF sf l → ∃ w', w' ≤ w ∧ (a, b, w') ∈ r.map edP := by
  refine ⟨fun e he => ?_, fun a b w he => ?_⟩
  · obtain ⟨x, hx, rfl⟩ := List.mem_map.1 he
    exact ed_mem.2 ⟨x, (h.mem hx).1, (h.mem hx).2, rfl⟩
  · obtain ⟨y, hy, hu, e⟩ := ed_mem.1 he
    obtain ⟨z, hz, z1, z2, z3⟩ := h.rep hy hu
    have hz0 := hl z (h.mem hz).1
    have hy0 := hl y hy
    unfold edP at e
    have e1 := congrArg (fun q : Ed => q.1) e
    have e2 := congrArg (fun q : Ed => q.2.1) e
    have e3 := congrArg (fun q : Ed => q.2.2) e
    simp only at e1 e2 e3
    refine ⟨z.2.2.1.toNat, by omega, List.mem_map.2 ⟨z, hz, ?_⟩⟩
    unfold edP
    rw [← e1, ← e2, z1, z2]
theorem EdgS.times {sf : Bool} {n : Nat} {l r : List Fp} (h : EdgS sf l r) (hl : OkP n l) {t : Nat → Nat → Option Nat} (ht : TmS (edF sf l) n t) : TmS (r.map edP) n t := tm_less (h.less hl).1 (h.less hl).2 ht

/-! ### The walks off a matrix of lengths -/
def wkR (sf : Bool) (i : Nat) (row : List Int) (j : Nat) : List Fp := (List.range j).flatMap fun (b : Nat) => match row[b]? with | some s => if 1 ≤ s ∧ s ≤ 14400 then [((i : Int), (b : Int), s, sf)] else [] | none => []
def wkM (M : List (List Int)) (sf : Bool) (k : Nat) : List Fp := (List.range k).flatMap fun (a : Nat) => match M[a]? with | some row => wkR sf a row row.length | none => []
theorem wkR_next {sf : Bool} {i j : Nat} {row : List Int} {s : Int} (h : row[j]? = some s) : wkR sf i row (j + 1) = wkR sf i row j ++ if 1 ≤ s ∧ s ≤ 14400 then [((i : Int), (j : Int), s, sf)] else [] := by
  unfold wkR
  rw [List.range_succ, List.flatMap_append]
  simp [h]
theorem wkM_next {sf : Bool} {k : Nat} {M : List (List Int)} {row : List Int} (h : M[k]? = some row) : wkM M sf (k + 1) = wkM M sf k ++ wkR sf k row row.length := by
  unfold wkM
  rw [List.range_succ, List.flatMap_append]
  simp [h]
theorem flat_cong {f g : Nat → List Fp} : ∀ (ls : List Nat), (∀ a ∈ ls, f a = g a) → ls.flatMap f = ls.flatMap g
  | [], _ => rfl
  | a :: r, h => by rw [List.flatMap_cons, List.flatMap_cons, h a List.mem_cons_self, flat_cong r (fun b hb => h b (List.mem_cons_of_mem _ hb))]
theorem wkR_len (sf : Bool) (i : Nat) (row : List Int) : ∀ j, (wkR sf i row j).length ≤ j
  | 0 => Nat.le_refl _
  | j + 1 => by
    have := wkR_len sf i row j
    cases h : row[j]? with
    | some s => rw [wkR_next h, List.length_append]; split <;> simp <;> omega
    | none =>
      unfold wkR at *
      rw [List.range_succ, List.flatMap_append, List.length_append]
      simp [h]
      simp at this
      omega
theorem wkM_len (M : List (List Int)) (sf : Bool) (n : Nat) (hM : ∀ (a : Nat) row, M[a]? = some row → row.length ≤ n) : ∀ k, (wkM M sf k).length ≤ k * n
  | 0 => by simp [wkM]
  | k + 1 => by
    have := wkM_len M sf n hM k
    cases h : M[k]? with
    | some row =>
      have h1 := wkR_len sf k row row.length
      have h2 := hM k row h
      rw [wkM_next h, List.length_append, Nat.add_mul, Nat.one_mul]
      omega
    | none =>
      unfold wkM at *
      rw [List.range_succ, List.flatMap_append, List.length_append, Nat.add_mul, Nat.one_mul]
      simp [h]
      simp at this
      omega
/-- The walks that the code finds are those of the times. -/
theorem wk_is {sf : Bool} {n : Nat} {l r : List Fp} (h : EdgS sf l r) (hl : OkP n l) (hn : n ≤ 64) : wkM ((List.range n).map (distL n (r.map edP))) sf n = wkC n (tmE n (edF sf l)) sf := by
  have hE : Inn (r.map edP) n := fun e he => ed_inn hl e ((h.less hl).1 e he)
  have ht := h.times hl (tm_spec (ed_inn (sf := sf) hl) (by omega))
  unfold wkM wkC
  refine flat_cong _ (fun a ha => ?_)
  have han := List.mem_range.1 ha
  have hrow : ((List.range n).map (distL n (r.map edP)))[a]? = some (distL n (r.map edP) a) := by
    rw [List.getElem?_map, List.getElem?_range han]
    rfl
  rw [hrow]
  show wkR sf a (distL n (r.map edP) a) (distL n (r.map edP) a).length = _
  rw [distL_length]
  unfold wkR
  refine flat_cong _ (fun b hb => ?_)
  have hbn := List.mem_range.1 hb
  rcases distL_spec hE han (by omega) b hbn with ⟨x, hx, rfl, hno⟩ | ⟨V, hV, hd⟩
  · rw [hx]
    show (if (1 : Int) ≤ -1 ∧ _ then _ else []) = _
    rw [if_neg (by omega)]
    split
    · rfl
    · next hne =>
      cases e : tmE n (edF sf l) a b with
      | none => rfl
      | some W =>
        obtain ⟨⟨k, hk⟩, -⟩ := ((ht a b han hbn hne W).1 e).1
        exact absurd hk (hno k W)
  · rw [hV]
    show (if (1 : Int) ≤ (V : Int) ∧ (V : Int) ≤ 14400 then [((a : Int), (b : Int), (V : Int), sf)] else []) = _
    by_cases hab : a = b
    · subst hab
      have := hd.uniq (Dist.self _ a)
      rw [if_pos rfl, if_neg (by omega)]
    · rw [if_neg hab]
      have hp : 1 ≤ V := dist_pos hl hab ((dist_less (h.less hl).1 (h.less hl).2).1 hd)
      by_cases hle : V ≤ 14400
      · rw [if_pos (by omega), (ht a b han hbn hab V).2 ⟨hd, hle⟩]
        rfl
      · rw [if_neg (by omega)]
        cases e : tmE n (edF sf l) a b with
        | none => rfl
        | some W =>
          obtain ⟨h1, h2⟩ := (ht a b han hbn hab W).1 e
          have := hd.uniq h1
          omega
end Go.Proofs.Ytibakhobgfiklaa
