/-
  Sets of integers as lists of half-open spans: membership, the one normalized list of a set, a list made normal, a condition swept over ends. Condition: none beyond each theorem's own hypotheses.
-/
import Derived.Test.YtmlmdggfcdakhaaDigits
namespace Go.Proofs.Ytmlmdggfcdakhaa

abbrev Sp := Int × Int
/-- The span contains x. -/
def inS (s : Sp) (x : Int) : Bool := decide (s.1 ≤ x) && decide (x < s.2)
/-- The set of a list contains x. -/
def memS (l : List Sp) (x : Int) : Bool := l.any fun s => inS s x
theorem inS_iff (s : Sp) (x : Int) : inS s x = true ↔ s.1 ≤ x ∧ x < s.2 := by simp [inS]
theorem inS_no (s : Sp) (x : Int) : inS s x = false ↔ ¬ (s.1 ≤ x ∧ x < s.2) := by rw [← inS_iff]; simp
theorem memS_iff (l : List Sp) (x : Int) : memS l x = true ↔ ∃ s ∈ l, s.1 ≤ x ∧ x < s.2 := by
  unfold memS
  rw [List.any_eq_true]
  exact ⟨fun ⟨s, h, k⟩ => ⟨s, h, (inS_iff s x).1 k⟩, fun ⟨s, h, k⟩ => ⟨s, h, (inS_iff s x).2 k⟩⟩
theorem memS_no (l : List Sp) (x : Int) : memS l x = false ↔ ∀ s ∈ l, ¬ (s.1 ≤ x ∧ x < s.2) := by
  rw [← Bool.not_eq_true, memS_iff]
  exact ⟨fun h s hs k => h ⟨s, hs, k⟩, fun h ⟨s, hs, k⟩ => h s hs k⟩
theorem memS_cons (s : Sp) (r : List Sp) (x : Int) : memS (s :: r) x = (inS s x || memS r x) := rfl
theorem memS_app (a b : List Sp) (x : Int) : memS (a ++ b) x = (memS a x || memS b x) := by unfold memS; rw [List.any_append]
theorem memS_one (s : Sp) (x : Int) : memS [s] x = inS s x := by rw [memS_cons]; simp [memS]
/-- A normalized list. -/
def Nrm (l : List Sp) : Prop := (∀ s ∈ l, s.1 < s.2) ∧ l.Pairwise fun s t => s.2 < t.1
theorem Nrm.nil : Nrm [] := ⟨by simp, List.Pairwise.nil⟩
theorem Nrm.tail {s : Sp} {r : List Sp} (h : Nrm (s :: r)) : Nrm r := ⟨fun t ht => h.1 t (List.mem_cons_of_mem _ ht), (List.pairwise_cons.1 h.2).2⟩
theorem Nrm.cons {s : Sp} {r : List Sp} (h : s.1 < s.2) (k : ∀ t ∈ r, s.2 < t.1) (hr : Nrm r) : Nrm (s :: r) :=
  ⟨fun t ht => (List.mem_cons.1 ht).elim (fun e => e ▸ h) (hr.1 t), List.pairwise_cons.2 ⟨k, hr.2⟩⟩
theorem Nrm.head {s : Sp} {r : List Sp} (h : Nrm (s :: r)) : s.1 < s.2 ∧ ∀ t ∈ r, s.2 < t.1 := ⟨h.1 s List.mem_cons_self, (List.pairwise_cons.1 h.2).1⟩
/-- Below the first beginning there is nothing. -/
theorem memS_low {l : List Sp} {x : Int} (h : ∀ s ∈ l, x < s.1) : memS l x = false := (memS_no l x).2 fun s hs k => by have := h s hs; omega
/-- Two normalized lists of one set are one list. -/
theorem uniqN : ∀ (p q : List Sp), Nrm p → Nrm q → (∀ x, memS p x = memS q x) → p = q := by
  intro p
  induction p with
  | nil =>
    intro q _ hq h
    cases q with
    | nil => rfl
    | cons t q =>
      have h1 := h t.1
      rw [show memS (t :: q) t.1 = true from (memS_iff _ _).2 ⟨t, List.mem_cons_self, Int.le_refl _, hq.head.1⟩] at h1
      cases h1
  | cons s p ih =>
    intro q hp hq h
    cases q with
    | nil =>
      have h1 := h s.1
      rw [show memS (s :: p) s.1 = true from (memS_iff _ _).2 ⟨s, List.mem_cons_self, Int.le_refl _, hp.head.1⟩] at h1
      cases h1
    | cons t q =>
      have ps := hp.head
      have qt := hq.head
      have all : ∀ {a : Sp} {r : List Sp}, Nrm (a :: r) → ∀ u ∈ a :: r, a.1 ≤ u.1 := by
        intro a r hr u hu
        rcases List.mem_cons.1 hu with rfl | hu
        · exact Int.le_refl _
        · have := hr.head.2 u hu
          have := hr.head.1
          omega
      have e1 : s.1 = t.1 := by
        have a1 := (memS_iff (s :: p) s.1).2 ⟨s, List.mem_cons_self, Int.le_refl _, ps.1⟩
        have a2 := (memS_iff (t :: q) t.1).2 ⟨t, List.mem_cons_self, Int.le_refl _, qt.1⟩
        rw [h] at a1
        rw [← h] at a2
        obtain ⟨u, hu, u1, _⟩ := (memS_iff _ _).1 a1
        obtain ⟨v, hv, v1, _⟩ := (memS_iff _ _).1 a2
        have := all hq u hu
        have := all hp v hv
        omega
      have e2 : s.2 = t.2 := by
        have edge : ∀ {a : Sp} {r : List Sp}, Nrm (a :: r) → memS (a :: r) a.2 = false := by
          intro a r hr
          refine (memS_no _ _).2 fun u hu k => ?_
          rcases List.mem_cons.1 hu with rfl | hu
          · omega
          · have := hr.head.2 u hu
            omega
        rcases Int.lt_trichotomy s.2 t.2 with hlt | he | hgt
        · have a1 := edge hp
          rw [h, (memS_iff (t :: q) s.2).2 ⟨t, List.mem_cons_self, by omega, hlt⟩] at a1
          cases a1
        · exact he
        · have a1 := edge hq
          rw [← h, (memS_iff (s :: p) t.2).2 ⟨s, List.mem_cons_self, by omega, hgt⟩] at a1
          cases a1
      have e : s = t := Prod.ext e1 e2
      subst e
      congr 1
      refine ih q hp.tail hq.tail fun x => ?_
      have hx := h x
      rw [memS_cons, memS_cons] at hx
      cases hs : inS s x with
      | false => rw [hs] at hx; exact hx
      | true =>
        have hk := (inS_iff s x).1 hs
        rw [memS_low (fun t ht => by have := ps.2 t ht; omega), memS_low (fun t ht => by have := qt.2 t ht; omega)]

/-! ### A list made normal -/
/-- A span is put behind a list. -/
def stepN (acc : List Sp) (s : Sp) : List Sp := match acc.getLast? with
  | none => [s]
  | some t => if s.1 > t.2 then acc ++ [s] else acc.dropLast ++ [(t.1, max t.2 s.2)]
theorem stepN_nil (s : Sp) : stepN [] s = [s] := rfl
theorem stepN_far (a : List Sp) (t s : Sp) (h : s.1 > t.2) : stepN (a ++ [t]) s = (a ++ [t]) ++ [s] := by simp [stepN, h]
theorem stepN_near (a : List Sp) (t s : Sp) (h : ¬ s.1 > t.2) : stepN (a ++ [t]) s = a ++ [(t.1, max t.2 s.2)] := by
  unfold stepN
  rw [List.getLast?_concat]
  simp only [if_neg h, List.dropLast_concat]
def foldN (acc l : List Sp) : List Sp := l.foldl stepN acc
theorem foldN_cons (acc : List Sp) (s : Sp) (r : List Sp) : foldN acc (s :: r) = foldN (stepN acc s) r := rfl
theorem snoc_cases {α : Type} (l : List α) : l = [] ∨ ∃ a t, l = a ++ [t] := by
  rcases List.eq_nil_or_concat l with h | ⟨a, t, h⟩
  · exact .inl h
  · exact .inr ⟨a, t, by rw [h]; simp⟩
theorem Nrm.snoc {a : List Sp} {s : Sp} (h : Nrm a) (hs : s.1 < s.2) (k : ∀ t ∈ a, t.2 < s.1) : Nrm (a ++ [s]) := by
  refine ⟨fun t ht => ?_, List.pairwise_append.2 ⟨h.2, List.pairwise_singleton _ _, fun t ht u hu => ?_⟩⟩
  · rcases List.mem_append.1 ht with ht | ht
    · exact h.1 t ht
    · rw [List.mem_singleton.1 ht]; exact hs
  · rw [List.mem_singleton.1 hu]; exact k t ht
theorem Nrm.init {a : List Sp} {s : Sp} (h : Nrm (a ++ [s])) : Nrm a ∧ s.1 < s.2 ∧ ∀ t ∈ a, t.2 < s.1 := by
  obtain ⟨h1, h2⟩ := h
  rw [List.pairwise_append] at h2
  exact ⟨⟨fun t ht => h1 t (List.mem_append_left _ ht), h2.1⟩, h1 s (by simp), fun t ht => h2.2.2 t ht s (by simp)⟩
/-- One step: normal it stays, the set grows by the span. -/
theorem stepN_spec {acc : List Sp} {s : Sp} (h : Nrm acc) (hs : s.1 < s.2) (hb : ∀ t ∈ acc, t.1 ≤ s.1) : Nrm (stepN acc s) ∧ (∀ x, memS (stepN acc s) x = (memS acc x || inS s x)) ∧ (∀ t ∈ stepN acc s, t.1 ≤ s.1) := by
  rcases snoc_cases acc with rfl | ⟨a, t, rfl⟩
  · rw [stepN_nil]
    exact ⟨Nrm.snoc (a := []) Nrm.nil hs (by simp), fun x => by rw [memS_one]; simp [memS], by simp⟩
  · obtain ⟨h1, h2, h3⟩ := h.init
    by_cases hg : s.1 > t.2
    · rw [stepN_far _ _ _ hg]
      refine ⟨h.snoc hs fun u hu => ?_, fun x => by rw [memS_app (a ++ [t]), memS_one], fun u hu => ?_⟩
      · rcases List.mem_append.1 hu with hu | hu
        · have := h3 u hu; omega
        · rw [List.mem_singleton.1 hu]; exact hg
      · rcases List.mem_append.1 hu with hu | hu
        · exact hb u hu
        · rw [List.mem_singleton.1 hu]; exact Int.le_refl _
    · rw [stepN_near _ _ _ hg]
      have ht := hb t (by simp)
      refine ⟨h1.snoc (s := (t.1, max t.2 s.2)) (by show t.1 < max t.2 s.2; omega) h3, fun x => ?_, fun u hu => ?_⟩
      · rw [memS_app, memS_app, memS_one, memS_one, Bool.or_assoc]
        congr 1
        rw [Bool.eq_iff_iff, Bool.or_eq_true, inS_iff, inS_iff, inS_iff]
        show t.1 ≤ x ∧ x < max t.2 s.2 ↔ _
        omega
      · rcases List.mem_append.1 hu with hu | hu
        · exact hb u (List.mem_append_left _ hu)
        · rw [List.mem_singleton.1 hu]; exact ht
theorem foldN_spec : ∀ (l acc : List Sp), Nrm acc → (∀ s ∈ l, s.1 < s.2) → (l.Pairwise fun s t => s.1 ≤ t.1) → (∀ t ∈ acc, ∀ s ∈ l, t.1 ≤ s.1) → Nrm (foldN acc l) ∧ ∀ x, memS (foldN acc l) x = (memS acc x || memS l x) := by
  intro l
  induction l with
  | nil => intro acc h _ _ _; exact ⟨h, fun x => by show memS acc x = (memS acc x || false); simp⟩
  | cons s r ih =>
    intro acc h hv hp hb
    obtain ⟨p1, p2⟩ := List.pairwise_cons.1 hp
    obtain ⟨s1, s2, s3⟩ := stepN_spec h (hv s List.mem_cons_self) fun t ht => hb t ht s List.mem_cons_self
    rw [foldN_cons]
    obtain ⟨i1, i2⟩ := ih (stepN acc s) s1 (fun t ht => hv t (List.mem_cons_of_mem _ ht)) p2 fun t ht u hu => by
      have := s3 t ht
      have := p1 u hu
      omega
    exact ⟨i1, fun x => by rw [i2, s2, memS_cons, Bool.or_assoc]⟩
/-- The ends of what a step leaves were ends before. -/
theorem stepN_ends {Q : Int → Prop} {acc : List Sp} {s : Sp} (h : ∀ t ∈ acc, Q t.1 ∧ Q t.2) (hs : Q s.1 ∧ Q s.2) : ∀ t ∈ stepN acc s, Q t.1 ∧ Q t.2 := by
  rcases snoc_cases acc with rfl | ⟨a, u, rfl⟩
  · rw [stepN_nil]
    intro t ht
    rw [List.mem_singleton.1 ht]; exact hs
  · have hu := h u (by simp)
    by_cases hg : s.1 > u.2
    · rw [stepN_far _ _ _ hg]
      intro t ht
      rcases List.mem_append.1 ht with ht | ht
      · exact h t ht
      · rw [List.mem_singleton.1 ht]; exact hs
    · rw [stepN_near _ _ _ hg]
      intro t ht
      rcases List.mem_append.1 ht with ht | ht
      · exact h t (List.mem_append_left _ ht)
      · rw [List.mem_singleton.1 ht]
        refine ⟨hu.1, ?_⟩
        show Q (max u.2 s.2)
        rcases Int.le_total u.2 s.2 with hle | hle
        · rw [Int.max_eq_right hle]; exact hs.2
        · rw [Int.max_eq_left hle]; exact hu.2
theorem foldN_ends {Q : Int → Prop} : ∀ (l acc : List Sp), (∀ t ∈ acc, Q t.1 ∧ Q t.2) → (∀ t ∈ l, Q t.1 ∧ Q t.2) → ∀ t ∈ foldN acc l, Q t.1 ∧ Q t.2 := by
  intro l
  induction l with
  | nil => intro acc h _; exact h
  | cons s r ih =>
    intro acc h hl
    rw [foldN_cons]
    exact ih _ (stepN_ends h (hl s List.mem_cons_self)) fun t ht => hl t (List.mem_cons_of_mem _ ht)
theorem stepN_len (acc : List Sp) (s : Sp) : (stepN acc s).length ≤ acc.length + 1 := by
  rcases snoc_cases acc with rfl | ⟨a, u, rfl⟩
  · rw [stepN_nil]; simp
  · by_cases hg : s.1 > u.2
    · rw [stepN_far _ _ _ hg]; simp
    · rw [stepN_near _ _ _ hg]; simp
theorem foldN_len : ∀ (l acc : List Sp), (foldN acc l).length ≤ acc.length + l.length := by
  intro l
  induction l with
  | nil => intro acc; exact Nat.le_refl _
  | cons s r ih =>
    intro acc
    rw [foldN_cons]
    have := ih (stepN acc s)
    have := stepN_len acc s
    rw [List.length_cons]
    omega
/-- The valid spans of a list. -/
def vals (l : List Sp) : List Sp := l.filter fun s => decide (s.1 < s.2)
theorem memS_vals (l : List Sp) (x : Int) : memS (vals l) x = memS l x := by
  rw [Bool.eq_iff_iff, memS_iff, memS_iff]
  unfold vals
  constructor
  · rintro ⟨s, hs, k⟩
    exact ⟨s, (List.mem_filter.1 hs).1, k⟩
  · rintro ⟨s, hs, k⟩
    exact ⟨s, List.mem_filter.2 ⟨hs, by simp; omega⟩, k⟩
theorem memS_perm {a b : List Sp} (h : a.Perm b) (x : Int) : memS a x = memS b x := by
  rw [Bool.eq_iff_iff, memS_iff, memS_iff]
  exact ⟨fun ⟨s, hs, k⟩ => ⟨s, h.mem_iff.1 hs, k⟩, fun ⟨s, hs, k⟩ => ⟨s, h.mem_iff.2 hs, k⟩⟩
/-- The normalized list of the set of a list: by insertion of its valid spans. -/
def insS (s : Sp) : List Sp → List Sp
  | [] => [s]
  | t :: r => if s.1 ≤ t.1 then s :: t :: r else t :: insS s r
def srtS (l : List Sp) : List Sp := l.foldr insS []
theorem insS_perm (s : Sp) (l : List Sp) : (insS s l).Perm (s :: l) := by
  induction l with
  | nil => exact .refl _
  | cons t r ih =>
    unfold insS
    split
    · exact .refl _
    · exact (List.Perm.cons t ih).trans (.swap s t r)
theorem insS_sorted {s : Sp} {l : List Sp} (h : l.Pairwise fun s t => s.1 ≤ t.1) : (insS s l).Pairwise fun s t => s.1 ≤ t.1 := by
  induction l with
  | nil => exact List.pairwise_singleton _ _
  | cons t r ih =>
    obtain ⟨h1, h2⟩ := List.pairwise_cons.1 h
    unfold insS
    split
    · next hle =>
      refine List.pairwise_cons.2 ⟨fun u hu => ?_, h⟩
      rcases List.mem_cons.1 hu with rfl | hu
      · exact hle
      · have := h1 u hu; omega
    · next hle =>
      refine List.pairwise_cons.2 ⟨fun u hu => ?_, ih h2⟩
      rcases List.mem_cons.1 ((insS_perm s r).mem_iff.1 hu) with rfl | hu
      · omega
      · exact h1 u hu
theorem srtS_perm (l : List Sp) : (srtS l).Perm l := by
  induction l with
  | nil => exact .refl _
  | cons s r ih => exact (insS_perm s _).trans (ih.cons s)
theorem srtS_sorted (l : List Sp) : (srtS l).Pairwise fun s t => s.1 ≤ t.1 := by
  induction l with
  | nil => exact List.Pairwise.nil
  | cons s r ih => exact insS_sorted ih
def nrmS (l : List Sp) : List Sp := foldN [] (srtS (vals l))
/-- Whatever sorted order of the valid spans: the same list comes out. -/
theorem fold_perm {l v : List Sp} (hp : v.Perm (vals l)) (hs : v.Pairwise fun s t => s.1 ≤ t.1) : Nrm (foldN [] v) ∧ ∀ x, memS (foldN [] v) x = memS l x := by
  obtain ⟨h1, h2⟩ := foldN_spec v [] Nrm.nil (fun s h => by simpa using (List.mem_filter.1 (hp.mem_iff.1 h)).2) hs (by simp)
  refine ⟨h1, fun x => ?_⟩
  rw [h2, memS_perm hp, memS_vals]
  rfl
theorem nrmS_spec (l : List Sp) : Nrm (nrmS l) ∧ ∀ x, memS (nrmS l) x = memS l x := fold_perm (srtS_perm _) (srtS_sorted _)
theorem fold_nrmS {l v : List Sp} (hp : v.Perm (vals l)) (hs : v.Pairwise fun s t => s.1 ≤ t.1) : foldN [] v = nrmS l := by
  obtain ⟨h1, h2⟩ := fold_perm hp hs
  obtain ⟨k1, k2⟩ := nrmS_spec l
  exact uniqN _ _ h1 k1 fun x => by rw [h2, k2]
theorem nrmS_of {l r : List Sp} (h : Nrm r) (k : ∀ x, memS r x = memS l x) : nrmS l = r := uniqN _ _ (nrmS_spec l).1 h fun x => by rw [(nrmS_spec l).2, k]
theorem nrmS_ends {Q : Int → Prop} {l : List Sp} (h : ∀ t ∈ l, Q t.1 ∧ Q t.2) : ∀ t ∈ nrmS l, Q t.1 ∧ Q t.2 :=
  foldN_ends _ _ (by simp) fun t ht => h t (List.mem_filter.1 ((srtS_perm _).mem_iff.1 ht)).1
theorem nrmS_len (l : List Sp) : (nrmS l).length ≤ l.length := by
  have h1 := foldN_len (srtS (vals l)) []
  have h2 := (srtS_perm (vals l)).length_eq
  have h3 := List.length_filter_le (fun s : Sp => decide (s.1 < s.2)) l
  unfold nrmS
  unfold vals at h1 h2 ⊢
  simp at h1
  omega

/-! ### A condition swept over ends -/
/-- The spans in which the condition holds: the ends to come, whether it holds now, since when. -/
def sweep (f : Int → Bool) : List Int → Bool → Int → List Sp
  | [], _, _ => []
  | x :: e, ins, from' => if (f x == ins) = true then sweep f e ins from' else if ins = true then (from', x) :: sweep f e false x else sweep f e true x
/-- Between two ends the condition doesn't change; from the last one on it does not hold. -/
structure Cst (f : Int → Bool) (b : Int) (ins : Bool) (e : List Int) : Prop where
  low : ∀ x ∈ e, b ≤ x
  up : e.Pairwise (· ≤ ·)
  here : ∀ y, b ≤ y → (∀ z ∈ e, y < z) → f y = ins
  gap : ∀ x ∈ e, ∀ y, x ≤ y → (∀ z ∈ e, z ≤ x ∨ y < z) → f y = f x
  last : ∀ y, b ≤ y → (∀ z ∈ e, z ≤ y) → f y = false
theorem Cst.step {f : Int → Bool} {b : Int} {ins : Bool} {x : Int} {e : List Int} (h : Cst f b ins (x :: e)) : Cst f x (f x) e := by
  obtain ⟨u1, u2⟩ := List.pairwise_cons.1 h.up
  have hb := h.low x List.mem_cons_self
  refine ⟨u1, u2, fun y hy hz => h.gap x List.mem_cons_self y hy fun z hzm => ?_, fun x' hx' y hy hz => h.gap x' (List.mem_cons_of_mem _ hx') y hy fun z hzm => ?_, fun y hy hz => h.last y (by omega) fun z hzm => ?_⟩
  · rcases List.mem_cons.1 hzm with rfl | hzm
    · exact .inl (Int.le_refl _)
    · exact .inr (hz z hzm)
  · rcases List.mem_cons.1 hzm with rfl | hzm
    · exact .inl (u1 x' hx')
    · exact hz z hzm
  · rcases List.mem_cons.1 hzm with rfl | hzm
    · exact hy
    · exact hz z hzm
theorem sweep_spec (f : Int → Bool) : ∀ (e : List Int) (b : Int) (ins : Bool) (from' : Int), Cst f b ins e → (ins = true → from' ≤ b ∧ ∀ y, from' ≤ y → y ≤ b → f y = true) →
    Nrm (sweep f e ins from') ∧ (∀ s ∈ sweep f e ins from', (if ins then from' else b) ≤ s.1) ∧ (∀ s ∈ sweep f e ins from', f s.1 = true) ∧ ∀ x, (if ins then from' else b) ≤ x → memS (sweep f e ins from') x = f x := by
  intro e
  induction e with
  | nil =>
    intro b ins from' h hi
    have h1 := h.here b (Int.le_refl _) (by simp)
    have h2 := h.last b (Int.le_refl _) (by simp)
    rw [h1] at h2
    subst h2
    refine ⟨Nrm.nil, by simp [sweep], by simp [sweep], fun x hx => ?_⟩
    rw [h.here x (by simpa using hx) (by simp)]
    rfl
  | cons x e ih =>
    intro b ins from' h hi
    have hb := h.low x List.mem_cons_self
    have u1 := (List.pairwise_cons.1 h.up).1
    -- below x the condition is ins
    have bel : ∀ y, b ≤ y → y < x → f y = ins := fun y hy hyx => h.here y hy fun z hz => by
      rcases List.mem_cons.1 hz with rfl | hz
      · exact hyx
      · have := u1 z hz; omega
    unfold sweep
    by_cases he : (f x == ins) = true
    · rw [if_pos he]
      have he' : f x = ins := by simpa using he
      have hst := h.step
      rw [he'] at hst
      obtain ⟨i1, i2, i3, i4⟩ := ih x ins from' hst fun hin => by
        obtain ⟨a1, a2⟩ := hi hin
        refine ⟨by omega, fun y hy hyx => ?_⟩
        by_cases hyb : y ≤ b
        · exact a2 y hy hyb
        · by_cases hyx' : y < x
          · rw [bel y (by omega) hyx', hin]
          · rw [show y = x by omega, he', hin]
      cases ins with
      | true => exact ⟨i1, i2, i3, i4⟩
      | false =>
        simp only [Bool.false_eq_true, if_false] at i2 i4 ⊢
        refine ⟨i1, fun s hs => by have := i2 s hs; omega, i3, fun y hy => ?_⟩
        by_cases hyx : y < x
        · rw [bel y hy hyx]
          exact memS_low fun s hs => by have := i2 s hs; omega
        · exact i4 y (by omega)
    · rw [if_neg he]
      have hst := h.step
      cases ins with
      | true =>
        have hf : f x = false := by
          cases hfx : f x with
          | false => rfl
          | true => rw [hfx] at he; exact absurd rfl he
        rw [hf] at hst
        obtain ⟨a1, a2⟩ := hi rfl
        obtain ⟨i1, i2, i3, i4⟩ := ih x false x hst (by simp)
        simp only [Bool.false_eq_true, if_false, if_true] at i2 i4 ⊢
        have hfx : ∀ y, from' ≤ y → y < x → f y = true := fun y hy hyx => by
          by_cases hyb : y ≤ b
          · exact a2 y hy hyb
          · exact bel y (by omega) hyx
        have hlt : from' < x := by
          rcases Int.lt_or_le from' x with h | h
          · exact h
          · have := a2 x (by omega) (by omega)
            rw [hf] at this
            cases this
        refine ⟨Nrm.cons (s := (from', x)) hlt (fun s hs => ?_) i1, fun s hs => ?_, fun s hs => ?_, fun y hy => ?_⟩
        · have h1 := i2 s hs
          have h2 := i3 s hs
          rcases Int.lt_or_le x s.1 with h | h
          · exact h
          · rw [show s.1 = x by omega, hf] at h2; cases h2
        · rcases List.mem_cons.1 hs with rfl | hs
          · exact Int.le_refl _
          · have := i2 s hs; omega
        · rcases List.mem_cons.1 hs with rfl | hs
          · exact hfx _ (Int.le_refl _) hlt
          · exact i3 s hs
        · rw [memS_cons]
          by_cases hyx : y < x
          · rw [(inS_iff (from', x) y).2 ⟨hy, hyx⟩, hfx y hy hyx]
            rfl
          · rw [(inS_no (from', x) y).2 (fun h => hyx h.2), i4 y (by omega)]
            rfl
      | false =>
        have hf : f x = true := by
          cases hfx : f x with
          | true => rfl
          | false => rw [hfx] at he; exact absurd rfl he
        rw [hf] at hst
        obtain ⟨i1, i2, i3, i4⟩ := ih x true x hst fun _ => ⟨Int.le_refl _, fun y h1 h2 => by rw [show y = x by omega, hf]⟩
        simp only [Bool.false_eq_true, if_false, if_true] at i2 i4 ⊢
        refine ⟨i1, fun s hs => by have := i2 s hs; omega, i3, fun y hy => ?_⟩
        by_cases hyx : y < x
        · rw [bel y hy hyx]
          exact memS_low fun s hs => by have := i2 s hs; omega
        · exact i4 y (by omega)
/-- Ends of a sweep are ends. -/
theorem sweep_ends {Q : Int → Prop} (f : Int → Bool) : ∀ (e : List Int) (ins : Bool) (from' : Int), (∀ x ∈ e, Q x) → (ins = true → Q from') → ∀ t ∈ sweep f e ins from', Q t.1 ∧ Q t.2 := by
  intro e
  induction e with
  | nil => intro ins from' _ _ t ht; cases ht
  | cons x e ih =>
    intro ins from' he hf
    have hx := he x List.mem_cons_self
    have hr := fun z (hz : z ∈ e) => he z (List.mem_cons_of_mem _ hz)
    unfold sweep
    by_cases h1 : (f x == ins) = true
    · rw [if_pos h1]; exact ih ins from' hr hf
    · rw [if_neg h1]
      by_cases h2 : ins = true
      · rw [if_pos h2]
        intro t ht
        rcases List.mem_cons.1 ht with rfl | ht
        · exact ⟨hf h2, hx⟩
        · exact ih false x hr (by simp) t ht
      · rw [if_neg h2]; exact ih true x hr fun _ => hx
theorem sweep_len (f : Int → Bool) : ∀ (e : List Int) (ins : Bool) (from' : Int), (sweep f e ins from').length ≤ e.length := by
  intro e
  induction e with
  | nil => intro _ _; exact Nat.le_refl _
  | cons x e ih =>
    intro ins from'
    unfold sweep
    have := ih ins from'
    have := ih false x
    have := ih true x
    split
    · rw [List.length_cons]; omega
    · split <;> simp only [List.length_cons] <;> omega
/-- The ends of the spans of a list. -/
def endsS (l : List Sp) : List Int := l.flatMap fun s => [s.1, s.2]
theorem endsS_app (a b : List Sp) : endsS (a ++ b) = endsS a ++ endsS b := by unfold endsS; rw [List.flatMap_append]
theorem endsS_cons (s : Sp) (r : List Sp) : endsS (s :: r) = [s.1, s.2] ++ endsS r := rfl
theorem endsS_len (l : List Sp) : (endsS l).length = 2 * l.length := by
  induction l with
  | nil => rfl
  | cons s r ih => rw [endsS_cons, List.length_append, ih, List.length_cons]; simp; omega
theorem mem_ends {l : List Sp} {z : Int} : z ∈ endsS l ↔ ∃ s ∈ l, z = s.1 ∨ z = s.2 := by
  unfold endsS
  simp [List.mem_flatMap]
theorem memS_gap {l : List Sp} {x y : Int} (hxy : x ≤ y) (h : ∀ z ∈ endsS l, z ≤ x ∨ y < z) : memS l y = memS l x := by
  rw [Bool.eq_iff_iff, memS_iff, memS_iff]
  have key : ∀ s ∈ l, (s.1 ≤ y ∧ y < s.2) ↔ (s.1 ≤ x ∧ x < s.2) := fun s hs => by
    have h1 := h s.1 (mem_ends.2 ⟨s, hs, .inl rfl⟩)
    have h2 := h s.2 (mem_ends.2 ⟨s, hs, .inr rfl⟩)
    omega
  exact ⟨fun ⟨s, hs, k⟩ => ⟨s, hs, (key s hs).1 k⟩, fun ⟨s, hs, k⟩ => ⟨s, hs, (key s hs).2 k⟩⟩
theorem memS_after {l : List Sp} {y : Int} (h : ∀ z ∈ endsS l, z ≤ y) : memS l y = false := (memS_no l y).2 fun s hs k => by
  have := h s.2 (mem_ends.2 ⟨s, hs, .inr rfl⟩)
  omega
theorem memS_before {l : List Sp} {y : Int} (h : ∀ z ∈ endsS l, y < z) : memS l y = false := memS_low fun s hs => h s.1 (mem_ends.2 ⟨s, hs, .inl rfl⟩)
/-- What is swept over all ends of two lists: its condition is that of an operation on membership. -/
structure Opr (f : Int → Bool) (a b : List Sp) : Prop where
  gap : ∀ x y, memS a y = memS a x → memS b y = memS b x → f y = f x
  none : ∀ y, memS a y = false → memS b y = false → f y = false
theorem Opr.cst {f : Int → Bool} {a b : List Sp} (o : Opr f a b) {e : List Int} (he : ∀ z, z ∈ e ↔ z ∈ endsS a ∨ z ∈ endsS b) (hs : e.Pairwise (· ≤ ·)) (lo : Int) (hl : ∀ z ∈ e, lo ≤ z) : Cst f lo false e :=
  ⟨hl, hs, fun _ _ hz => o.none _ (memS_before fun z h => hz z ((he z).2 (.inl h))) (memS_before fun z h => hz z ((he z).2 (.inr h))),
    fun x _ y hxy hz => o.gap x y (memS_gap hxy fun z h => hz z ((he z).2 (.inl h))) (memS_gap hxy fun z h => hz z ((he z).2 (.inr h))),
    fun _ _ hz => o.none _ (memS_after fun z h => hz z ((he z).2 (.inl h))) (memS_after fun z h => hz z ((he z).2 (.inr h)))⟩
theorem low_of (e : List Int) (x : Int) : ∃ lo, lo ≤ x ∧ ∀ z ∈ e, lo ≤ z := by
  induction e with
  | nil => exact ⟨x, Int.le_refl _, by simp⟩
  | cons y r ih =>
    obtain ⟨lo, h1, h2⟩ := ih
    refine ⟨min lo y, by omega, fun z hz => ?_⟩
    rcases List.mem_cons.1 hz with rfl | hz
    · omega
    · have := h2 z hz; omega
theorem sweep_opr {f : Int → Bool} {a b : List Sp} (o : Opr f a b) {e : List Int} (he : ∀ z, z ∈ e ↔ z ∈ endsS a ∨ z ∈ endsS b) (hs : e.Pairwise (· ≤ ·)) (from' : Int) : Nrm (sweep f e false from') ∧ ∀ x, memS (sweep f e false from') x = f x := by
  refine ⟨?_, fun x => ?_⟩
  · obtain ⟨lo, _, h⟩ := low_of e 0
    exact (sweep_spec f e lo false from' (o.cst he hs lo h) (by simp)).1
  · obtain ⟨lo, h1, h⟩ := low_of e x
    exact (sweep_spec f e lo false from' (o.cst he hs lo h) (by simp)).2.2.2 x (by simpa using h1)
theorem opr_or (a b : List Sp) : Opr (fun x => memS a x || memS b x) a b := ⟨fun x y h k => by simp only [h, k], fun y h k => by simp only [h, k]; rfl⟩
theorem opr_and (a b : List Sp) : Opr (fun x => memS a x && memS b x) a b := ⟨fun x y h k => by simp only [h, k], fun y h k => by simp only [h, k]; rfl⟩
theorem opr_sub (a b : List Sp) : Opr (fun x => memS a x && !memS b x) a b := ⟨fun x y h k => by simp only [h, k], fun y h k => by simp only [h]; rfl⟩
end Go.Proofs.Ytmlmdggfcdakhaa
