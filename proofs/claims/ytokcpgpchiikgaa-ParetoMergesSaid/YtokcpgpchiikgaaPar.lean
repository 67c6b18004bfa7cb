/-
  Vectors of four integers: which dominate which, their order, and the Pareto front of a list, as plain functions. Condition: none.
-/
namespace Go.Proofs.Ytokcpgpchiikgaa

abbrev Vec := Int × Int × Int × Int
/-- No component of a is greater than that of b. -/
def wi (a b : Vec) : Bool := decide (a.1 ≤ b.1) && (decide (a.2.1 ≤ b.2.1) && (decide (a.2.2.1 ≤ b.2.2.1) && decide (a.2.2.2 ≤ b.2.2.2)))
def dom (a b : Vec) : Bool := a != b && wi a b
/-- The lexicographic order: -1, 0, 1. -/
def cv (a b : Vec) : Int :=
  if a.1 < b.1 then -1 else if b.1 < a.1 then 1 else if a.2.1 < b.2.1 then -1 else if b.2.1 < a.2.1 then 1 else
  if a.2.2.1 < b.2.2.1 then -1 else if b.2.2.1 < a.2.2.1 then 1 else if a.2.2.2 < b.2.2.2 then -1 else if b.2.2.2 < a.2.2.2 then 1 else 0
def ltV (a b : Vec) : Prop := a.1 < b.1 ∨ a.1 = b.1 ∧ (a.2.1 < b.2.1 ∨ a.2.1 = b.2.1 ∧ (a.2.2.1 < b.2.2.1 ∨ a.2.2.1 = b.2.2.1 ∧ a.2.2.2 < b.2.2.2))
theorem vec_eq (a b : Vec) : a = b ↔ a.1 = b.1 ∧ a.2.1 = b.2.1 ∧ a.2.2.1 = b.2.2.1 ∧ a.2.2.2 = b.2.2.2 := by
  obtain ⟨a1, a2, a3, a4⟩ := a
  obtain ⟨b1, b2, b3, b4⟩ := b
  simp
theorem wi_iff (a b : Vec) : wi a b = true ↔ a.1 ≤ b.1 ∧ a.2.1 ≤ b.2.1 ∧ a.2.2.1 ≤ b.2.2.1 ∧ a.2.2.2 ≤ b.2.2.2 := by simp [wi]
theorem dom_iff (a b : Vec) : dom a b = true ↔ a ≠ b ∧ wi a b = true := by simp [dom]
theorem cv_lt (a b : Vec) : cv a b < 0 ↔ ltV a b := by
  unfold cv ltV
  repeat' split
  all_goals simp
  all_goals omega
theorem cv_gt (a b : Vec) : 0 < cv a b ↔ ltV b a := by
  unfold cv ltV
  repeat' split
  all_goals simp
  all_goals omega
theorem cv_zero (a b : Vec) : cv a b = 0 ↔ a = b := by
  rw [vec_eq]
  unfold cv
  repeat' split
  all_goals simp
  all_goals omega
theorem cv_self (a : Vec) : cv a a = 0 := (cv_zero a a).2 rfl
theorem cv_flip (a b : Vec) : cv a b < 0 ↔ 0 < cv b a := by rw [cv_lt, cv_gt]
theorem cv_trans {a b c : Vec} (h : cv a b < 0) (k : cv b c < 0) : cv a c < 0 := by
  rw [cv_lt] at *
  unfold ltV at *
  omega
theorem cv_le_lt {a b c : Vec} (h : cv a b ≤ 0) (k : cv b c < 0) : cv a c < 0 := by
  rcases Int.lt_or_eq_of_le h with h | h
  · exact cv_trans h k
  · rw [cv_zero] at h
    exact h ▸ k
theorem cv_lt_le {a b c : Vec} (h : cv a b < 0) (k : cv b c ≤ 0) : cv a c < 0 := by
  rcases Int.lt_or_eq_of_le k with k | k
  · exact cv_trans h k
  · rw [cv_zero] at k
    exact k ▸ h
theorem cv_not (a b : Vec) : ¬ cv a b < 0 ↔ cv b a ≤ 0 := by
  have := cv_flip a b
  omega
theorem wi_refl (a : Vec) : wi a a = true := by rw [wi_iff]; omega
theorem wi_trans {a b c : Vec} (h : wi a b = true) (k : wi b c = true) : wi a c = true := by rw [wi_iff] at *; omega
theorem wi_anti {a b : Vec} (h : wi a b = true) (k : wi b a = true) : a = b := by rw [wi_iff] at *; rw [vec_eq]; omega
theorem wi_cv {a b : Vec} (h : wi a b = true) : cv a b ≤ 0 := by
  rw [← cv_not, cv_lt]
  rw [wi_iff] at h
  unfold ltV
  omega
theorem dom_cv {a b : Vec} (h : dom a b = true) : cv a b < 0 := by
  obtain ⟨h1, h2⟩ := (dom_iff a b).1 h
  have := wi_cv h2
  have h3 : cv a b ≠ 0 := fun e => h1 ((cv_zero a b).1 e)
  omega
theorem dom_self (a : Vec) : dom a a = false := by simp [dom]
theorem not_dom {a b : Vec} (h : dom a b = false) (k : wi a b = true) : a = b := by
  rcases Decidable.em (a = b) with e | e
  · exact e
  · have := (dom_iff a b).2 ⟨e, k⟩
    rw [h] at this
    cases this
theorem wi_cases (a b : Vec) : wi a b = (a == b || dom a b) := by
  rcases Decidable.em (a = b) with e | e
  · subst e
    simp [wi_refl]
  · have h : (a == b) = false := by simpa using e
    simp [dom, bne, h]
/-- A vector of the list is v or dominates it. -/
def cov (l : List Vec) (v : Vec) : Bool := l.any fun w => wi w v
def dmd (l : List Vec) (v : Vec) : Bool := l.any fun w => dom w v
theorem cov_iff (l : List Vec) (v : Vec) : cov l v = true ↔ ∃ w ∈ l, wi w v = true := by simp [cov]
theorem cov_no (l : List Vec) (v : Vec) : cov l v = false ↔ ∀ w ∈ l, wi w v = false := by simp [cov]
theorem dmd_no (l : List Vec) (v : Vec) : dmd l v = false ↔ ∀ w ∈ l, dom w v = false := by simp [dmd]
theorem dmd_iff (l : List Vec) (v : Vec) : dmd l v = true ↔ ∃ w ∈ l, dom w v = true := by simp [dmd]
def Asc (l : List Vec) : Prop := l.Pairwise fun a b => cv a b < 0
theorem asc_ext {f g : List Vec} (hf : Asc f) (hg : Asc g) (h : ∀ v, v ∈ f ↔ v ∈ g) : f = g := by
  induction f generalizing g with
  | nil =>
    cases g with
    | nil => rfl
    | cons b r => exact absurd ((h b).2 (by simp)) (by simp)
  | cons a r ih =>
    cases g with
    | nil => exact absurd ((h a).1 (by simp)) (by simp)
    | cons b s =>
      obtain ⟨ha, hr⟩ := List.pairwise_cons.1 hf
      obtain ⟨hb, hs⟩ := List.pairwise_cons.1 hg
      have hab : a = b := by
        have h1 := (h a).1 (by simp)
        have h2 := (h b).2 (by simp)
        rcases List.mem_cons.1 h1 with h1 | h1
        · exact h1
        · rcases List.mem_cons.1 h2 with h2 | h2
          · exact h2.symm
          · have := hb _ h1
            have := ha _ h2
            have := cv_flip a b
            omega
      subst hab
      congr 1
      refine ih hr hs fun v => ?_
      constructor
      · intro hv
        rcases List.mem_cons.1 ((h v).1 (List.mem_cons_of_mem _ hv)) with e | e
        · subst e
          have := ha _ hv
          rw [cv_self] at this
          omega
        · exact e
      · intro hv
        rcases List.mem_cons.1 ((h v).2 (List.mem_cons_of_mem _ hv)) with e | e
        · subst e
          have := hb _ hv
          rw [cv_self] at this
          omega
        · exact e
/-- f is the Pareto front of p. -/
structure Frt (p f : List Vec) : Prop where
  asc : Asc f
  sub : ∀ v ∈ f, v ∈ p
  best : ∀ v ∈ f, ∀ u ∈ p, dom u v = false
  covers : ∀ u ∈ p, ∃ w ∈ f, wi w u = true
theorem Frt.mem {p f : List Vec} (h : Frt p f) (v : Vec) : v ∈ f ↔ v ∈ p ∧ ∀ u ∈ p, dom u v = false := by
  constructor
  · intro hv
    exact ⟨h.sub v hv, h.best v hv⟩
  · rintro ⟨hv, hd⟩
    obtain ⟨w, hw, hwi⟩ := h.covers v hv
    rw [← not_dom (hd w (h.sub w hw)) hwi]
    exact hw
theorem Frt.uniq {p f g : List Vec} (h : Frt p f) (k : Frt p g) : f = g := asc_ext h.asc k.asc fun v => by rw [h.mem, k.mem]
theorem Frt.congr {p q f : List Vec} (h : Frt p f) (e : ∀ v, v ∈ p ↔ v ∈ q) : Frt q f :=
  ⟨h.asc, fun v hv => (e v).1 (h.sub v hv), fun v hv u hu => h.best v hv u ((e u).2 hu), fun u hu => h.covers u ((e u).2 hu)⟩
theorem Frt.nil : Frt [] [] := ⟨List.Pairwise.nil, by simp, by simp, by simp⟩
/-- One more vector. -/
def insV (f : List Vec) (v : Vec) : List Vec := if cov f v = true then f else f.filter (fun w => decide (cv w v < 0)) ++ v :: f.filter (fun w => !decide (cv w v < 0) && !dom v w)
theorem ins_fr {p f : List Vec} (h : Frt p f) (v : Vec) : Frt (p ++ [v]) (insV f v) := by
  unfold insV
  split
  · rename_i hc
    obtain ⟨w, hw, hwv⟩ := (cov_iff _ _).1 hc
    refine ⟨h.asc, fun x hx => List.mem_append_left _ (h.sub x hx), fun x hx u hu => ?_, fun u hu => ?_⟩
    · rcases List.mem_append.1 hu with hu | hu
      · exact h.best x hx u hu
      · obtain rfl := List.mem_singleton.1 hu
        rcases Bool.eq_false_or_eq_true (dom u x) with e | e
        · obtain ⟨e1, e2⟩ := (dom_iff u x).1 e
          have h1 := wi_trans hwv e2
          obtain rfl := not_dom (h.best x hx w (h.sub w hw)) h1
          exact absurd (wi_anti e2 hwv) e1
        · exact e
    · rcases List.mem_append.1 hu with hu | hu
      · exact h.covers u hu
      · obtain rfl := List.mem_singleton.1 hu
        exact ⟨w, hw, hwv⟩
  · rename_i hc
    have hno := (cov_no f v).1 (Bool.eq_false_iff.2 hc)
    have hmem : ∀ x, x ∈ f.filter (fun w => decide (cv w v < 0)) ++ v :: f.filter (fun w => !decide (cv w v < 0) && !dom v w) ↔ (x ∈ f ∧ cv x v < 0) ∨ x = v ∨ (x ∈ f ∧ ¬ cv x v < 0 ∧ dom v x = false) := by
      intro x
      simp [List.mem_filter]
    refine ⟨?_, fun x hx => ?_, fun x hx u hu => ?_, fun u hu => ?_⟩
    · refine List.pairwise_append.2 ⟨h.asc.sublist List.filter_sublist, List.pairwise_cons.2 ⟨fun x hx => ?_, h.asc.sublist List.filter_sublist⟩, fun x hx y hy => ?_⟩
      · simp [List.mem_filter] at hx
        obtain ⟨hx, h1, h2⟩ := hx
        have h3 : cv x v ≠ 0 := fun e => by
          have e := (cv_zero x v).1 e
          have := hno x hx
          rw [e, wi_refl] at this
          cases this
        have := cv_flip v x
        omega
      · simp [List.mem_filter] at hx hy
        obtain ⟨hx, h1⟩ := hx
        rcases hy with rfl | ⟨hy, h2, _⟩
        · exact h1
        · exact cv_lt_le h1 (by have := cv_flip v y; have := cv_flip y v; omega)
    · rcases (hmem x).1 hx with ⟨hx, _⟩ | rfl | ⟨hx, _⟩
      · exact List.mem_append_left _ (h.sub x hx)
      · simp
      · exact List.mem_append_left _ (h.sub x hx)
    · rcases List.mem_append.1 hu with hp | hu
      · rcases (hmem x).1 hx with ⟨hx, _⟩ | rfl | ⟨hx, _⟩
        · exact h.best x hx u hp
        · rcases Bool.eq_false_or_eq_true (dom u x) with e | e
          · obtain ⟨e1, e2⟩ := (dom_iff u x).1 e
            obtain ⟨w, hw, hwu⟩ := h.covers u hp
            have := hno w hw
            rw [wi_trans hwu e2] at this
            cases this
          · exact e
        · exact h.best x hx u hp
      · obtain rfl := List.mem_singleton.1 hu
        rcases (hmem x).1 hx with ⟨hx, h1⟩ | rfl | ⟨hx, _, h2⟩
        · rcases Bool.eq_false_or_eq_true (dom u x) with e | e
          · have := dom_cv e
            have := cv_flip u x
            omega
          · exact e
        · exact dom_self _
        · exact h2
    · rcases List.mem_append.1 hu with hu | hu
      · obtain ⟨w, hw, hwu⟩ := h.covers u hu
        rcases Decidable.em (cv w v < 0) with e | e
        · exact ⟨w, (hmem w).2 (.inl ⟨hw, e⟩), hwu⟩
        · rcases Bool.eq_false_or_eq_true (dom v w) with d | d
          · exact ⟨v, (hmem v).2 (.inr (.inl rfl)), wi_trans ((dom_iff v w).1 d).2 hwu⟩
          · exact ⟨w, (hmem w).2 (.inr (.inr ⟨hw, e, d⟩)), hwu⟩
      · obtain rfl := List.mem_singleton.1 hu
        exact ⟨u, (hmem u).2 (.inr (.inl rfl)), wi_refl u⟩
/-- The Pareto front. -/
def frV (l : List Vec) : List Vec := l.foldl insV []
theorem fold_fr {p f : List Vec} (h : Frt p f) (l : List Vec) : Frt (p ++ l) (l.foldl insV f) := by
  induction l generalizing p f with
  | nil => simpa using h
  | cons a r ih =>
    have := ih (ins_fr h a)
    rw [List.append_assoc] at this
    exact this
theorem frV_spec (l : List Vec) : Frt l (frV l) := by
  have := fold_fr Frt.nil l
  exact this
theorem frV_of {l f : List Vec} (h : Frt l f) : frV l = f := (frV_spec l).uniq h
theorem frV_congr {l m : List Vec} (e : ∀ v, v ∈ l ↔ v ∈ m) : frV l = frV m := frV_of ((frV_spec m).congr fun v => (e v).symm)
theorem frV_snoc (l : List Vec) (v : Vec) : frV (l ++ [v]) = insV (frV l) v := by unfold frV; rw [List.foldl_append]; rfl
theorem frV_self (l : List Vec) : frV (frV l) = frV l :=
  frV_of ⟨(frV_spec l).asc, fun _ h => h, fun v hv u hu => (frV_spec l).best v hv u ((frV_spec l).sub u hu), fun u hu => ⟨u, hu, wi_refl u⟩⟩
theorem frV_left (l m : List Vec) : frV (frV l ++ m) = frV (l ++ m) := by
  refine (frV_of ?_).symm
  have h := frV_spec l
  have g := frV_spec (frV l ++ m)
  refine ⟨g.asc, fun v hv => ?_, fun v hv u hu => ?_, fun u hu => ?_⟩
  · rcases List.mem_append.1 (g.sub v hv) with k | k
    · exact List.mem_append_left _ (h.sub v k)
    · exact List.mem_append_right _ k
  · rcases List.mem_append.1 hu with k | k
    · obtain ⟨w, hw, hwu⟩ := h.covers u k
      rcases Bool.eq_false_or_eq_true (dom u v) with e | e
      · obtain ⟨e1, e2⟩ := (dom_iff u v).1 e
        obtain rfl := not_dom (g.best v hv w (List.mem_append_left _ hw)) (wi_trans hwu e2)
        exact absurd (wi_anti e2 hwu) e1
      · exact e
    · exact g.best v hv u (List.mem_append_right _ k)
  · rcases List.mem_append.1 hu with k | k
    · obtain ⟨w, hw, hwu⟩ := h.covers u k
      obtain ⟨x, hx, hxw⟩ := g.covers w (List.mem_append_left _ hw)
      exact ⟨x, hx, wi_trans hxw hwu⟩
    · exact g.covers u (List.mem_append_right _ k)
theorem frV_comm (l m : List Vec) : frV (l ++ m) = frV (m ++ l) := frV_congr fun v => by simp [or_comm]
theorem frV_right (l m : List Vec) : frV (l ++ frV m) = frV (l ++ m) := by rw [frV_comm, frV_left, frV_comm]
theorem frV_len (l : List Vec) : (frV l).length ≤ l.length := by
  have key : ∀ (l f : List Vec), (l.foldl insV f).length ≤ f.length + l.length := by
    intro l
    induction l with
    | nil => intro f; simp
    | cons a r ih =>
      intro f
      have h1 := ih (insV f a)
      have h2 : (insV f a).length ≤ f.length + 1 := by
        unfold insV
        split
        · omega
        · have e : ∀ (g : List Vec), (g.filter fun w => decide (cv w a < 0)).length + (g.filter fun w => !decide (cv w a < 0) && !dom a w).length ≤ g.length := by
            intro g
            induction g with
            | nil => simp
            | cons b s ihs =>
              by_cases hb : cv b a < 0
              · simp [hb]
                omega
              · simp only [List.filter_cons, decide_eq_true_eq, hb, if_false, List.length_cons]
                split
                · simp only [List.length_cons]
                  simp [hb] at *
                  omega
                · simp [hb] at *
                  omega
          have := e f
          simp only [List.length_append, List.length_cons]
          omega
      simp only [List.foldl_cons, List.length_cons]
      omega
  have := key l []
  simpa [frV] using this
/-- Where v precedes none of them, it comes last. -/
theorem ins_last {f : List Vec} {v : Vec} (h : ∀ w ∈ f, cv w v ≤ 0) : insV f v = if cov f v = true then f else f ++ [v] := by
  unfold insV
  split
  · rfl
  · rename_i hc
    have hno := (cov_no f v).1 (Bool.eq_false_iff.2 hc)
    have hl : ∀ w ∈ f, cv w v < 0 := fun w hw => by
      have h1 := h w hw
      have h2 : cv w v ≠ 0 := fun e => by
        have := hno w hw
        rw [(cv_zero w v).1 e, wi_refl] at this
        cases this
      omega
    rw [List.filter_eq_self.2 fun w hw => decide_eq_true (hl w hw), List.filter_eq_nil_iff.2 fun w hw => by simp [hl w hw]]
/-- A list in order, one by one: covered vectors are passed over. -/
theorem scan_next {s : List Vec} (hs : s.Pairwise fun a b => cv a b ≤ 0) {k : Nat} {v : Vec} (h : s[k]? = some v) : frV (s.take (k + 1)) = if cov (frV (s.take k)) v = true then frV (s.take k) else frV (s.take k) ++ [v] := by
  have hk := (List.getElem?_eq_some_iff.1 h).1
  have e : s.take (k + 1) = s.take k ++ [v] := by
    rw [List.take_add_one, h]
    rfl
  rw [e, frV_snoc]
  refine ins_last fun w hw => ?_
  have hw := (frV_spec _).sub w hw
  obtain ⟨i, hi, rfl⟩ := List.mem_iff_getElem.1 hw
  rw [List.getElem_take]
  have hik : i < k := by
    rw [List.length_take] at hi
    omega
  have hv : s[k] = v := by
    rw [List.getElem?_eq_getElem hk] at h
    exact Option.some.inj h
  rw [← hv]
  exact List.pairwise_iff_getElem.1 hs i k _ hk hik
theorem cov_front (l : List Vec) (v : Vec) : cov (frV l) v = cov l v := by
  rw [Bool.eq_iff_iff, cov_iff, cov_iff]
  constructor
  · rintro ⟨w, hw, h⟩
    exact ⟨w, (frV_spec l).sub w hw, h⟩
  · rintro ⟨w, hw, h⟩
    obtain ⟨u, hu, k⟩ := (frV_spec l).covers w hw
    exact ⟨u, hu, wi_trans k h⟩
end Go.Proofs.Ytokcpgpchiikgaa
