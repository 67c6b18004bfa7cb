/-
  Ends in increasing order, a result put together between two neighbouring ends, lengths of sets, and how the lengths of two sets add up. Condition: none beyond each theorem's own hypotheses.
-/
import Derived.Test.YtmlmdggfcdakhaaIvl
namespace Go.Proofs.Ytmlmdggfcdakhaa

/-- A list of increasing numbers with x. -/
def insE : List Int → Int → List Int
  | [], x => [x]
  | y :: r, x => if y < x then y :: insE r x else if y = x then y :: r else x :: y :: r
theorem insE_at : ∀ (l : List Int) (x : Int) (k : Nat), k ≤ l.length → (∀ (j : Nat) y, j < k → l[j]? = some y → y < x) → (∀ y, l[k]? = some y → ¬ y < x) → insE l x = if l[k]? = some x then l else l.take k ++ [x] ++ l.drop k := by
  intro l
  induction l with
  | nil => intro x k hk _ _; obtain rfl : k = 0 := by simpa using hk
           rfl
  | cons y r ih =>
    intro x k hk h1 h2
    unfold insE
    cases k with
    | zero =>
      have hy := h2 y rfl
      rw [if_neg hy]
      simp only [List.getElem?_cons_zero, Option.some.injEq]
      split
      · rfl
      · rfl
    | succ k =>
      have hy := h1 0 y (by omega) rfl
      rw [if_pos hy]
      have h := ih x k (by simpa using hk) (fun j z hj hz => h1 (j + 1) z (by omega) (by simpa using hz)) (fun z hz => h2 z (by simpa using hz))
      rw [h]
      simp only [List.getElem?_cons_succ]
      split
      · rfl
      · simp
theorem or_swap {a b c : Prop} : (a ∨ b ∨ c) ↔ (b ∨ a ∨ c) := ⟨fun h => h.elim (fun h => .inr (.inl h)) (fun h => h.elim .inl fun h => .inr (.inr h)), fun h => h.elim (fun h => .inr (.inl h)) (fun h => h.elim .inl fun h => .inr (.inr h))⟩
theorem mem_insE {l : List Int} {x z : Int} : z ∈ insE l x ↔ z = x ∨ z ∈ l := by
  induction l with
  | nil => simp [insE]
  | cons y r ih =>
    unfold insE
    split
    · rw [List.mem_cons, ih, List.mem_cons]
      exact or_swap
    · split
      · next h =>
        subst h
        exact ⟨.inr, fun h => h.elim (fun h => h ▸ List.mem_cons_self) id⟩
      · rw [List.mem_cons]
theorem insE_inc {l : List Int} (x : Int) (h : l.Pairwise (· < ·)) : (insE l x).Pairwise (· < ·) := by
  induction l with
  | nil => exact List.pairwise_singleton _ _
  | cons y r ih =>
    obtain ⟨h1, h2⟩ := List.pairwise_cons.1 h
    unfold insE
    split
    · refine List.pairwise_cons.2 ⟨fun z hz => ?_, ih h2⟩
      rcases mem_insE.1 hz with rfl | hz
      · assumption
      · exact h1 z hz
    · split
      · exact h
      · refine List.pairwise_cons.2 ⟨fun z hz => ?_, h⟩
        rcases List.mem_cons.1 hz with rfl | hz
        · omega
        · have := h1 z hz; omega
theorem insE_len (l : List Int) (x : Int) : (insE l x).length ≤ l.length + 1 := by
  induction l with
  | nil => exact Nat.le_refl _
  | cons y r ih =>
    unfold insE
    split
    · simp only [List.length_cons]; omega
    · split <;> simp only [List.length_cons] <;> omega
/-- The ends of a list's spans, increasing, each once, with those that were there. -/
def endsF (acc : List Int) (l : List Sp) : List Int := l.foldl (fun acc s => insE (insE acc s.1) s.2) acc
theorem endsF_cons (acc : List Int) (s : Sp) (r : List Sp) : endsF acc (s :: r) = endsF (insE (insE acc s.1) s.2) r := rfl
theorem endsF_next (acc : List Int) {l : List Sp} {k : Nat} {s : Sp} (h : l[k]? = some s) : endsF acc (l.take (k + 1)) = insE (insE (endsF acc (l.take k)) s.1) s.2 := by
  have : l.take (k + 1) = l.take k ++ [s] := by rw [List.take_add_one, h]; rfl
  rw [this]
  unfold endsF
  rw [List.foldl_append]
  rfl
theorem mem_endsF : ∀ (l : List Sp) (acc : List Int) {z : Int}, z ∈ endsF acc l ↔ z ∈ acc ∨ z ∈ endsS l := by
  intro l
  induction l with
  | nil => intro acc z; simp [endsF, endsS]
  | cons s r ih =>
    intro acc z
    rw [endsF_cons, ih, mem_insE, mem_insE, endsS_cons, List.mem_append]
    simp only [List.mem_cons, List.not_mem_nil, or_false]
    constructor
    · intro h
      rcases h with (h | h | h) | h
      · exact .inr (.inl (.inr h))
      · exact .inr (.inl (.inl h))
      · exact .inl h
      · exact .inr (.inr h)
    · intro h
      rcases h with h | (h | h) | h
      · exact .inl (.inr (.inr h))
      · exact .inl (.inr (.inl h))
      · exact .inl (.inl h)
      · exact .inr h
theorem endsF_inc : ∀ (l : List Sp) (acc : List Int), acc.Pairwise (· < ·) → (endsF acc l).Pairwise (· < ·) := by
  intro l
  induction l with
  | nil => intro acc h; exact h
  | cons s r ih => intro acc h; rw [endsF_cons]; exact ih _ (insE_inc _ (insE_inc _ h))
theorem endsF_len : ∀ (l : List Sp) (acc : List Int), (endsF acc l).length ≤ acc.length + 2 * l.length := by
  intro l
  induction l with
  | nil => intro acc; exact Nat.le_refl _
  | cons s r ih =>
    intro acc
    rw [endsF_cons, List.length_cons]
    have h1 := ih (insE (insE acc s.1) s.2)
    have h2 := insE_len (insE acc s.1) s.2
    have h3 := insE_len acc s.1
    omega
/-- Put behind a list: one piece with what ends where it begins. -/
def pushR (acc : List Sp) (s : Sp) : List Sp := match acc.getLast? with
  | none => [s]
  | some t => if t.2 = s.1 then acc.dropLast ++ [(t.1, s.2)] else acc ++ [s]
theorem pushR_nil (s : Sp) : pushR [] s = [s] := rfl
theorem pushR_meet (a : List Sp) (t s : Sp) (h : t.2 = s.1) : pushR (a ++ [t]) s = a ++ [(t.1, s.2)] := by
  unfold pushR
  rw [List.getLast?_concat]
  simp only [if_pos h, List.dropLast_concat]
theorem pushR_far (a : List Sp) (t s : Sp) (h : t.2 ≠ s.1) : pushR (a ++ [t]) s = (a ++ [t]) ++ [s] := by simp [pushR, h]
theorem pushR_step {acc : List Sp} {s : Sp} (h : ∀ t ∈ acc, t.2 ≤ s.1) (hs : s.1 < s.2) : pushR acc s = stepN acc s := by
  rcases snoc_cases acc with rfl | ⟨a, t, rfl⟩
  · rfl
  · have ht := h t (by simp)
    by_cases he : t.2 = s.1
    · rw [pushR_meet _ _ _ he, stepN_near _ _ _ (by omega), Int.max_eq_right (by omega)]
    · rw [pushR_far _ _ _ he, stepN_far _ _ _ (by omega)]
theorem pushR_len (acc : List Sp) (s : Sp) : (pushR acc s).length ≤ acc.length + 1 := by
  rcases snoc_cases acc with rfl | ⟨a, t, rfl⟩
  · rw [pushR_nil]; simp
  · by_cases he : t.2 = s.1
    · rw [pushR_meet _ _ _ he]; simp
    · rw [pushR_far _ _ _ he]; simp
/-- The pieces between neighbouring ends in which the condition holds. -/
def cmbR (f : Int → Bool) : List Int → List Sp → List Sp
  | x :: y :: e, acc => cmbR f (y :: e) (if f x = true then pushR acc (x, y) else acc)
  | _, acc => acc
theorem cmbR_step (f : Int → Bool) (x y : Int) (e : List Int) (acc : List Sp) : cmbR f (x :: y :: e) acc = cmbR f (y :: e) (if f x = true then pushR acc (x, y) else acc) := by rw [cmbR]
theorem cmbR_one (f : Int → Bool) (x : Int) (acc : List Sp) : cmbR f [x] acc = acc := by simp [cmbR]
theorem cmbR_spec (f : Int → Bool) : ∀ (e : List Int) (x : Int) (acc : List Sp), (x :: e).Pairwise (· < ·) → Cst f x (f x) e → Nrm acc → (∀ t ∈ acc, t.2 ≤ x) →
    Nrm (cmbR f (x :: e) acc) ∧ ∀ z, memS (cmbR f (x :: e) acc) z = if z < x then memS acc z else f z := by
  intro e
  induction e with
  | nil =>
    intro x acc _ hc hn ha
    rw [cmbR_one]
    refine ⟨hn, fun z => ?_⟩
    split
    · rfl
    · rw [hc.last z (by omega) (by simp)]
      exact (memS_no _ _).2 fun t ht k => by have := ha t ht; omega
  | cons y e ih =>
    intro x acc hp hc hn ha
    obtain ⟨p1, p2⟩ := List.pairwise_cons.1 hp
    have hxy := p1 y List.mem_cons_self
    have hy := (List.pairwise_cons.1 p2).1
    rw [cmbR_step]
    have S : Nrm (if f x = true then pushR acc (x, y) else acc) ∧ (∀ z, memS (if f x = true then pushR acc (x, y) else acc) z = (memS acc z || (f x && inS (x, y) z))) ∧ (∀ t ∈ (if f x = true then pushR acc (x, y) else acc), t.2 ≤ y) := by
      cases hf : f x with
      | false =>
        simp only [Bool.false_eq_true, if_false]
        exact ⟨hn, fun z => by simp, fun t ht => by have := ha t ht; omega⟩
      | true =>
        simp only [if_true]
        rw [pushR_step (s := (x, y)) ha hxy]
        obtain ⟨s1, s2, _⟩ := stepN_spec (s := (x, y)) hn hxy (fun t ht => by have := ha t ht; have := hn.1 t ht; show t.1 ≤ x; omega)
        refine ⟨s1, fun z => by rw [s2]; simp, ?_⟩
        rcases snoc_cases acc with rfl | ⟨a, t, rfl⟩
        · rw [stepN_nil]; intro t ht; rw [List.mem_singleton.1 ht]; exact Int.le_refl _
        · have hta := ha t (by simp)
          by_cases hg : (x, y).1 > t.2
          · rw [stepN_far _ _ _ hg]
            intro u hu
            rcases List.mem_append.1 hu with hu | hu
            · have := ha u hu; omega
            · rw [List.mem_singleton.1 hu]; exact Int.le_refl _
          · rw [stepN_near _ _ _ hg]
            intro u hu
            rcases List.mem_append.1 hu with hu | hu
            · have := ha u (List.mem_append_left _ hu); omega
            · rw [List.mem_singleton.1 hu]
              show max t.2 y ≤ y
              omega
    obtain ⟨s1, s2, s3⟩ := S
    obtain ⟨i1, i2⟩ := ih y _ p2 hc.step s1 s3
    refine ⟨i1, fun z => ?_⟩
    rw [i2]
    by_cases hzy : z < y
    · rw [if_pos hzy, s2]
      by_cases hzx : z < x
      · rw [if_pos hzx, (inS_no (x, y) z).2 (fun k => by have := k.1; simp at this; omega)]
        simp
      · rw [if_neg hzx, (inS_iff (x, y) z).2 ⟨by show x ≤ z; omega, hzy⟩, (memS_no _ _).2 (fun t ht k => by have := ha t ht; omega)]
        rw [hc.here z (by omega) (fun w hw => by
          rcases List.mem_cons.1 hw with rfl | hw
          · exact hzy
          · have := hy w hw; omega)]
        simp
    · rw [if_neg hzy, if_neg (by omega)]
theorem inc_up {e : List Int} (h : e.Pairwise (· < ·)) : e.Pairwise (· ≤ ·) := h.imp fun h => Int.le_of_lt h
theorem cmb_opr {f : Int → Bool} {a b : List Sp} (o : Opr f a b) {e : List Int} (he : ∀ z, z ∈ e ↔ z ∈ endsS a ∨ z ∈ endsS b) (hs : e.Pairwise (· < ·)) : Nrm (cmbR f e []) ∧ ∀ z, memS (cmbR f e []) z = f z := by
  cases e with
  | nil =>
    refine ⟨by simp [cmbR]; exact Nrm.nil, fun z => ?_⟩
    rw [o.none z (memS_before fun y hy => absurd ((he y).2 (.inl hy)) (by simp)) (memS_before fun y hy => absurd ((he y).2 (.inr hy)) (by simp))]
    simp [cmbR, memS]
  | cons x e =>
    have hx := (List.pairwise_cons.1 hs).1
    have c := (o.cst he (inc_up hs) x (fun z hz => by
      rcases List.mem_cons.1 hz with rfl | hz
      · exact Int.le_refl _
      · have := hx z hz; omega)).step
    obtain ⟨h1, h2⟩ := cmbR_spec f e x [] hs c Nrm.nil (by simp)
    refine ⟨h1, fun z => ?_⟩
    rw [h2]
    split
    · next hz =>
      have hb : ∀ w ∈ x :: e, z < w := fun w hw => by
        rcases List.mem_cons.1 hw with rfl | hw
        · exact hz
        · have := hx w hw; omega
      rw [o.none z (memS_before fun y hy => hb y ((he y).2 (.inl hy))) (memS_before fun y hy => hb y ((he y).2 (.inr hy)))]
      rfl
    · rfl
theorem cmbR_len (f : Int → Bool) : ∀ (e : List Int) (acc : List Sp), (cmbR f e acc).length ≤ acc.length + e.length := by
  intro e
  induction e with
  | nil => intro acc; simp [cmbR]
  | cons x e ih =>
    intro acc
    cases e with
    | nil => rw [cmbR_one]; simp
    | cons y e =>
      rw [cmbR_step]
      have h1 := ih (pushR acc (x, y))
      have h3 := ih acc
      have h2 := pushR_len acc (x, y)
      simp only [List.length_cons] at h1 h3 ⊢
      split <;> omega
/-- The one normalized list of an operation's result. -/
def opS (f : Int → Bool) (a b : List Sp) : List Sp := cmbR f (endsF (endsF [] a) b) []
theorem ends_all (a b : List Sp) (z : Int) : z ∈ endsF (endsF [] a) b ↔ z ∈ endsS a ∨ z ∈ endsS b := by rw [mem_endsF, mem_endsF]; simp
theorem opS_spec {f : Int → Bool} {a b : List Sp} (o : Opr f a b) : Nrm (opS f a b) ∧ ∀ z, memS (opS f a b) z = f z := cmb_opr o (ends_all a b) (endsF_inc _ _ (endsF_inc _ _ List.Pairwise.nil))
theorem sweep_op {f : Int → Bool} {a b : List Sp} (o : Opr f a b) {e : List Int} (he : ∀ z, z ∈ e ↔ z ∈ endsS a ∨ z ∈ endsS b) (hs : e.Pairwise (· ≤ ·)) (from' : Int) : sweep f e false from' = opS f a b := by
  obtain ⟨h1, h2⟩ := sweep_opr o he hs from'
  obtain ⟨k1, k2⟩ := opS_spec o
  exact uniqN _ _ h1 k1 fun z => by rw [h2, k2]
/-- A normalized list of an operation's set is its list. -/
theorem op_of {f : Int → Bool} {a b r : List Sp} (o : Opr f a b) (h : Nrm r) (k : ∀ z, memS r z = f z) : r = opS f a b := uniqN _ _ h (opS_spec o).1 fun z => by rw [k, (opS_spec o).2]
theorem op_ends {Q : Int → Prop} {f : Int → Bool} {a b : List Sp} (o : Opr f a b) (ha : ∀ t ∈ a, Q t.1 ∧ Q t.2) (hb : ∀ t ∈ b, Q t.1 ∧ Q t.2) : ∀ t ∈ opS f a b, Q t.1 ∧ Q t.2 := by
  have hs := endsF_inc b _ (endsF_inc a [] List.Pairwise.nil)
  rw [← sweep_op o (ends_all a b) (inc_up hs) 0]
  refine sweep_ends f _ false 0 (fun x hx => ?_) (by simp)
  rcases (ends_all a b x).1 hx with h | h
  · obtain ⟨s, h1, h2⟩ := mem_ends.1 h
    exact h2.elim (fun e => e ▸ (ha s h1).1) fun e => e ▸ (ha s h1).2
  · obtain ⟨s, h1, h2⟩ := mem_ends.1 h
    exact h2.elim (fun e => e ▸ (hb s h1).1) fun e => e ▸ (hb s h1).2
theorem op_len (f : Int → Bool) (a b : List Sp) : (opS f a b).length ≤ 2 * a.length + 2 * b.length := by
  have h1 := cmbR_len f (endsF (endsF [] a) b) []
  have h2 := endsF_len b (endsF [] a)
  have h3 := endsF_len a []
  simp only [List.length_nil] at h1 h3
  unfold opS
  omega

/-! ### Lengths -/
def sumS : List Sp → Int
  | [] => 0
  | s :: r => (s.2 - s.1) + sumS r
theorem sumS_snoc (l : List Sp) (s : Sp) : sumS (l ++ [s]) = sumS l + (s.2 - s.1) := by
  induction l with
  | nil => simp [sumS]
  | cons t r ih => simp only [List.cons_append, sumS, ih]; omega
theorem sumS_next {l : List Sp} {k : Nat} {s : Sp} (h : l[k]? = some s) : sumS (l.take (k + 1)) = sumS (l.take k) + (s.2 - s.1) := by
  have : l.take (k + 1) = l.take k ++ [s] := by rw [List.take_add_one, h]; rfl
  rw [this, sumS_snoc]
theorem sumS_bound : ∀ (l : List Sp) (lo hi : Int), Nrm l → lo ≤ hi → (∀ s ∈ l, lo ≤ s.1 ∧ s.2 ≤ hi) → 0 ≤ sumS l ∧ sumS l ≤ hi - lo := by
  intro l
  induction l with
  | nil => intro lo hi _ h _; simp only [sumS]; omega
  | cons s r ih =>
    intro lo hi hn h hb
    obtain ⟨h1, h2⟩ := hn.head
    have hs := hb s List.mem_cons_self
    have := ih s.2 hi hn.tail (by omega) fun t ht => ⟨by have := h2 t ht; omega, (hb t (List.mem_cons_of_mem _ ht)).2⟩
    simp only [sumS]
    omega
theorem Nrm.take {l : List Sp} (h : Nrm l) (k : Nat) : Nrm (l.take k) := ⟨fun s hs => h.1 s (List.mem_of_mem_take hs), h.2.sublist (List.take_sublist _ _)⟩
theorem sumS_part {l : List Sp} (h : Nrm l) (k : Nat) : sumS (l.take k) ≤ sumS l := by
  have : ∀ (l : List Sp) (k : Nat), (∀ s ∈ l, s.1 < s.2) → 0 ≤ sumS l ∧ sumS (l.take k) ≤ sumS l := by
    intro l
    induction l with
    | nil => intro k _; simp [sumS]
    | cons s r ih =>
      intro k hv
      have hs := hv s List.mem_cons_self
      have hr := fun t (ht : t ∈ r) => hv t (List.mem_cons_of_mem _ ht)
      cases k with
      | zero => have := (ih 0 hr).1; simp only [List.take_zero, sumS]; omega
      | succ k => have := ih k hr; simp only [List.take_succ_cons, sumS]; omega
  exact (this l k h.1).2
/-- How many of the n numbers from lo on there are. -/
def cntS (f : Int → Bool) (lo : Int) : Nat → Int
  | 0 => 0
  | n + 1 => cntS f lo n + (if f (lo + n) = true then 1 else 0)
theorem cntS_or (f g : Int → Bool) (lo : Int) (n : Nat) : cntS (fun x => f x || g x) lo n + cntS (fun x => f x && g x) lo n = cntS f lo n + cntS g lo n := by
  induction n with
  | zero => rfl
  | succ n ih =>
    simp only [cntS]
    have a : f (lo + n) = true ∨ f (lo + n) = false := by cases f (lo + n) <;> simp
    have b : g (lo + n) = true ∨ g (lo + n) = false := by cases g (lo + n) <;> simp
    rcases a with a | a <;> rcases b with b | b <;> simp only [a, b, Bool.or_true, Bool.or_false, Bool.and_true, Bool.and_false, Bool.false_eq_true, if_true, if_false] <;> omega
theorem cntS_sub (f g : Int → Bool) (lo : Int) (n : Nat) : cntS (fun x => f x && g x) lo n + cntS (fun x => f x && !g x) lo n = cntS f lo n := by
  induction n with
  | zero => rfl
  | succ n ih =>
    simp only [cntS]
    have a : f (lo + n) = true ∨ f (lo + n) = false := by cases f (lo + n) <;> simp
    have b : g (lo + n) = true ∨ g (lo + n) = false := by cases g (lo + n) <;> simp
    rcases a with a | a <;> rcases b with b | b <;> simp only [a, b, Bool.and_true, Bool.and_false, Bool.not_true, Bool.not_false, Bool.false_eq_true, if_true, if_false] <;> omega
theorem cntS_none (lo : Int) (n : Nat) : cntS (fun _ => false) lo n = 0 := by
  induction n with
  | zero => rfl
  | succ n ih => simp [cntS, ih]
theorem cntS_congr {f g : Int → Bool} (h : ∀ x, f x = g x) (lo : Int) (n : Nat) : cntS f lo n = cntS g lo n := by rw [show f = g from funext h]
theorem cntS_span (s : Sp) (lo : Int) (hl : lo ≤ s.1) (hs : s.1 ≤ s.2) (n : Nat) : cntS (inS s) lo n = if lo + n ≤ s.1 then 0 else if lo + n ≤ s.2 then lo + n - s.1 else s.2 - s.1 := by
  induction n with
  | zero => simp only [cntS]; split <;> (try split) <;> omega
  | succ n ih =>
    simp only [cntS]
    rw [ih]
    by_cases h : inS s (lo + n) = true
    · rw [if_pos h]
      rw [inS_iff] at h
      repeat' split
      all_goals omega
    · rw [if_neg h]
      rw [inS_iff] at h
      repeat' split
      all_goals omega
theorem cntS_sum : ∀ (l : List Sp) (lo : Int) (n : Nat), Nrm l → (∀ s ∈ l, lo ≤ s.1 ∧ s.2 ≤ lo + n) → cntS (memS l) lo n = sumS l := by
  intro l
  induction l with
  | nil => intro lo n _ _; rw [show memS [] = fun _ => false from rfl, cntS_none]; rfl
  | cons s r ih =>
    intro lo n hn hb
    obtain ⟨h1, h2⟩ := hn.head
    have hs := hb s List.mem_cons_self
    have e1 := cntS_or (inS s) (memS r) lo n
    rw [cntS_congr (f := fun x => inS s x && memS r x) (g := fun _ => false) (fun x => by
      cases h : inS s x with
      | false => rfl
      | true =>
        rw [inS_iff] at h
        rw [memS_low fun t ht => by have := h2 t ht; omega]
        rfl), cntS_none] at e1
    have e2 := ih lo n hn.tail fun t ht => hb t (List.mem_cons_of_mem _ ht)
    have e3 := cntS_span s lo hs.1 (by omega) n
    rw [show memS (s :: r) = fun x => inS s x || memS r x from rfl]
    simp only [sumS]
    rw [if_neg (by omega)] at e3
    split at e3 <;> omega
/-- A set's length. -/
def lenS (l : List Sp) : Int := sumS (nrmS l)
theorem lenS_cnt {l : List Sp} {lo : Int} {n : Nat} (h : ∀ s ∈ l, (lo ≤ s.1 ∧ s.1 ≤ lo + n) ∧ lo ≤ s.2 ∧ s.2 ≤ lo + n) : lenS l = cntS (memS l) lo n := by
  have k := nrmS_ends (Q := fun x => lo ≤ x ∧ x ≤ lo + n) h
  unfold lenS
  rw [← cntS_sum (nrmS l) lo n (nrmS_spec l).1 fun s hs => ⟨(k s hs).1.1, (k s hs).2.2⟩]
  exact cntS_congr (nrmS_spec l).2 lo n
theorem opS_cnt {f : Int → Bool} {a b : List Sp} (o : Opr f a b) {lo : Int} {n : Nat} (ha : ∀ s ∈ a, (lo ≤ s.1 ∧ s.1 ≤ lo + n) ∧ lo ≤ s.2 ∧ s.2 ≤ lo + n) (hb : ∀ s ∈ b, (lo ≤ s.1 ∧ s.1 ≤ lo + n) ∧ lo ≤ s.2 ∧ s.2 ≤ lo + n) : lenS (opS f a b) = cntS f lo n := by
  rw [lenS_cnt (op_ends (Q := fun x => lo ≤ x ∧ x ≤ lo + n) o ha hb)]
  exact cntS_congr (opS_spec o).2 lo n
/-- The lengths of union and intersection add up to those of both sets; those of intersection and difference to that of the first. -/
theorem measures {a b : List Sp} {lo : Int} {n : Nat} (ha : ∀ s ∈ a, (lo ≤ s.1 ∧ s.1 ≤ lo + n) ∧ lo ≤ s.2 ∧ s.2 ≤ lo + n) (hb : ∀ s ∈ b, (lo ≤ s.1 ∧ s.1 ≤ lo + n) ∧ lo ≤ s.2 ∧ s.2 ≤ lo + n) :
    lenS (opS (fun x => memS a x || memS b x) a b) + lenS (opS (fun x => memS a x && memS b x) a b) = lenS a + lenS b ∧ lenS (opS (fun x => memS a x && memS b x) a b) + lenS (opS (fun x => memS a x && !memS b x) a b) = lenS a := by
  rw [opS_cnt (opr_or a b) ha hb, opS_cnt (opr_and a b) ha hb, opS_cnt (opr_sub a b) ha hb, lenS_cnt ha, lenS_cnt hb]
  exact ⟨cntS_or _ _ _ _, cntS_sub _ _ _ _⟩
theorem lenS_low {l : List Sp} {lo hi : Int} (hlh : lo ≤ hi) (h : ∀ s ∈ l, (lo ≤ s.1 ∧ s.1 ≤ hi) ∧ lo ≤ s.2 ∧ s.2 ≤ hi) : 0 ≤ lenS l ∧ lenS l ≤ hi - lo := by
  have k := nrmS_ends (Q := fun x => lo ≤ x ∧ x ≤ hi) h
  exact sumS_bound _ _ _ (nrmS_spec l).1 hlh fun s hs => ⟨(k s hs).1.1, (k s hs).2.2⟩
/-- A normalized list by its neighbours. -/
theorem nrm_next {l : List Sp} (h : Nrm l) {i : Nat} {s t : Sp} (hs : l[i]? = some s) (ht : l[i + 1]? = some t) : s.2 < t.1 := by
  obtain ⟨i1, i2⟩ := List.getElem?_eq_some_iff.1 hs
  obtain ⟨j1, j2⟩ := List.getElem?_eq_some_iff.1 ht
  have := (List.pairwise_iff_getElem.1 h.2) i (i + 1) i1 j1 (by omega)
  rw [i2, j2] at this
  exact this
theorem nrm_at {l : List Sp} (h : Nrm l) {i : Nat} {s : Sp} (hs : l[i]? = some s) : s.1 < s.2 := h.1 s (List.mem_iff_getElem?.2 ⟨i, hs⟩)
/-- The first span that ends behind x decides. -/
theorem nrm_search {l : List Sp} (h : Nrm l) {x : Int} {k : Nat} (h1 : ∀ (j : Nat) s, j < k → l[j]? = some s → ¬ x < s.2) : (k = l.length → memS l x = false) ∧ ∀ s, l[k]? = some s → x < s.2 → memS l x = decide (s.1 ≤ x) := by
  refine ⟨fun hk => (memS_no _ _).2 fun s hs c => ?_, fun s hs hx => ?_⟩
  · obtain ⟨i, hi⟩ := List.mem_iff_getElem?.1 hs
    have := (List.getElem?_eq_some_iff.1 hi).1
    exact h1 i s (by omega) hi c.2
  · rw [Bool.eq_iff_iff, memS_iff, decide_eq_true_iff]
    constructor
    · rintro ⟨t, ht, c1, c2⟩
      obtain ⟨i, hi⟩ := List.mem_iff_getElem?.1 ht
      rcases Nat.lt_trichotomy i k with h' | h' | h'
      · exact absurd c2 (h1 i t h' hi)
      · subst h'
        rw [hs] at hi
        cases hi
        exact c1
      · obtain ⟨k1, k2⟩ := List.getElem?_eq_some_iff.1 hs
        obtain ⟨i1, i2⟩ := List.getElem?_eq_some_iff.1 hi
        have := (List.pairwise_iff_getElem.1 h.2) k i k1 i1 h'
        rw [k2, i2] at this
        have := nrm_at h hs
        omega
    · intro hle
      exact ⟨s, List.mem_iff_getElem?.2 ⟨k, hs⟩, hle, hx⟩
theorem nrm_mono {l : List Sp} (h : Nrm l) {x : Int} {i j : Nat} {s t : Sp} (hij : i ≤ j) (hs : l[i]? = some s) (ht : l[j]? = some t) (hx : x < s.2) : x < t.2 := by
  rcases Nat.eq_or_lt_of_le hij with rfl | hlt
  · rw [hs] at ht; cases ht; exact hx
  · obtain ⟨k1, k2⟩ := List.getElem?_eq_some_iff.1 hs
    obtain ⟨i1, i2⟩ := List.getElem?_eq_some_iff.1 ht
    have := (List.pairwise_iff_getElem.1 h.2) i j k1 i1 hlt
    rw [k2, i2] at this
    have := nrm_at h ht
    omega
end Go.Proofs.Ytmlmdggfcdakhaa
