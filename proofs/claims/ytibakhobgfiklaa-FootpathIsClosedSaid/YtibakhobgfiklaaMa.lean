/-
  Plain facts about bytes, digits, numbers of one or two digits and their order: no program. Condition: none beyond each theorem's own hypotheses. Plain facts about walks in a graph with lengths: the least cost (128 times the length, plus the number of edges), rounds of relaxation that find it, the distance in it: no program. Condition: none beyond each theorem's own hypotheses. Plain facts about lengths of shortest walks that are found by three loops over a matrix (Floyd and Warshall), in place: what the matrix tells in the middle of a round, between rounds and at the end: no program. Condition: none beyond each theorem's own hypotheses. Plain facts about the distances of a graph by node, and about its components: first nodes found by rounds, their numbers: no program. Condition: none beyond each theorem's own hypotheses. Plain facts about lists of any kind: the first bad one behind the keys of the earlier ones, the first one with a property, the indices of all with a property, a list told apart into two: no program. Condition: none beyond each theorem's own hypotheses. Plain facts about footpaths: the first one that is not valid, the smallest time between two stops, the closure, which is closed: no program. Condition: none beyond each theorem's own hypotheses. Plain facts about footpaths looked up: the smallest time between two stops, the stops around a stop, what both say of a closure: no program. Condition: none beyond each theorem's own hypotheses. Plain facts about costs of nodes that are lowered from the least one waiting: what stands behind each step, what stands at the end: no program. Condition: at most 64 nodes, lengths up to 2^30. Plain facts about a path that goes from node to node, each time to the least node from which the rest of the cost remains; the least length of the edges between two nodes: no program. Condition: at most 64 nodes. Plain facts about components found by joining nodes: each node leads to an earlier one, the last of which is its first node; the numbers that come of it: no program. Condition: none beyond each theorem's own hypotheses. Plain facts about a stable sort that sorts blocks by insertion and merges them in place (Go's SortStableFunc): exchanges, rotations, the split of a merge, blocks: no program. Condition: none beyond each theorem's own hypotheses. A binary heap of numbered elements, as plain functions over lists: each operation leaves the same elements; for an order the first is the least one, the earliest of equals. Condition: none beyond each theorem's own hypotheses.
-/
import Derived.Lib.Strings
import Derived.Lib.ItoaNum
import Derived.Laws.RangeAny
import GoSem.Op.String
namespace Go.Proofs.Ytibakhobgfiklaa
open Go

/-- A text from its bytes. -/
abbrev str (l : List UInt8) : ByteArray := ⟨l.toArray⟩
/-- A decimal digit. -/
def dig (c : UInt8) : Bool := decide (48 ≤ c.toNat ∧ c.toNat ≤ 57)
/-- Digits and nothing else. -/
def digs (l : List UInt8) : Bool := l.all dig
/-- The number that digits denote. -/
def valN (l : List UInt8) : Nat := l.foldl (fun n c => n * 10 + (c.toNat - 48)) 0

theorem dig_iff (c : UInt8) : dig c = true ↔ 48 ≤ c.toNat ∧ c.toNat ≤ 57 := by unfold dig; exact decide_eq_true_iff
theorem valN_snoc (l : List UInt8) (c : UInt8) : valN (l ++ [c]) = valN l * 10 + (c.toNat - 48) := by simp [valN]
theorem pow10_pos : ∀ k : Nat, 1 ≤ 10 ^ k
  | 0 => by decide
  | k + 1 => by have := pow10_pos k; rw [Nat.pow_succ]; omega
theorem fold_lt : ∀ (l : List UInt8) (a : Nat), digs l = true → l.foldl (fun n c => n * 10 + (c.toNat - 48)) a < (a + 1) * 10 ^ l.length
  | [], a, _ => by simp
  | c :: l, a, h => by
    have hl : dig c = true ∧ digs l = true := by simpa [digs] using h
    have hc := (dig_iff c).1 hl.1
    have := fold_lt l (a * 10 + (c.toNat - 48)) hl.2
    rw [List.foldl_cons, List.length_cons, Nat.pow_succ]
    refine Nat.lt_of_lt_of_le this ?_
    rw [Nat.mul_comm (10 ^ l.length) 10, ← Nat.mul_assoc]
    exact Nat.mul_le_mul_right _ (by omega)
theorem valN_lt (l : List UInt8) (h : digs l = true) : valN l < 10 ^ l.length := by
  have := fold_lt l 0 h
  simpa [valN] using this
theorem digs_take (l : List UInt8) (k : Nat) (h : digs l = true) : digs (l.take k) = true := by
  unfold digs at *
  rw [List.all_eq_true] at *
  exact fun x hx => h x (List.mem_of_mem_take hx)
theorem list_at (s : ByteArray) (k : Nat) (h : k < s.size) : s.data.toList[k]? = some s[k] := by
  rw [List.getElem?_eq_getElem (by simpa using h)]; rfl
theorem take_snoc (s : ByteArray) (k : Nat) (h : k < s.size) : s.data.toList.take (k + 1) = s.data.toList.take k ++ [s[k]] := by
  rw [List.take_succ_eq_append_getElem (by simpa using h)]; rfl
theorem digs_at (s : ByteArray) (k : Nat) (h : k < s.size) (hd : digs s.data.toList = true) : 48 ≤ s[k].toNat ∧ s[k].toNat ≤ 57 := by
  unfold digs at hd
  rw [List.all_eq_true] at hd
  exact (dig_iff _).1 (hd _ (List.mem_iff_getElem?.2 ⟨k, list_at s k h⟩))
theorem digs_of_take (s : ByteArray) (k : Nat) (h : ¬ k < s.size) (hd : digs (s.data.toList.take k) = true) : digs s.data.toList = true := by
  rwa [List.take_of_length_le (by simpa using h)] at hd
theorem digs_step (s : ByteArray) (k : Nat) (h : k < s.size) (hd : digs (s.data.toList.take k) = true) (hc : 48 ≤ s[k].toNat ∧ s[k].toNat ≤ 57) : digs (s.data.toList.take (k + 1)) = true := by
  rw [take_snoc s k h]
  have := (dig_iff _).2 hc
  simp_all [digs]
theorem digs_stop (s : ByteArray) (k : Nat) (h : k < s.size) (hc : s[k].toNat < 48 ∨ 57 < s[k].toNat) : digs s.data.toList = false := by
  cases hd : digs s.data.toList with
  | false => rfl
  | true => have := digs_at s k h hd; omega

/-- A number from 0 to 99 in two digits. -/
def two (x : Int) : List UInt8 := [UInt8.ofNat (48 + x.toNat / 10), UInt8.ofNat (48 + x.toNat % 10)]
/-- A number that is not negative in decimal digits. -/
def dec (x : Int) : List UInt8 := Lib.decDigits x.toNat
/-- The number of the two bytes from place a on. -/
def pairN (l : List UInt8) (a : Nat) : Nat := valN ((l.drop a).take 2)
theorem ofNat_toNat (x : Nat) (h : x < 10) : (UInt8.ofNat (48 + x)).toNat = 48 + x := by
  rw [UInt8.toNat_ofNat']; omega
theorem dig_ofNat (x : Nat) (h : x < 10) : dig (UInt8.ofNat (48 + x)) = true := by
  rw [dig_iff, ofNat_toNat x h]; omega
theorem ofNat_back (c : UInt8) (h : dig c = true) : UInt8.ofNat (48 + (c.toNat - 48)) = c := by
  have := (dig_iff c).1 h
  rw [show 48 + (c.toNat - 48) = c.toNat by omega, UInt8.ofNat_toNat]
theorem two_digs (x : Int) (h1 : x < 100) : digs (two x) = true := by
  unfold two digs
  simp only [List.all_cons, List.all_nil, Bool.and_true, Bool.and_eq_true]
  exact ⟨dig_ofNat _ (by omega), dig_ofNat _ (by omega)⟩
theorem two_val (x : Int) (h1 : x < 100) : valN (two x) = x.toNat := by
  unfold two valN
  simp only [List.foldl_cons, List.foldl_nil]
  rw [ofNat_toNat _ (by omega), ofNat_toNat _ (by omega)]
  omega
theorem val_pair (a b : UInt8) : valN [a, b] = (a.toNat - 48) * 10 + (b.toNat - 48) := by
  simp [valN]
theorem two_back (a b : UInt8) (ha : dig a = true) (hb : dig b = true) (x : Int) (hx : x = valN [a, b]) : two x = [a, b] := by
  have h1 := (dig_iff a).1 ha
  have h2 := (dig_iff b).1 hb
  unfold two
  rw [hx, val_pair]
  rw [show (((a.toNat - 48) * 10 + (b.toNat - 48) : Nat) : Int).toNat / 10 = a.toNat - 48 by omega, show (((a.toNat - 48) * 10 + (b.toNat - 48) : Nat) : Int).toNat % 10 = b.toNat - 48 by omega, ofNat_back a ha, ofNat_back b hb]

theorem dec_one (x : Int) (h1 : x < 10) : dec x = [UInt8.ofNat (48 + x.toNat)] := by
  unfold dec
  rw [Lib.decDigits_one (by omega)]
theorem dec_two' (x : Int) (h0 : 10 ≤ x) (h1 : x < 100) : dec x = two x := by
  unfold dec two
  rw [Lib.decDigits_two (by omega) (by omega)]
theorem dec_digs (x : Int) (h0 : 0 ≤ x) (h1 : x < 100) : digs (dec x) = true := by
  by_cases h : x < 10
  · rw [dec_one x h]
    unfold digs
    simp only [List.all_cons, List.all_nil, Bool.and_true]
    exact dig_ofNat _ (by omega)
  · rw [dec_two' x (by omega) h1]
    exact two_digs x h1
theorem dec_val (x : Int) (h0 : 0 ≤ x) (h1 : x < 100) : valN (dec x) = x.toNat := by
  by_cases h : x < 10
  · rw [dec_one x h]
    unfold valN
    simp only [List.foldl_cons, List.foldl_nil]
    rw [ofNat_toNat _ (by omega)]
    omega
  · rw [dec_two' x (by omega) h1]
    exact two_val x h1
theorem dec_length (x : Int) (h1 : x < 100) : (dec x).length ≤ 2 := by
  by_cases h : x < 10
  · rw [dec_one x h]; exact Nat.le_succ 1
  · rw [dec_two' x (by omega) h1]; exact Nat.le_refl 2
theorem less_app : ∀ (x y u v : List UInt8), x.length = y.length → Op.bytesLess (x ++ u) (y ++ v) = (Op.bytesLess x y || (x == y && Op.bytesLess u v))
  | [], [], u, v, _ => by simp [Op.bytesLess]
  | a :: x, b :: y, u, v, h => by
    have ih := less_app x y u v (by simpa using h)
    simp only [List.cons_append, Op.bytesLess, ih]
    by_cases hl : a < b
    · simp [hl]
    · by_cases he : a = b
      · subst he
        simp [hl]
      · have h1 : (a == b) = false := by rw [beq_eq_false_iff_ne]; exact he
        have h2 : (a :: x == b :: y) = false := by rw [beq_eq_false_iff_ne]; intro hc; cases hc; exact he rfl
        simp [hl, h1, h2]
theorem digit_lt (a c : Nat) (ha : a < 10) (hc : c < 10) : (UInt8.ofNat (48 + a) < UInt8.ofNat (48 + c)) = (a < c) := by
  rw [UInt8.lt_iff_toNat_lt, ofNat_toNat a ha, ofNat_toNat c hc]
  exact propext ⟨fun h => by omega, fun h => by omega⟩
theorem digit_eq (a c : Nat) (ha : a < 10) (hc : c < 10) : (UInt8.ofNat (48 + a) = UInt8.ofNat (48 + c)) = (a = c) := by
  refine propext ⟨fun h => ?_, fun h => by rw [h]⟩
  have := congrArg UInt8.toNat h
  rw [ofNat_toNat a ha, ofNat_toNat c hc] at this
  omega
theorem two_less (x y : Int) (x0 : 0 ≤ x) (x1 : x < 100) (y0 : 0 ≤ y) (y1 : y < 100) : Op.bytesLess (two x) (two y) = decide (x < y) := by
  have a1 : x.toNat / 10 < 10 := by omega
  have a2 : x.toNat % 10 < 10 := by omega
  have b1 : y.toNat / 10 < 10 := by omega
  have b2 : y.toNat % 10 < 10 := by omega
  unfold two
  simp only [Op.bytesLess, Bool.and_false, Bool.or_false]
  rw [Bool.eq_iff_iff]
  simp only [Bool.or_eq_true, Bool.and_eq_true, decide_eq_true_eq, beq_iff_eq]
  rw [digit_lt _ _ a1 b1, digit_lt _ _ a2 b2, digit_eq _ _ a1 b1]
  omega
theorem two_same (x y : Int) (x0 : 0 ≤ x) (x1 : x < 100) (y0 : 0 ≤ y) (y1 : y < 100) : (two x == two y) = decide (x = y) := by
  rw [Bool.eq_iff_iff, beq_iff_eq, decide_eq_true_eq]
  refine ⟨fun h => ?_, fun h => by rw [h]⟩
  have := congrArg valN h
  rw [two_val x x1, two_val y y1] at this
  omega
theorem two_len (x : Int) : (two x).length = 2 := rfl
theorem dec_len (x : Int) (h : x < 100) : (dec x).length ≤ 2 := by
  unfold dec
  by_cases h1 : x.toNat < 10
  · rw [Lib.decDigits_one h1]; simp
  · rw [Lib.decDigits_two h1 (by omega)]; simp
theorem two_le (x : Int) : (two x).length ≤ 100 := by rw [two_len]; decide
theorem dec_le (x : Int) (h : x < 100) : (dec x).length ≤ 100 := by have := dec_len x h; omega
theorem dec_two (x : Int) (h0 : 0 ≤ x) (h1 : x < 100) : dec (x / 10) ++ dec (x % 10) = two x := by
  obtain ⟨n, rfl⟩ : ∃ n : Nat, x = n := ⟨x.toNat, by omega⟩
  unfold dec two
  rw [Lib.decDigits_one (i := ((n : Int) / 10).toNat) (by omega), Lib.decDigits_one (i := ((n : Int) % 10).toNat) (by omega)]
  rw [show ((n : Int) / 10).toNat = n / 10 by omega, show ((n : Int) % 10).toNat = n % 10 by omega]
  rfl


/-! ### Lists by index -/
theorem at_lt {α : Type} {l : List α} {k : Nat} (h : k < l.length) : ∃ x, l[k]? = some x := ⟨l[k], List.getElem?_eq_getElem h⟩
theorem drop_at {α : Type} (l : List α) (k : Nat) (x : α) (h : l[k]? = some x) : l.drop k = x :: l.drop (k + 1) := by
  have hk := (List.getElem?_eq_some_iff.1 h).1
  rw [List.drop_eq_getElem_cons hk, (List.getElem?_eq_some_iff.1 h).2]
theorem take_at {α : Type} (l : List α) (k : Nat) (x : α) (h : l[k]? = some x) : l.take (k + 1) = l.take k ++ [x] := by
  rw [List.take_add_one, h]; rfl
theorem all_stop {p : UInt8 → Bool} {l : List UInt8} {k : Nat} {c : UInt8} (h : l[k]? = some c) (hc : p c = false) : l.all p = false := by
  cases ha : l.all p with
  | false => rfl
  | true =>
    rw [List.all_eq_true] at ha
    rw [ha c (List.mem_iff_getElem?.2 ⟨k, h⟩)] at hc
    cases hc
theorem all_take (p : UInt8 → Bool) (l : List UInt8) (k : Nat) (c : UInt8) (h : l[k]? = some c) (ht : (l.take k).all p = true) (hc : p c = true) : (l.take (k + 1)).all p = true := by
  rw [take_at l k c h, List.all_append, ht]
  simp [hc]
end Go.Proofs.Ytibakhobgfiklaa
namespace Go.Proofs.Ytibakhobgfiklaa
open Go

/-- An edge: from, to, length. -/
abbrev Ed := Nat × Nat × Nat
/-- A walk of k edges from a to b, of cost c: each edge costs M times its length, and one. -/
def Wk (M : Nat) (l : List Ed) (b : Nat) : Nat → Nat → Nat → Prop
  | 0, a, c => a = b ∧ c = 0
  | k + 1, a, c => ∃ m w c', (a, m, w) ∈ l ∧ Wk M l b k m c' ∧ c = c' + w * M + 1
theorem Wk.nil (M : Nat) (l : List Ed) (b : Nat) : Wk M l b 0 b 0 := ⟨rfl, rfl⟩
theorem Wk.cons {M : Nat} {l : List Ed} {b k a m w c : Nat} (h : (a, m, w) ∈ l) (hw : Wk M l b k m c) : Wk M l b (k + 1) a (c + w * M + 1) := ⟨m, w, c, h, hw, rfl⟩
/-- The cost tells the number of the edges and the length. -/
theorem Wk.cost {M : Nat} {l : List Ed} {b : Nat} : ∀ {k a c : Nat}, Wk M l b k a c → ∃ W, c = M * W + k
  | 0, _, _, ⟨_, hc⟩ => ⟨0, by omega⟩
  | k + 1, a, c, ⟨m, w, c', _, hw, hc⟩ => by
    obtain ⟨W, hW⟩ := hw.cost
    exact ⟨W + w, by rw [Nat.mul_add, Nat.mul_comm M w]; omega⟩
theorem Wk.app {M : Nat} {l : List Ed} {b x : Nat} : ∀ {k a c : Nat} {k' c' : Nat}, Wk M l x k a c → Wk M l b k' x c' → Wk M l b (k + k') a (c + c')
  | 0, a, c, k', c', ⟨ha, hc⟩, h => by
    subst ha hc
    rw [Nat.zero_add, Nat.zero_add]
    exact h
  | k + 1, a, c, k', c', ⟨m, w, d, he, hw, hc⟩, h => by
    have := Wk.cons he (hw.app h)
    rw [show k + 1 + k' = k + k' + 1 by omega, show c + c' = d + c' + w * M + 1 by omega]
    exact this
/-- The ends of the edges are below n. -/
def Inn (l : List Ed) (n : Nat) : Prop := ∀ e ∈ l, e.1 < n ∧ e.2.1 < n
/-- The least cost of a walk from a to b. -/
def Mn (M : Nat) (l : List Ed) (b a c : Nat) : Prop := (∃ k, Wk M l b k a c) ∧ ∀ k c', Wk M l b k a c' → c ≤ c'
theorem Mn.uniq {M : Nat} {l : List Ed} {b a c c' : Nat} (h : Mn M l b a c) (h' : Mn M l b a c') : c = c' := by
  obtain ⟨k, hk⟩ := h.1
  obtain ⟨k', hk'⟩ := h'.1
  have := h.2 _ _ hk'
  have := h'.2 _ _ hk
  omega
theorem least_of {p : Nat → Prop} : ∀ c, p c → ∃ m, p m ∧ ∀ c', p c' → m ≤ c' := by
  intro c
  induction c using Nat.strongRecOn with
  | _ c ih =>
    intro hc
    rcases Classical.em (∃ d, d < c ∧ p d) with ⟨d, hd, hp⟩ | hno
    · exact ih d hd hp
    · refine ⟨c, hc, fun c' hc' => ?_⟩
      rcases Nat.lt_or_ge c' c with h | h
      · exact absurd ⟨c', h, hc'⟩ hno
      · exact h
theorem Mn.exists {M : Nat} {l : List Ed} {b k a c : Nat} (h : Wk M l b k a c) : ∃ m, Mn M l b a m := by
  obtain ⟨m, hm, hl⟩ := least_of (p := fun c => ∃ k, Wk M l b k a c) c ⟨k, h⟩
  exact ⟨m, hm, fun k c' hk => hl c' ⟨k, hk⟩⟩
/-- What follows the first edge of a least walk is least. -/
theorem Mn.tail {M : Nat} {l : List Ed} {b a m w c k : Nat} (he : (a, m, w) ∈ l) (hw : Wk M l b k m c) (h : Mn M l b a (c + w * M + 1)) : Mn M l b m c := by
  refine ⟨⟨k, hw⟩, fun k' c' hk' => ?_⟩
  have := h.2 _ _ (Wk.cons he hk')
  omega

/-! ### A least walk has fewer edges than there are nodes -/
theorem filter_mono_len {p q : Nat → Bool} : ∀ l : List Nat, (∀ x, p x = true → q x = true) → (l.filter p).length ≤ (l.filter q).length
  | [], _ => Nat.le_refl _
  | x :: l, h => by
    have ih := filter_mono_len l h
    by_cases hp : p x = true
    · rw [List.filter_cons_of_pos hp, List.filter_cons_of_pos (h x hp), List.length_cons, List.length_cons]
      omega
    · rw [List.filter_cons_of_neg hp]
      by_cases hq : q x = true
      · rw [List.filter_cons_of_pos hq, List.length_cons]; omega
      · rw [List.filter_cons_of_neg hq]; exact ih
theorem filter_more {p q : Nat → Bool} {a : Nat} (ha : p a = false) (hq : q a = true) (h : ∀ x, p x = true → q x = true) : ∀ l : List Nat, a ∈ l → (l.filter p).length + 1 ≤ (l.filter q).length
  | [], hm => by cases hm
  | x :: l, hm => by
    by_cases hx : x = a
    · subst hx
      rw [List.filter_cons_of_neg (by rw [ha]; decide), List.filter_cons_of_pos hq, List.length_cons]
      have := filter_mono_len l h
      omega
    · have hm' : a ∈ l := by
        rcases List.mem_cons.1 hm with e | e
        · exact absurd e.symm hx
        · exact e
      have ih := filter_more ha hq h l hm'
      by_cases hp : p x = true
      · rw [List.filter_cons_of_pos hp, List.filter_cons_of_pos (h x hp), List.length_cons, List.length_cons]
        omega
      · rw [List.filter_cons_of_neg hp]
        by_cases hq' : q x = true
        · rw [List.filter_cons_of_pos hq', List.length_cons]; omega
        · rw [List.filter_cons_of_neg hq']; exact ih
/-- The node's least cost is at most c. -/
noncomputable def isNear (M : Nat) (l : List Ed) (b c i : Nat) : Bool := @decide (∃ m, Mn M l b i m ∧ m ≤ c) (Classical.propDecidable _)
theorem isNear_iff {M : Nat} {l : List Ed} {b c i : Nat} : isNear M l b c i = true ↔ ∃ m, Mn M l b i m ∧ m ≤ c := by
  unfold isNear
  exact @decide_eq_true_iff _ (Classical.propDecidable _)
noncomputable def near (M : Nat) (l : List Ed) (n b c : Nat) : Nat := ((List.range n).filter fun i => isNear M l b c i).length
theorem least_short {M : Nat} {l : List Ed} {n b : Nat} (hl : Inn l n) (hb : b < n) : ∀ {k a c : Nat}, Wk M l b k a c → Mn M l b a c → k + 1 ≤ near M l n b c
  | 0, a, c, ⟨ha, hc⟩, h => by
    subst ha hc
    unfold near
    have hm : a ∈ (List.range n).filter fun i => isNear M l a 0 i := by
      rw [List.mem_filter]
      exact ⟨List.mem_range.2 hb, isNear_iff.2 ⟨0, h, Nat.le_refl _⟩⟩
    exact List.length_pos_of_mem hm
  | k + 1, a, c, ⟨m, w, c', he, hw, hc⟩, h => by
    subst hc
    have ih := least_short hl hb hw (Mn.tail he hw h)
    refine Nat.le_trans (Nat.add_le_add_right ih 1) ?_
    unfold near
    refine filter_more (a := a) ?_ ?_ ?_ _ (List.mem_range.2 (hl _ he).1)
    · cases hn : isNear M l b c' a with
      | false => rfl
      | true =>
        obtain ⟨x, hx, hle⟩ := isNear_iff.1 hn
        have := hx.uniq h
        omega
    · exact isNear_iff.2 ⟨_, h, Nat.le_refl _⟩
    · intro x hx
      obtain ⟨y, hy, hle⟩ := isNear_iff.1 hx
      exact isNear_iff.2 ⟨y, hy, by omega⟩
theorem near_le (M : Nat) (l : List Ed) (n b c : Nat) : near M l n b c ≤ n := by
  unfold near
  refine Nat.le_trans (List.length_filter_le _ _) ?_
  rw [List.length_range]
  exact Nat.le_refl _
theorem least_edges {M : Nat} {l : List Ed} {n b k a c : Nat} (hl : Inn l n) (hb : b < n) (hw : Wk M l b k a c) (h : Mn M l b a c) : k < n := by
  have := least_short hl hb hw h
  have := near_le M l n b c
  omega

/-! ### Rounds of relaxation -/
/-- One edge. -/
def relax (d : List Int) (e : Ed) : List Int :=
  if d.getD e.2.1 (-1) < 0 then d else if d.getD e.1 (-1) < 0 ∨ d.getD e.2.1 (-1) + (e.2.2 : Int) * 128 + 1 < d.getD e.1 (-1) then d.set e.1 (d.getD e.2.1 (-1) + (e.2.2 : Int) * 128 + 1) else d
/-- All edges, in order. -/
def relaxL (l : List Ed) (d : List Int) : List Int := l.foldl relax d
def relaxN (l : List Ed) : Nat → List Int → List Int
  | 0, d => d
  | k + 1, d => relaxN l k (relaxL l d)
def start (n b : Nat) : List Int := (List.replicate n (-1)).set b 0
def costL (n : Nat) (l : List Ed) (b : Nat) : List Int := relaxN l n (start n b)
theorem getD_set {d : List Int} {i j : Nat} {x y : Int} : (d.set i x).getD j y = if i = j ∧ i < d.length then x else d.getD j y := by
  rw [List.getD_eq_getElem?_getD, List.getElem?_set, List.getD_eq_getElem?_getD]
  by_cases h : i = j
  · subst h
    by_cases hi : i < d.length
    · simp [hi]
    · simp [hi]
  · simp [h]
theorem relax_length (d : List Int) (e : Ed) : (relax d e).length = d.length := by
  unfold relax
  split
  · rfl
  · split
    · rw [List.length_set]
    · rfl
theorem relaxL_length : ∀ (l : List Ed) (d : List Int), (relaxL l d).length = d.length
  | [], _ => rfl
  | e :: l, d => by
    show (relaxL l (relax d e)).length = _
    rw [relaxL_length l, relax_length]
theorem relaxN_length (l : List Ed) : ∀ (k : Nat) (d : List Int), (relaxN l k d).length = d.length
  | 0, _ => rfl
  | k + 1, d => by
    show (relaxN l k (relaxL l d)).length = _
    rw [relaxN_length l k, relaxL_length]
/-- Each entry is -1 or the cost of a walk. -/
def Snd (L : List Ed) (b : Nat) (d : List Int) : Prop := ∀ i, (d.getD i (-1) = -1) ∨ ∃ k c : Nat, d.getD i (-1) = (c : Int) ∧ Wk 128 L b k i c
theorem snd_relax {L : List Ed} {b : Nat} {d : List Int} {e : Ed} (h : Snd L b d) (he : e ∈ L) : Snd L b (relax d e) := by
  unfold relax
  split
  · exact h
  · next h1 =>
    split
    · intro i
      rw [getD_set]
      split
      · next h2 =>
        obtain ⟨rfl, -⟩ := h2
        rcases h e.2.1 with hm | ⟨k, c, hc, hw⟩
        · omega
        · refine Or.inr ⟨k + 1, c + e.2.2 * 128 + 1, by rw [hc]; omega, Wk.cons (show (e.1, e.2.1, e.2.2) ∈ L from he) hw⟩
      · exact h i
    · exact h
theorem snd_relaxL {L : List Ed} {b : Nat} : ∀ {l : List Ed} {d : List Int}, Snd L b d → (∀ e ∈ l, e ∈ L) → Snd L b (relaxL l d)
  | [], _, h, _ => h
  | e :: l, d, h, hl => by
    show Snd L b (relaxL l (relax d e))
    exact snd_relaxL (snd_relax h (hl e (by simp))) fun x hx => hl x (List.mem_cons_of_mem _ hx)
theorem snd_relaxN {L : List Ed} {b : Nat} : ∀ {k : Nat} {d : List Int}, Snd L b d → Snd L b (relaxN L k d)
  | 0, _, h => h
  | k + 1, d, h => by
    show Snd L b (relaxN L k (relaxL L d))
    exact snd_relaxN (snd_relaxL h fun _ hx => hx)
theorem snd_start (L : List Ed) (n b : Nat) : Snd L b (start n b) := by
  intro i
  unfold start
  rw [getD_set]
  split
  · next h =>
    obtain ⟨rfl, -⟩ := h
    exact Or.inr ⟨0, 0, rfl, Wk.nil _ _ _⟩
  · left
    rw [List.getD_eq_getElem?_getD, List.getElem?_replicate]
    split <;> rfl
/-- At most c. -/
def Le (d : List Int) (i c : Nat) : Prop := 0 ≤ d.getD i (-1) ∧ d.getD i (-1) ≤ (c : Int)
theorem le_relax {d : List Int} {e : Ed} {i c : Nat} (h : Le d i c) : Le (relax d e) i c := by
  obtain ⟨h0, h1⟩ := h
  unfold relax
  split
  · exact ⟨h0, h1⟩
  · next h2 =>
    split
    · next h3 =>
      unfold Le
      rw [getD_set]
      split
      · next h4 =>
        obtain ⟨rfl, -⟩ := h4
        omega
      · exact ⟨h0, h1⟩
    · exact ⟨h0, h1⟩
theorem le_relaxL {i c : Nat} : ∀ {l : List Ed} {d : List Int}, Le d i c → Le (relaxL l d) i c
  | [], _, h => h
  | e :: l, d, h => by
    show Le (relaxL l (relax d e)) i c
    exact le_relaxL (le_relax h)
theorem le_relaxN {L : List Ed} {i c : Nat} : ∀ {k : Nat} {d : List Int}, Le d i c → Le (relaxN L k d) i c
  | 0, _, h => h
  | k + 1, d, h => by
    show Le (relaxN L k (relaxL L d)) i c
    exact le_relaxN (le_relaxL h)
theorem relax_hits {d : List Int} {a m w c : Nat} (ha : a < d.length) (h : Le d m c) : Le (relax d (a, m, w)) a (c + w * 128 + 1) := by
  obtain ⟨h0, h1⟩ := h
  unfold relax
  simp only
  rw [if_neg (by omega)]
  split
  · unfold Le
    rw [getD_set, if_pos ⟨rfl, ha⟩]
    omega
  · next h3 => exact ⟨by omega, by omega⟩
theorem relaxL_hits {a m w c : Nat} : ∀ {l : List Ed} {d : List Int}, (a, m, w) ∈ l → a < d.length → Le d m c → Le (relaxL l d) a (c + w * 128 + 1)
  | [], _, he, _, _ => by cases he
  | e :: l, d, he, ha, h => by
    show Le (relaxL l (relax d e)) a _
    rcases List.mem_cons.1 he with rfl | he
    · exact le_relaxL (relax_hits ha h)
    · exact relaxL_hits he (by rw [relax_length]; exact ha) (le_relax h)
/-- After k rounds all walks of at most k edges count. -/
theorem relaxN_done {L : List Ed} {n b : Nat} (hl : Inn L n) : ∀ {k : Nat} {d : List Int}, d.length = n → Le d b 0 → ∀ {j i c : Nat}, j ≤ k → Wk 128 L b j i c → Le (relaxN L k d) i c := by
  -- told of the rounds behind: a round, then k rounds
  have key : ∀ (k : Nat) (d : List Int), d.length = n → ∀ r, (∀ {j i c : Nat}, j ≤ r → Wk 128 L b j i c → Le d i c) → ∀ {j i c : Nat}, j ≤ r + k → Wk 128 L b j i c → Le (relaxN L k d) i c := by
    intro k
    induction k with
    | zero => intro d _ r h j i c hj hw; exact h hj hw
    | succ k ih =>
      intro d hd r h j i c hj hw
      refine ih (relaxL L d) (by rw [relaxL_length]; exact hd) (r + 1) ?_ (by omega) hw
      intro j i c hj hw
      rcases Nat.lt_or_ge r j with hr | hr
      · obtain rfl : j = r + 1 := by omega
        obtain ⟨m, w, c', he, hw', rfl⟩ := hw
        exact relaxL_hits he (by rw [hd]; exact (hl _ he).1) (h (Nat.le_refl _) hw')
      · exact le_relaxL (h hr hw)
  intro k d hd h0 j i c hj hw
  refine key k d hd 0 ?_ (by omega) hw
  intro j i c hj hw
  obtain rfl : j = 0 := by omega
  obtain ⟨rfl, rfl⟩ := hw
  exact h0
/-- The rounds find the least costs. -/
theorem costL_spec {L : List Ed} {n b : Nat} (hl : Inn L n) (hb : b < n) (i : Nat) : ((costL n L b).getD i (-1) = -1 ∧ ∀ k c, ¬ Wk 128 L b k i c) ∨ ∃ c : Nat, (costL n L b).getD i (-1) = (c : Int) ∧ Mn 128 L b i c := by
  have hs : Snd L b (costL n L b) := snd_relaxN (snd_start L n b)
  have hd : (start n b).length = n := by unfold start; rw [List.length_set, List.length_replicate]
  have h0 : Le (start n b) b 0 := by
    unfold Le start
    rw [getD_set, if_pos ⟨rfl, by rw [List.length_replicate]; exact hb⟩]
    exact ⟨Int.le_refl _, Int.le_refl _⟩
  have done : ∀ {k c : Nat}, Wk 128 L b k i c → Le (costL n L b) i c := by
    intro k c hw
    obtain ⟨m, hm⟩ := Mn.exists hw
    obtain ⟨k', hk'⟩ := hm.1
    have := least_edges hl hb hk' hm
    have h1 : Le (costL n L b) i m := relaxN_done hl hd h0 (Nat.le_of_lt this) hk'
    have h2 := hm.2 _ _ hw
    exact ⟨h1.1, by have := h1.2; omega⟩
  rcases hs i with hm | ⟨k, c, hc, hw⟩
  · refine Or.inl ⟨hm, fun k c hw => ?_⟩
    have := (done hw).1
    omega
  · refine Or.inr ⟨c, hc, ⟨k, hw⟩, fun k' c' hw' => ?_⟩
    have := (done hw').2
    omega
theorem costL_length (n : Nat) (L : List Ed) (b : Nat) : (costL n L b).length = n := by
  unfold costL start
  rw [relaxN_length, List.length_set, List.length_replicate]

/-! ### The distance -/
/-- A walk of k edges from a to b, of length W. -/
def Wl (l : List Ed) (b : Nat) : Nat → Nat → Nat → Prop
  | 0, a, W => a = b ∧ W = 0
  | k + 1, a, W => ∃ m w V, (a, m, w) ∈ l ∧ Wl l b k m V ∧ W = V + w
theorem Wl.wk {l : List Ed} {b : Nat} (M : Nat) : ∀ {k a W : Nat}, Wl l b k a W → Wk M l b k a (M * W + k)
  | 0, _, _, ⟨ha, hW⟩ => ⟨ha, by rw [hW]; rfl⟩
  | k + 1, a, W, ⟨m, w, V, he, hw, hW⟩ => by
    have := Wk.cons he (Wl.wk M hw)
    rw [hW, Nat.mul_add, Nat.mul_comm M w]
    rw [show M * V + w * M + (k + 1) = M * V + k + w * M + 1 by omega]
    exact this
theorem Wk.wl {M : Nat} {l : List Ed} {b : Nat} : ∀ {k a c : Nat}, Wk M l b k a c → ∃ W, Wl l b k a W ∧ c = M * W + k
  | 0, _, _, ⟨ha, hc⟩ => ⟨0, ⟨ha, rfl⟩, by rw [hc]; rfl⟩
  | k + 1, a, c, ⟨m, w, c', he, hw, hc⟩ => by
    obtain ⟨V, hV, hc'⟩ := hw.wl
    exact ⟨V + w, ⟨m, w, V, he, hV, rfl⟩, by rw [hc, hc', Nat.mul_add, Nat.mul_comm M w]; omega⟩
theorem Wl.app {l : List Ed} {b x : Nat} : ∀ {k a W k' W' : Nat}, Wl l x k a W → Wl l b k' x W' → Wl l b (k + k') a (W + W')
  | 0, a, W, k', W', ⟨ha, hW⟩, h => by
    subst ha hW
    rw [Nat.zero_add, Nat.zero_add]
    exact h
  | k + 1, a, W, k', W', ⟨m, w, V, he, hw, hW⟩, h => by
    rw [show k + 1 + k' = k + k' + 1 by omega]
    exact ⟨m, w, V + W', he, hw.app h, by omega⟩
/-- The length of a shortest path from a to b. -/
def Dist (l : List Ed) (b a W : Nat) : Prop := (∃ k, Wl l b k a W) ∧ ∀ k V, Wl l b k a V → W ≤ V
theorem Dist.uniq {l : List Ed} {b a W V : Nat} (h : Dist l b a W) (h' : Dist l b a V) : W = V := by
  obtain ⟨k, hk⟩ := h.1
  obtain ⟨k', hk'⟩ := h'.1
  have := h.2 _ _ hk'
  have := h'.2 _ _ hk
  omega
theorem Dist.exists {l : List Ed} {b k a V : Nat} (h : Wl l b k a V) : ∃ W, Dist l b a W := by
  obtain ⟨m, hm, hl⟩ := least_of (p := fun c => ∃ k, Wl l b k a c) V ⟨k, h⟩
  exact ⟨m, hm, fun k c' hk => hl c' ⟨k, hk⟩⟩
/-- A least cost tells the distance, and the fewest edges of a shortest path. -/
theorem Mn.dist {l : List Ed} {n b a c : Nat} (hl : Inn l n) (hb : b < n) (hn : n ≤ 128) (h : Mn 128 l b a c) : Dist l b a (c / 128) ∧ (∃ k, k = c % 128 ∧ k < n ∧ Wl l b k a (c / 128)) ∧ ∀ k, Wl l b k a (c / 128) → c % 128 ≤ k := by
  obtain ⟨k0, hk0⟩ := h.1
  have hlt := least_edges hl hb hk0 h
  obtain ⟨W0, hW0, hc⟩ := hk0.wl
  have e1 : c / 128 = W0 := by omega
  have e2 : c % 128 = k0 := by omega
  rw [e1, e2]
  refine ⟨⟨⟨k0, hW0⟩, fun k V hV => ?_⟩, ⟨k0, rfl, hlt, hW0⟩, fun k hk => ?_⟩
  · -- under a factor that outweighs the walk's own edges
    obtain ⟨c2, hc2⟩ := Mn.exists (hV.wk (128 + k))
    obtain ⟨k1, hk1⟩ := hc2.1
    have hlt1 := least_edges hl hb hk1 hc2
    obtain ⟨W1, hW1, hc1⟩ := hk1.wl
    have h1 := hc2.2 _ _ (hV.wk (128 + k))
    have h2 := h.2 _ _ (hW1.wk 128)
    have h3 : W0 ≤ W1 := by omega
    rcases Nat.lt_or_ge V W1 with hlt2 | hge
    · have h4 : (128 + k) * (V + 1) ≤ (128 + k) * W1 := Nat.mul_le_mul_left _ hlt2
      rw [Nat.mul_add, Nat.mul_one] at h4
      omega
    · omega
  · have := h.2 _ _ (hk.wk 128)
    omega
/-- Distances satisfy the triangle inequality; no edge is shorter than the distance of its ends; a node's distance to itself is 0. -/
theorem Dist.tri {l : List Ed} {a b c U V W : Nat} (h1 : Dist l b a U) (h2 : Dist l c b V) (h3 : Dist l c a W) : W ≤ U + V := by
  obtain ⟨k, hk⟩ := h1.1
  obtain ⟨k', hk'⟩ := h2.1
  exact h3.2 _ _ (hk.app hk')
theorem Dist.edge {l : List Ed} {a b w W : Nat} (he : (a, b, w) ∈ l) (h : Dist l b a W) : W ≤ w := h.2 1 w ⟨b, w, 0, he, ⟨rfl, rfl⟩, (Nat.zero_add _).symm⟩
theorem Dist.self (l : List Ed) (a : Nat) : Dist l a a 0 := ⟨⟨0, rfl, rfl⟩, fun _ _ _ => Nat.zero_le _⟩

/-! ### The edges turned -/
def turnE (e : Ed) : Ed := (e.2.1, e.1, e.2.2)
def turnL (l : List Ed) : List Ed := l.map turnE
theorem turn_turn (l : List Ed) : turnL (turnL l) = l := by
  unfold turnL
  rw [List.map_map]
  exact (List.map_congr_left (fun x _ => rfl)).trans (List.map_id l)
theorem mem_turn {l : List Ed} {a b w : Nat} (h : (a, b, w) ∈ l) : (b, a, w) ∈ turnL l := List.mem_map.2 ⟨_, h, rfl⟩
theorem Wl.snoc {l : List Ed} {b x w : Nat} {k a W : Nat} (h : Wl l x k a W) (he : (x, b, w) ∈ l) : Wl l b (k + 1) a (W + w) := h.app ⟨b, w, 0, he, ⟨rfl, rfl⟩, (Nat.zero_add _).symm⟩
theorem Wl.turn {l : List Ed} {b : Nat} : ∀ {k a W : Nat}, Wl l b k a W → Wl (turnL l) a k b W
  | 0, _, _, ⟨ha, hW⟩ => ⟨ha.symm, hW⟩
  | k + 1, a, W, ⟨m, w, V, he, hw, hW⟩ => by
    rw [hW]
    exact (hw.turn).snoc (mem_turn he)
theorem Dist.turn {l : List Ed} {a b W : Nat} (h : Dist l b a W) : Dist (turnL l) a b W := by
  obtain ⟨k, hk⟩ := h.1
  refine ⟨⟨k, hk.turn⟩, fun k V hV => ?_⟩
  have := hV.turn
  rw [turn_turn] at this
  exact h.2 _ _ this
theorem Inn.turn {l : List Ed} {n : Nat} (h : Inn l n) : Inn (turnL l) n := by
  intro e he
  obtain ⟨x, hx, rfl⟩ := List.mem_map.1 he
  exact ⟨(h x hx).2, (h x hx).1⟩
end Go.Proofs.Ytibakhobgfiklaa
namespace Go.Proofs.Ytibakhobgfiklaa
open Go

/-! ### Walks through nodes below a bound -/
/-- A walk of m + 1 edges from i to j of length W whose nodes between lie below k. -/
def Wb (l : List Ed) (k j : Nat) : Nat → Nat → Nat → Prop
  | 0, i, W => (i, j, W) ∈ l
  | m + 1, i, W => ∃ x s V, (i, x, s) ∈ l ∧ x < k ∧ Wb l k j m x V ∧ W = V + s
theorem Wb.wl {l : List Ed} {k j : Nat} : ∀ {m i W : Nat}, Wb l k j m i W → Wl l j (m + 1) i W
  | 0, _, W, h => ⟨j, W, 0, h, ⟨rfl, rfl⟩, (Nat.zero_add _).symm⟩
  | _ + 1, _, _, ⟨x, s, V, he, _, hw, hW⟩ => ⟨x, s, V, he, hw.wl, hW⟩
theorem Wb.of {l : List Ed} {n j : Nat} (hl : Inn l n) : ∀ {m i W : Nat}, Wl l j (m + 1) i W → Wb l n j m i W
  | 0, i, W, ⟨x, s, V, he, ⟨hx, hV⟩, hW⟩ => by
    subst hx hV
    rw [Nat.zero_add] at hW
    rw [hW]
    exact he
  | m + 1, i, W, ⟨x, s, V, he, hw, hW⟩ => ⟨x, s, V, he, (hl _ he).2, Wb.of hl hw, hW⟩
/-- With one node more a walk is one without it, or no shorter than one to it and one from it. -/
theorem Wb.split {l : List Ed} {k j : Nat} : ∀ {m i W : Nat}, Wb l (k + 1) j m i W → (∃ m', Wb l k j m' i W) ∨ ∃ m1 W1 m2 W2, Wb l k k m1 i W1 ∧ Wb l k j m2 k W2 ∧ W1 + W2 ≤ W
  | 0, i, W, h => .inl ⟨0, h⟩
  | m + 1, i, W, ⟨x, s, V, he, hx, hw, hW⟩ => by
    rcases hw.split with ⟨m', h1⟩ | ⟨m1, W1, m2, W2, h1, h2, h3⟩
    · by_cases hk : x = k
      · subst hk
        exact .inr ⟨0, s, m', V, he, h1, by omega⟩
      · exact .inl ⟨m' + 1, x, s, V, he, by omega, h1, hW⟩
    · by_cases hk : x = k
      · subst hk
        exact .inr ⟨0, s, m2, W2, he, h2, by omega⟩
      · exact .inr ⟨m1 + 1, W1 + s, m2, W2, ⟨x, s, W1, he, by omega, h1, rfl⟩, h2, by omega⟩

/-! ### A matrix -/
/-- The entry in row i and column j. -/
def mg (m : List (List Int)) (i j : Nat) : Int := (m.getD i []).getD j 0
/-- The matrix with this entry. -/
def ms (m : List (List Int)) (i j : Nat) (v : Int) : List (List Int) := m.set i ((m.getD i []).set j v)
/-- A matrix of n rows of n entries. -/
def Sq (n : Nat) (m : List (List Int)) : Prop := m.length = n ∧ ∀ (i : Nat) r, m[i]? = some r → r.length = n
section
variable {n : Nat} {m : List (List Int)} {i j : Nat}
theorem sq_row (h : Sq n m) (hi : i < n) : ∃ r, m[i]? = some r ∧ r.length = n ∧ ∀ j, mg m i j = r.getD j 0 := by
  obtain ⟨r, hr⟩ := at_lt (l := m) (k := i) (by rw [h.1]; exact hi)
  refine ⟨r, hr, h.2 i r hr, fun j => ?_⟩
  unfold mg
  rw [List.getD_eq_getElem?_getD (l := m), hr]
  rfl
theorem sq_at (h : Sq n m) (hi : i < n) (hj : j < n) : ∃ r, m[i]? = some r ∧ r[j]? = some (mg m i j) := by
  obtain ⟨r, hr, hl, hg⟩ := sq_row h hi
  obtain ⟨x, hx⟩ := at_lt (l := r) (k := j) (by omega)
  refine ⟨r, hr, ?_⟩
  rw [hg, List.getD_eq_getElem?_getD, hx]
  rfl
theorem sq_set (h : Sq n m) (hi : i < n) (v : Int) : Sq n (ms m i j v) := by
  obtain ⟨r, hr, hl, -⟩ := sq_row h hi
  have he : m.getD i [] = r := by rw [List.getD_eq_getElem?_getD, hr]; rfl
  refine ⟨by unfold ms; rw [List.length_set]; exact h.1, fun a q hq => ?_⟩
  unfold ms at hq
  rw [List.getElem?_set] at hq
  split at hq
  · split at hq
    · rw [← Option.some.inj hq, List.length_set, he, hl]
    · cases hq
  · exact h.2 a q hq
theorem mg_set (h : Sq n m) (hi : i < n) (hj : j < n) (v : Int) (a b : Nat) : mg (ms m i j v) a b = if a = i ∧ b = j then v else mg m a b := by
  obtain ⟨r, hr, hl, hg⟩ := sq_row h hi
  have he : m.getD i [] = r := by rw [List.getD_eq_getElem?_getD, hr]; rfl
  unfold mg ms
  rw [he]
  by_cases ha : a = i
  · subst ha
    have e1 : (m.set a (r.set j v)).getD a [] = r.set j v := by rw [List.getD_eq_getElem?_getD, List.getElem?_set_self (by rw [h.1]; exact hi)]; rfl
    rw [e1, he]
    by_cases hb : b = j
    · subst hb
      rw [if_pos ⟨rfl, rfl⟩, List.getD_eq_getElem?_getD, List.getElem?_set_self (by omega)]
      rfl
    · rw [if_neg (fun e => hb e.2), List.getD_eq_getElem?_getD, List.getElem?_set_ne (Ne.symm hb), ← List.getD_eq_getElem?_getD]
  · rw [if_neg (fun e => ha e.1)]
    have e1 : (m.set i (r.set j v)).getD a [] = m.getD a [] := by rw [List.getD_eq_getElem?_getD, List.getElem?_set_ne (Ne.symm ha), ← List.getD_eq_getElem?_getD]
    rw [e1]
end

/-! ### What the matrix tells -/
/-- Where there is no walk. -/
abbrev farN : Int := 1099511627776
/-- In the round of node k, where the pairs P are done: each entry is the length of a walk, or says that there is none; none is greater than a walk through nodes below k, nor for the pairs done than one through nodes up to k. -/
structure FwS (l : List Ed) (n k : Nat) (P : Nat → Nat → Prop) (m : List (List Int)) : Prop where
  sq : Sq n m
  snd : ∀ i j, i < n → j < n → mg m i j = farN ∨ ∃ c W, mg m i j = ((W : Nat) : Int) ∧ Wl l j (c + 1) i W
  top : ∀ i j, i < n → j < n → mg m i j ≤ farN
  low : ∀ i j, i < n → j < n → 0 ≤ mg m i j
  old : ∀ i j c W, i < n → j < n → Wb l k j c i W → (W : Int) ≤ farN → mg m i j ≤ (W : Int)
  new : ∀ i j c W, i < n → j < n → P i j → Wb l (k + 1) j c i W → (W : Int) ≤ farN → mg m i j ≤ (W : Int)
/-- Nothing is done yet. -/
def noP (_ _ : Nat) : Prop := False
/-- Done in the order of the loops: the rows ahead of i, and in row i the columns ahead of j. -/
def uptoP (i j : Nat) (a b : Nat) : Prop := a < i ∨ a = i ∧ b < j
section
variable {l : List Ed} {n k : Nat} {m : List (List Int)} {i j : Nat}
theorem FwS.begin (h : FwS l n k noP m) : FwS l n k (uptoP 0 0) m :=
  ⟨h.sq, h.snd, h.top, h.low, h.old, fun a b c W _ _ hp => by rcases hp with h | ⟨_, h⟩ <;> exact absurd h (Nat.not_lt_zero _)⟩
theorem FwS.nextRow (h : FwS l n k (uptoP i n) m) : FwS l n k (uptoP (i + 1) 0) m :=
  ⟨h.sq, h.snd, h.top, h.low, h.old, fun a b c W ha hb hp => h.new a b c W ha hb (by
    rcases hp with h1 | ⟨_, h1⟩
    · by_cases e : a = i
      · exact .inr ⟨e, hb⟩
      · exact .inl (by omega)
    · exact absurd h1 (Nat.not_lt_zero _))⟩
theorem FwS.nextNode (h : FwS l n k (uptoP n 0) m) : FwS l n (k + 1) noP m :=
  ⟨h.sq, h.snd, h.top, h.low, fun a b c W ha hb hw => h.new a b c W ha hb (.inl ha) hw, fun _ _ _ _ _ _ hp => hp.elim⟩
/-- What a pair's walks over k are no shorter than. -/
theorem FwS.over (h : FwS l n k (uptoP i j) m) (hi : i < n) (hj : j < n) (hk : k < n) {v : Int} (hv1 : v ≤ mg m i j) (hv2 : v ≤ mg m i k + mg m k j) {c W : Nat} (hw : Wb l (k + 1) j c i W) (hf : (W : Int) ≤ farN) : v ≤ (W : Int) := by
  rcases hw.split with ⟨c', h1⟩ | ⟨m1, W1, m2, W2, h1, h2, h3⟩
  · have := h.old i j c' W hi hj h1 hf
    omega
  · have a1 := h.old i k m1 W1 hi hk h1 (by omega)
    have a2 := h.old k j m2 W2 hk hj h2 (by omega)
    omega
theorem FwS.keep (h : FwS l n k (uptoP i j) m) (hi : i < n) (hj : j < n) (hk : k < n) (hn : ¬ mg m i k + mg m k j < mg m i j) : FwS l n k (uptoP i (j + 1)) m := by
  refine ⟨h.sq, h.snd, h.top, h.low, h.old, fun a b c W ha hb hp hw hf => ?_⟩
  by_cases e : a = i ∧ b = j
  · obtain ⟨rfl, rfl⟩ := e
    exact h.over ha hb hk (Int.le_refl _) (by omega) hw hf
  · exact h.new a b c W ha hb (by
      rcases hp with h1 | ⟨h1, h2⟩
      · exact .inl h1
      · exact .inr ⟨h1, by omega⟩) hw hf
theorem FwS.put (h : FwS l n k (uptoP i j) m) (hi : i < n) (hj : j < n) (hk : k < n) (hn : mg m i k + mg m k j < mg m i j) : FwS l n k (uptoP i (j + 1)) (ms m i j (mg m i k + mg m k j)) := by
  have t1 := h.top i j hi hj
  have l1 := h.low i k hi hk
  have l2 := h.low k j hk hj
  have dn : ∀ a b, mg (ms m i j (mg m i k + mg m k j)) a b ≤ mg m a b := by
    intro a b
    rw [mg_set h.sq hi hj]
    split
    · next e =>
      obtain ⟨rfl, rfl⟩ := e
      omega
    · exact Int.le_refl _
  refine ⟨sq_set h.sq hi _, fun a b ha hb => ?_, fun a b ha hb => Int.le_trans (dn a b) (h.top a b ha hb), fun a b ha hb => ?_, fun a b c W ha hb hw hf => Int.le_trans (dn a b) (h.old a b c W ha hb hw hf), fun a b c W ha hb hp hw hf => ?_⟩
  · rw [mg_set h.sq hi hj]
    split
    · next e =>
      obtain ⟨rfl, rfl⟩ := e
      rcases h.snd a k ha hk with e1 | ⟨c1, W1, e1, w1⟩
      · omega
      rcases h.snd k b hk hb with e2 | ⟨c2, W2, e2, w2⟩
      · omega
      refine .inr ⟨c1 + 1 + c2, W1 + W2, by rw [e1, e2]; omega, ?_⟩
      rw [show c1 + 1 + c2 + 1 = (c1 + 1) + (c2 + 1) by omega]
      exact w1.app w2
    · exact h.snd a b ha hb
  · rw [mg_set h.sq hi hj]
    split
    · omega
    · exact h.low a b ha hb
  · by_cases e : a = i ∧ b = j
    · obtain ⟨rfl, rfl⟩ := e
      rw [mg_set h.sq hi hj, if_pos ⟨rfl, rfl⟩]
      exact h.over ha hb hk (Int.le_of_lt hn) (Int.le_refl _) hw hf
    · exact Int.le_trans (dn a b) (h.new a b c W ha hb (by
        rcases hp with h1 | ⟨h1, h2⟩
        · exact .inl h1
        · exact .inr ⟨h1, by omega⟩) hw hf)
/-- At the end each entry is the length of a shortest walk of one edge or more, or says that there is none so short. -/
theorem FwS.done (h : FwS l n n noP m) (hl : Inn l n) (hi : i < n) (hj : j < n) : (mg m i j = farN ∧ ∀ c W, Wl l j (c + 1) i W → farN ≤ (W : Int)) ∨ ∃ W : Nat, mg m i j = (W : Int) ∧ (∃ c, Wl l j (c + 1) i W) ∧ ∀ c V, Wl l j (c + 1) i V → W ≤ V := by
  have ht := h.top i j hi hj
  rcases h.snd i j hi hj with e | ⟨c, W, e, hw⟩
  · refine .inl ⟨e, fun c W hw => ?_⟩
    rcases Int.lt_or_le (W : Int) farN with hlt | hge
    · have := h.old i j c W hi hj (Wb.of hl hw) (by omega)
      omega
    · exact hge
  · refine .inr ⟨W, e, ⟨c, hw⟩, fun c' V hv => ?_⟩
    rcases Int.lt_or_le (V : Int) farN with hlt | hge
    · have := h.old i j c' V hi hj (Wb.of hl hv) (by omega)
      omega
    · omega
/-- Between two different stops: the distance. -/
theorem FwS.dist (h : FwS l n n noP m) (hl : Inn l n) (hi : i < n) (hj : j < n) (hne : i ≠ j) : (mg m i j = farN ∧ ∀ W, Dist l j i W → farN ≤ (W : Int)) ∨ ∃ W : Nat, mg m i j = (W : Int) ∧ Dist l j i W := by
  have one : ∀ {c V : Nat}, Wl l j c i V → ∃ c', c = c' + 1 := by
    intro c V hv
    cases c with
    | zero => exact absurd hv.1 hne
    | succ c => exact ⟨c, rfl⟩
  rcases h.done hl hi hj with ⟨e, hf⟩ | ⟨W, e, ⟨c, hw⟩, hm⟩
  · refine .inl ⟨e, fun W hd => ?_⟩
    obtain ⟨c, hc⟩ := hd.1
    obtain ⟨c', rfl⟩ := one hc
    exact hf c' W hc
  · refine .inr ⟨W, e, ⟨c + 1, hw⟩, fun c' V hv => ?_⟩
    obtain ⟨c'', rfl⟩ := one hv
    exact hm c'' V hv
end

/-! ### Before the first round -/
/-- All entries say that there is no walk. -/
def farM (n : Nat) : List (List Int) := List.replicate n (List.replicate n farN)
theorem sq_far (n : Nat) : Sq n (farM n) := by
  refine ⟨List.length_replicate, fun i r hr => ?_⟩
  unfold farM at hr
  rw [List.getElem?_replicate] at hr
  split at hr
  · rw [← Option.some.inj hr, List.length_replicate]
  · cases hr
theorem mg_far {n i j : Nat} (hi : i < n) (hj : j < n) : mg (farM n) i j = farN := by
  obtain ⟨r, hr, hx⟩ := sq_at (sq_far n) hi hj
  unfold farM at hr
  rw [List.getElem?_replicate, if_pos hi] at hr
  obtain rfl := Option.some.inj hr
  rw [List.getElem?_replicate, if_pos hj] at hx
  exact (Option.some.inj hx).symm
/-- The edges that have been looked at: each entry is the least of them, or says that there is none. -/
structure FwE (l : List Ed) (n : Nat) (m : List (List Int)) : Prop where
  sq : Sq n m
  snd : ∀ i j, i < n → j < n → mg m i j = farN ∨ ∃ W : Nat, mg m i j = (W : Int) ∧ (i, j, W) ∈ l
  top : ∀ i j, i < n → j < n → mg m i j ≤ farN
  low : ∀ i j, i < n → j < n → 0 ≤ mg m i j
  old : ∀ i j W, i < n → j < n → (i, j, W) ∈ l → mg m i j ≤ (W : Int)
theorem FwE.start (n : Nat) : FwE [] n (farM n) :=
  ⟨sq_far n, fun i j hi hj => .inl (mg_far hi hj), fun i j hi hj => by rw [mg_far hi hj]; exact Int.le_refl _, fun i j hi hj => by rw [mg_far hi hj]; decide, fun _ _ _ _ _ h => by cases h⟩
section
variable {l : List Ed} {n : Nat} {m : List (List Int)} {a b s : Nat}
theorem FwE.keep (h : FwE l n m) (hn : ¬ (s : Int) < mg m a b) : FwE (l ++ [(a, b, s)]) n m := by
  refine ⟨h.sq, fun i j hi hj => ?_, h.top, h.low, fun i j W hi hj hm => ?_⟩
  · rcases h.snd i j hi hj with e | ⟨W, e, hW⟩
    · exact .inl e
    · exact .inr ⟨W, e, List.mem_append_left _ hW⟩
  · rcases List.mem_append.1 hm with hm | hm
    · exact h.old i j W hi hj hm
    · have e := List.mem_singleton.1 hm
      cases e
      omega
theorem FwE.put (h : FwE l n m) (ha : a < n) (hb : b < n) (hn : (s : Int) < mg m a b) : FwE (l ++ [(a, b, s)]) n (ms m a b (s : Int)) := by
  have dn : ∀ i j, mg (ms m a b (s : Int)) i j ≤ mg m i j := by
    intro i j
    rw [mg_set h.sq ha hb]
    split
    · next e =>
      obtain ⟨rfl, rfl⟩ := e
      omega
    · exact Int.le_refl _
  refine ⟨sq_set h.sq ha _, fun i j hi hj => ?_, fun i j hi hj => Int.le_trans (dn i j) (h.top i j hi hj), fun i j hi hj => ?_, fun i j W hi hj hm => ?_⟩
  · rw [mg_set h.sq ha hb]
    split
    · next e =>
      obtain ⟨rfl, rfl⟩ := e
      exact .inr ⟨s, rfl, List.mem_append_right _ (List.mem_singleton.2 rfl)⟩
    · rcases h.snd i j hi hj with e | ⟨W, e, hW⟩
      · exact .inl e
      · exact .inr ⟨W, e, List.mem_append_left _ hW⟩
  · rw [mg_set h.sq ha hb]
    split
    · omega
    · exact h.low i j hi hj
  · rcases List.mem_append.1 hm with hm | hm
    · exact Int.le_trans (dn i j) (h.old i j W hi hj hm)
    · have e := List.mem_singleton.1 hm
      cases e
      rw [mg_set h.sq ha hb, if_pos ⟨rfl, rfl⟩]
      exact Int.le_refl _
theorem Wb.zero {l : List Ed} {j : Nat} : ∀ {c i W : Nat}, Wb l 0 j c i W → c = 0 ∧ (i, j, W) ∈ l
  | 0, _, _, h => ⟨rfl, h⟩
  | _ + 1, _, _, ⟨_, _, _, _, hx, _, _⟩ => absurd hx (Nat.not_lt_zero _)
/-- Behind all edges the first round begins. -/
theorem FwE.begin (h : FwE l n m) : FwS l n 0 noP m :=
  ⟨h.sq, fun i j hi hj => by
    rcases h.snd i j hi hj with e | ⟨W, e, hW⟩
    · exact .inl e
    · exact .inr ⟨0, W, e, j, W, 0, hW, ⟨rfl, rfl⟩, (Nat.zero_add _).symm⟩, h.top, h.low, fun i j c W hi hj hw _ => h.old i j W hi hj hw.zero.2, fun _ _ _ _ _ _ hp => hp.elim⟩
end
end Go.Proofs.Ytibakhobgfiklaa
namespace Go.Proofs.Ytibakhobgfiklaa
open Go

/-! ### Distances by node -/
/-- The distance out of a cost. -/
def dist1 (c : Int) : Int := if 0 ≤ c then c / 128 else c
def distL (n : Nat) (l : List Ed) (a : Nat) : List Int := (costL n (turnL l) a).map dist1
theorem distL_length (n : Nat) (l : List Ed) (a : Nat) : (distL n l a).length = n := by unfold distL; rw [List.length_map, costL_length]
theorem distL_spec {l : List Ed} {n a : Nat} (hl : Inn l n) (ha : a < n) (hn : n ≤ 128) (i : Nat) (hi : i < n) : (∃ x, (distL n l a)[i]? = some x ∧ x = -1 ∧ ∀ k W, ¬ Wl l i k a W) ∨ ∃ W : Nat, (distL n l a)[i]? = some (W : Int) ∧ Dist l i a W := by
  have hlen := costL_length n (turnL l) a
  obtain ⟨c, hc⟩ := at_lt (l := costL n (turnL l) a) (k := i) (by omega)
  have hd : (costL n (turnL l) a).getD i (-1) = c := by rw [List.getD_eq_getElem?_getD, hc]; rfl
  have he : (distL n l a)[i]? = some (dist1 c) := by unfold distL; rw [List.getElem?_map, hc]; rfl
  rcases costL_spec hl.turn ha i with ⟨h1, h2⟩ | ⟨m, h1, h2⟩
  · rw [hd] at h1
    subst h1
    exact Or.inl ⟨_, he, rfl, fun k W hw => h2 _ _ ((hw.turn).wk 128)⟩
  · rw [hd] at h1
    subst h1
    have := (h2.dist hl.turn ha hn).1.turn
    rw [turn_turn] at this
    refine Or.inr ⟨m / 128, ?_, this⟩
    rw [he]
    unfold dist1
    rw [if_pos (Int.natCast_nonneg m)]
    rfl

/-! ### Components -/
/-- The edges in both directions. -/
def bothL (l : List Ed) : List Ed := l ++ turnL l
/-- Two nodes are connected. -/
def Cn (l : List Ed) (a b : Nat) : Prop := ∃ k W, Wl (bothL l) b k a W
theorem Cn.refl (l : List Ed) (a : Nat) : Cn l a a := ⟨0, 0, rfl, rfl⟩
theorem Cn.trans {l : List Ed} {a b c : Nat} (h : Cn l a b) (h' : Cn l b c) : Cn l a c := by
  obtain ⟨k, W, hk⟩ := h
  obtain ⟨k', W', hk'⟩ := h'
  exact ⟨_, _, hk.app hk'⟩
theorem mem_both {l : List Ed} {a b w : Nat} (h : (a, b, w) ∈ bothL l) : (b, a, w) ∈ bothL l := by
  unfold bothL at *
  rcases List.mem_append.1 h with h | h
  · exact List.mem_append.2 (Or.inr (mem_turn h))
  · have := mem_turn h
    rw [turn_turn] at this
    exact List.mem_append.2 (Or.inl this)
theorem Wl.back {l : List Ed} {b : Nat} : ∀ {k a W : Nat}, Wl (bothL l) b k a W → Wl (bothL l) a k b W
  | 0, _, _, ⟨ha, hW⟩ => ⟨ha.symm, hW⟩
  | k + 1, a, W, ⟨m, w, V, he, hw, hW⟩ => by
    rw [hW]
    exact (hw.back).snoc (mem_both he)
theorem Cn.symm {l : List Ed} {a b : Nat} (h : Cn l a b) : Cn l b a := by
  obtain ⟨k, W, hk⟩ := h
  exact ⟨k, W, hk.back⟩
theorem Cn.edge {l : List Ed} {a b w : Nat} (h : (a, b, w) ∈ l) : Cn l a b := ⟨1, w, b, w, 0, List.mem_append.2 (Or.inl h), ⟨rfl, rfl⟩, (Nat.zero_add _).symm⟩
theorem Inn.both {l : List Ed} {n : Nat} (h : Inn l n) : Inn (bothL l) n := by
  intro e he
  rcases List.mem_append.1 he with he | he
  · exact h e he
  · exact h.turn e he
theorem Cn.lt {l : List Ed} {n a b : Nat} (h : Inn l n) (hc : Cn l a b) (hb : b < n) : a < n := by
  obtain ⟨k, W, hk⟩ := hc
  cases k with
  | zero => exact hk.1 ▸ hb
  | succ k => obtain ⟨m, w, V, he, -, -⟩ := hk; exact (h.both _ he).1
/-- The first node that is connected with a. -/
def Fst (l : List Ed) (a f : Nat) : Prop := Cn l a f ∧ ∀ b, Cn l a b → f ≤ b
theorem Fst.uniq {l : List Ed} {a f g : Nat} (h : Fst l a f) (h' : Fst l a g) : f = g := by
  have := h.2 _ h'.1
  have := h'.2 _ h.1
  omega
theorem Fst.exists (l : List Ed) (a : Nat) : ∃ f, Fst l a f := by
  obtain ⟨m, hm, hl⟩ := least_of (p := fun b => Cn l a b) a (Cn.refl l a)
  exact ⟨m, hm, hl⟩
theorem Fst.of {l : List Ed} {a b f : Nat} (h : Fst l a f) (hc : Cn l b a) : Fst l b f := ⟨hc.trans h.1, fun x hx => h.2 x (hc.symm.trans hx)⟩
theorem Fst.same {l : List Ed} {a f : Nat} (h : Fst l a f) : Fst l f f := h.of h.1.symm
/-- A node is as many steps from its first one as there are nodes, or fewer. -/
theorem Fst.near {l : List Ed} {n a f : Nat} (hl : Inn l n) (ha : a < n) (h : Fst l a f) : ∃ k W, k < n ∧ Wl (bothL l) f k a W := by
  obtain ⟨k, W, hk⟩ := h.1
  have hf : f < n := (h.1.symm).lt hl ha
  obtain ⟨c, hc⟩ := Mn.exists (hk.wk 128)
  obtain ⟨k', hk'⟩ := hc.1
  have := least_edges hl.both hf hk' hc
  obtain ⟨W', hW', -⟩ := hk'.wl
  exact ⟨k', W', this, hW'⟩

/-! ### Rounds -/
/-- One edge: both ends get the smaller of their numbers. -/
def lab (f : List Int) (e : Ed) : List Int := if f.getD e.1 0 < f.getD e.2.1 0 then f.set e.2.1 (f.getD e.1 0) else f.set e.1 (f.getD e.2.1 0)
def labL (l : List Ed) (f : List Int) : List Int := l.foldl lab f
def labN (l : List Ed) : Nat → List Int → List Int
  | 0, f => f
  | k + 1, f => labN l k (labL l f)
def labS (n : Nat) : List Int := (List.range n).map Int.ofNat
def firstL (n : Nat) (l : List Ed) : List Int := labN l n (labS n)
theorem lab_length (f : List Int) (e : Ed) : (lab f e).length = f.length := by unfold lab; split <;> rw [List.length_set]
theorem labL_length : ∀ (l : List Ed) (f : List Int), (labL l f).length = f.length
  | [], _ => rfl
  | e :: l, f => by
    show (labL l (lab f e)).length = _
    rw [labL_length l, lab_length]
theorem labN_length (l : List Ed) : ∀ (k : Nat) (f : List Int), (labN l k f).length = f.length
  | 0, _ => rfl
  | k + 1, f => by
    show (labN l k (labL l f)).length = _
    rw [labN_length l k, labL_length]
theorem labS_length (n : Nat) : (labS n).length = n := by unfold labS; rw [List.length_map, List.length_range]
theorem firstL_length (n : Nat) (l : List Ed) : (firstL n l).length = n := by unfold firstL; rw [labN_length, labS_length]
/-- Each number is a node that is connected with its own. -/
def Lb (L : List Ed) (n : Nat) (f : List Int) : Prop := ∀ i, i < n → ∃ x : Nat, f.getD i 0 = (x : Int) ∧ Cn L i x
theorem lb_lab {L : List Ed} {n : Nat} {f : List Int} {e : Ed} (hl : Inn L n) (h : Lb L n f) (he : e ∈ L) : Lb L n (lab f e) := by
  obtain ⟨x, hx, cx⟩ := h e.1 (hl e he).1
  obtain ⟨y, hy, cy⟩ := h e.2.1 (hl e he).2
  have ce : Cn L e.1 e.2.1 := Cn.edge (w := e.2.2) he
  intro i hi
  unfold lab
  split
  · rw [getD_set]
    split
    · next h2 => obtain ⟨rfl, -⟩ := h2; exact ⟨x, hx, ce.symm.trans cx⟩
    · exact h i hi
  · rw [getD_set]
    split
    · next h2 => obtain ⟨rfl, -⟩ := h2; exact ⟨y, hy, ce.trans cy⟩
    · exact h i hi
theorem lb_labL {L : List Ed} {n : Nat} (hl : Inn L n) : ∀ {l : List Ed} {f : List Int}, Lb L n f → (∀ e ∈ l, e ∈ L) → Lb L n (labL l f)
  | [], _, h, _ => h
  | e :: l, f, h, hm => by
    show Lb L n (labL l (lab f e))
    exact lb_labL hl (lb_lab hl h (hm e (by simp))) fun x hx => hm x (List.mem_cons_of_mem _ hx)
theorem lb_labN {L : List Ed} {n : Nat} (hl : Inn L n) : ∀ {k : Nat} {f : List Int}, Lb L n f → Lb L n (labN L k f)
  | 0, _, h => h
  | k + 1, f, h => by
    show Lb L n (labN L k (labL L f))
    exact lb_labN hl (lb_labL hl h fun _ hx => hx)
theorem labS_at {n i : Nat} (h : i < n) : (labS n).getD i 0 = (i : Int) := by
  unfold labS
  rw [List.getD_eq_getElem?_getD, List.getElem?_map, List.getElem?_range h]
  rfl
theorem lb_start (L : List Ed) (n : Nat) : Lb L n (labS n) := fun i hi => ⟨i, labS_at hi, Cn.refl _ _⟩
/-- The number has come down to c. -/
def Dn (f : List Int) (i c : Nat) : Prop := f.getD i 0 ≤ (c : Int)
theorem dn_lab {f : List Int} {e : Ed} {i c : Nat} (h : Dn f i c) : Dn (lab f e) i c := by
  unfold Dn at *
  unfold lab
  split
  · rw [getD_set]
    split
    · next h2 h3 => obtain ⟨rfl, -⟩ := h3; omega
    · exact h
  · rw [getD_set]
    split
    · next h2 h3 => obtain ⟨rfl, -⟩ := h3; omega
    · exact h
theorem dn_labL {i c : Nat} : ∀ {l : List Ed} {f : List Int}, Dn f i c → Dn (labL l f) i c
  | [], _, h => h
  | e :: l, f, h => by
    show Dn (labL l (lab f e)) i c
    exact dn_labL (dn_lab h)
theorem dn_labN {L : List Ed} {i c : Nat} : ∀ {k : Nat} {f : List Int}, Dn f i c → Dn (labN L k f) i c
  | 0, _, h => h
  | k + 1, f, h => by
    show Dn (labN L k (labL L f)) i c
    exact dn_labN (dn_labL h)
theorem lab_hits {f : List Int} {a b w c : Nat} (ha : a < f.length) (hb : b < f.length) : (Dn f a c → Dn (lab f (a, b, w)) b c) ∧ (Dn f b c → Dn (lab f (a, b, w)) a c) := by
  unfold Dn lab
  simp only
  refine ⟨fun h => ?_, fun h => ?_⟩
  · split
    · rw [getD_set, if_pos ⟨rfl, hb⟩]; exact h
    · rw [getD_set]
      split
      · next h3 => obtain ⟨rfl, -⟩ := h3; omega
      · omega
  · split
    · rw [getD_set]
      split
      · next h3 => obtain ⟨rfl, -⟩ := h3; omega
      · omega
    · rw [getD_set, if_pos ⟨rfl, ha⟩]; exact h
theorem labL_hits {a b w c : Nat} : ∀ {l : List Ed} {f : List Int}, (a, b, w) ∈ l → a < f.length → b < f.length → (Dn f a c → Dn (labL l f) b c) ∧ (Dn f b c → Dn (labL l f) a c)
  | [], _, he, _, _ => by cases he
  | e :: l, f, he, ha, hb => by
    show (Dn f a c → Dn (labL l (lab f e)) b c) ∧ (Dn f b c → Dn (labL l (lab f e)) a c)
    rcases List.mem_cons.1 he with rfl | he
    · exact ⟨fun h => dn_labL ((lab_hits ha hb).1 h), fun h => dn_labL ((lab_hits ha hb).2 h)⟩
    · have ih := labL_hits (l := l) (f := lab f e) (c := c) he (by rw [lab_length]; exact ha) (by rw [lab_length]; exact hb)
      exact ⟨fun h => ih.1 (dn_lab h), fun h => ih.2 (dn_lab h)⟩
theorem labN_done {L : List Ed} {n c : Nat} (hl : Inn L n) : ∀ {k : Nat} {f : List Int}, f.length = n → Dn f c c → ∀ {j i W : Nat}, j ≤ k → Wl (bothL L) c j i W → Dn (labN L k f) i c := by
  have key : ∀ (k : Nat) (f : List Int), f.length = n → ∀ r, (∀ {j i W : Nat}, j ≤ r → Wl (bothL L) c j i W → Dn f i c) → ∀ {j i W : Nat}, j ≤ r + k → Wl (bothL L) c j i W → Dn (labN L k f) i c := by
    intro k
    induction k with
    | zero => intro f _ r h j i W hj hw; exact h hj hw
    | succ k ih =>
      intro f hf r h j i W hj hw
      refine ih (labL L f) (by rw [labL_length]; exact hf) (r + 1) ?_ (by omega) hw
      intro j i W hj hw
      rcases Nat.lt_or_ge r j with hr | hr
      · obtain rfl : j = r + 1 := by omega
        obtain ⟨m, w, V, he, hw', rfl⟩ := hw
        have hm := h (Nat.le_refl _) hw'
        rcases List.mem_append.1 he with he | he
        · have hh := hl _ he
          exact (labL_hits he (by rw [hf]; exact hh.1) (by rw [hf]; exact hh.2)).2 hm
        · have he' := mem_turn he
          rw [turn_turn] at he'
          have hh := hl _ he'
          exact (labL_hits he' (by rw [hf]; exact hh.1) (by rw [hf]; exact hh.2)).1 hm
      · exact dn_labL (h hr hw)
  intro k f hf h0 j i W hj hw
  refine key k f hf 0 ?_ (by omega) hw
  intro j i W hj hw
  obtain rfl : j = 0 := by omega
  obtain ⟨rfl, rfl⟩ := hw
  exact h0
/-- The rounds find the first nodes. -/
theorem firstL_spec {L : List Ed} {n i : Nat} (hl : Inn L n) (hi : i < n) : ∃ f : Nat, (firstL n L).getD i 0 = (f : Int) ∧ Fst L i f := by
  obtain ⟨x, hx, cx⟩ := lb_labN (k := n) hl (lb_start L n) i hi
  obtain ⟨f, hf⟩ := Fst.exists L i
  obtain ⟨k, W, hk, hw⟩ := hf.near hl hi
  have hfn : f < n := (hf.1.symm).lt hl hi
  have h1 : Dn (firstL n L) i f := labN_done hl (labS_length n) (by unfold Dn; rw [labS_at hfn]; exact Int.le_refl _) (Nat.le_of_lt hk) hw
  have h2 := hf.2 _ cx
  refine ⟨f, ?_, hf⟩
  unfold Dn at h1
  unfold firstL at h1 ⊢
  rw [hx] at h1 ⊢
  omega

/-! ### Their numbers -/
/-- How many of the nodes below k are the first ones of their components. -/
def rank (f : List Int) (k : Nat) : Nat := ((List.range k).filter fun j => decide (f.getD j 0 = (j : Int))).length
theorem rank_zero (f : List Int) : rank f 0 = 0 := rfl
theorem filter_one (p : Nat → Bool) (k : Nat) : ([k].filter p).length = if p k = true then 1 else 0 := by
  cases h : p k <;> simp [List.filter, h]
theorem rank_succ (f : List Int) (k : Nat) : rank f (k + 1) = rank f k + if f.getD k 0 = (k : Int) then 1 else 0 := by
  unfold rank
  rw [List.range_succ, List.filter_append, List.length_append]
  rw [filter_one]
  by_cases h : f.getD k 0 = (k : Int)
  · rw [if_pos (decide_eq_true h), if_pos h]
  · rw [if_neg (by rw [decide_eq_false h]; decide), if_neg h]
/-- The number of each node's component. -/
def compL (f : List Int) : List Int := (List.range f.length).map fun i => ((rank f (f.getD i 0).toNat : Nat) : Int)
theorem compL_length (f : List Int) : (compL f).length = f.length := by unfold compL; rw [List.length_map, List.length_range]
theorem compL_at {f : List Int} {i : Nat} (h : i < f.length) : (compL f)[i]? = some ((rank f (f.getD i 0).toNat : Nat) : Int) := by
  unfold compL
  rw [List.getElem?_map, List.getElem?_range h]
  rfl
end Go.Proofs.Ytibakhobgfiklaa
namespace Go.Proofs.Ytibakhobgfiklaa
open Go

/-! ### The first bad one of a list -/
section
variable {κ α : Type}
/-- The first bad one from here on, behind those with these keys. -/
def fbF (bad : List κ → α → Int) (key : α → κ) (seen : List κ) (k : Nat) : List α → Int × Int
  | [] => (0, 0)
  | x :: r => if bad seen x = 0 then fbF bad key (seen ++ [key x]) (k + 1) r else ((k : Int), bad seen x)
variable {bad : List κ → α → Int} {key : α → κ}
theorem key_take {l : List α} {k : Nat} {x : α} (h : l[k]? = some x) : (l.take (k + 1)).map key = (l.take k).map key ++ [key x] := by
  rw [take_at l k x h, List.map_append]
  rfl
theorem fb_next {l : List α} {k : Nat} {x : α} {q : Int × Int} (hr : q = fbF bad key ((l.take k).map key) k (l.drop k)) (h : l[k]? = some x) (hb : bad ((l.take k).map key) x = 0) : q = fbF bad key ((l.take (k + 1)).map key) (k + 1) (l.drop (k + 1)) := by
  rw [hr, drop_at l k x h, key_take h]
  conv => lhs; unfold fbF
  rw [if_pos hb]
theorem fb_stop {l : List α} {k : Nat} {x : α} {q : Int × Int} (hr : q = fbF bad key ((l.take k).map key) k (l.drop k)) (h : l[k]? = some x) {e : Int} (hb : bad ((l.take k).map key) x = e) (he : e ≠ 0) : q = ((k : Int), e) := by
  rw [hr, drop_at l k x h]
  unfold fbF
  rw [if_neg (by rw [hb]; exact he), hb]
theorem fb_done {l : List α} {k : Nat} {q : Int × Int} (hr : q = fbF bad key ((l.take k).map key) k (l.drop k)) (h : l.length ≤ k) : q = (0, 0) := by
  rw [hr, List.drop_of_length_le h]
  rfl
theorem keys_mem {l : List α} {c : κ} : c ∈ l.map key ↔ ∃ (j : Nat) (x : α), l[j]? = some x ∧ key x = c := by
  rw [List.mem_map]
  constructor
  · rintro ⟨x, hx, rfl⟩
    obtain ⟨j, hj⟩ := List.mem_iff_getElem?.1 hx
    exact ⟨j, x, hj, rfl⟩
  · rintro ⟨j, x, hx, rfl⟩
    exact ⟨x, List.mem_iff_getElem?.2 ⟨j, hx⟩, rfl⟩
theorem keys_take {l : List α} {c : κ} {k : Nat} : c ∈ (l.take k).map key ↔ ∃ (j : Nat) (x : α), j < k ∧ l[j]? = some x ∧ key x = c := by
  rw [keys_mem]
  constructor
  · rintro ⟨j, x, hx, h⟩
    rw [List.getElem?_take] at hx
    split at hx
    · next hj => exact ⟨j, x, hj, hx, h⟩
    · cases hx
  · rintro ⟨j, x, hj, hx, h⟩
    exact ⟨j, x, by rw [List.getElem?_take, if_pos hj]; exact hx, h⟩
theorem keys_hit {l : List α} {c : κ} {k j : Nat} {x : α} (hj : j < k) (hx : l[j]? = some x) (h : key x = c) : c ∈ (l.take k).map key := keys_take.2 ⟨j, x, hj, hx, h⟩
theorem keys_none {l : List α} {c : κ} {k : Nat} (h : ∀ (j : Nat) (x : α), j < k → l[j]? = some x → key x ≠ c) : c ∉ (l.take k).map key := fun hm => by
  obtain ⟨j, x, hj, hx, hc⟩ := keys_take.1 hm
  exact h j x hj hx hc
end

/-! ### The first with a property -/
section
variable {α : Type}
/-- The index of the first with the property from here on, or -1. -/
def fdF (p : α → Bool) (k : Nat) : List α → Int
  | [] => -1
  | x :: r => if p x then (k : Int) else fdF p (k + 1) r
/-- The index of the first with the property, or -1. -/
def fdT (p : α → Bool) (l : List α) : Int := fdF p 0 l
variable {p : α → Bool}
theorem fd_start (l : List α) : fdT p l = fdF p 0 (l.drop 0) := rfl
theorem fd_hit {q : Int} {l : List α} {k : Nat} {x : α} (hr : q = fdF p k (l.drop k)) (h : l[k]? = some x) (hp : p x = true) : q = (k : Int) := by
  rw [hr, drop_at l k x h]
  unfold fdF
  rw [if_pos hp]
theorem fd_miss {q : Int} {l : List α} {k : Nat} {x : α} (hr : q = fdF p k (l.drop k)) (h : l[k]? = some x) (hp : p x = false) : q = fdF p (k + 1) (l.drop (k + 1)) := by
  rw [hr, drop_at l k x h]
  conv => lhs; unfold fdF
  rw [if_neg (by rw [hp]; simp)]
theorem fd_end {q : Int} {l : List α} {k : Nat} (hr : q = fdF p k (l.drop k)) (h : l.length ≤ k) : q = -1 := by
  rw [hr, List.drop_of_length_le h]
  rfl
theorem fdF_range (p : α → Bool) : ∀ (l : List α) (k : Nat), fdF p k l = -1 ∨ ((k : Int) ≤ fdF p k l ∧ fdF p k l < ((k + l.length : Nat) : Int))
  | [], _ => .inl rfl
  | x :: r, k => by
    unfold fdF
    split
    · exact .inr ⟨Int.le_refl _, by simp; omega⟩
    · rcases fdF_range p r (k + 1) with h | ⟨h1, h2⟩
      · exact .inl h
      · exact .inr ⟨by omega, by simp only [List.length_cons]; omega⟩
theorem fd_range (p : α → Bool) (l : List α) : fdT p l = -1 ∨ (0 ≤ fdT p l ∧ fdT p l < (l.length : Int)) := by
  have := fdF_range p l 0
  rw [Nat.zero_add] at this
  exact this
theorem fdF_mem (p : α → Bool) : ∀ (l : List α) (k : Nat), fdF p k l ≠ -1 → ∃ (j : Nat) (x : α), l[j]? = some x ∧ p x = true ∧ fdF p k l = ((k + j : Nat) : Int)
  | [], _, h => absurd rfl h
  | y :: r, k, h => by
    unfold fdF at h ⊢
    by_cases hp : p y = true
    · rw [if_pos hp]
      exact ⟨0, y, rfl, hp, rfl⟩
    · rw [if_neg hp] at h ⊢
      obtain ⟨j, x, h1, h2, h3⟩ := fdF_mem p r (k + 1) h
      exact ⟨j + 1, x, h1, h2, by rw [h3]; congr 1; omega⟩
theorem fd_mem {p : α → Bool} {l : List α} (h : fdT p l ≠ -1) : ∃ (j : Nat) (x : α), l[j]? = some x ∧ p x = true ∧ fdT p l = (j : Int) := by
  obtain ⟨j, x, h1, h2, h3⟩ := fdF_mem p l 0 h
  exact ⟨j, x, h1, h2, by rw [Nat.zero_add] at h3; exact h3⟩

/-! ### The indices of all with a property -/
def ixF (p : α → Bool) (k : Nat) : List α → List Int
  | [] => []
  | x :: r => if p x then (k : Int) :: ixF p (k + 1) r else ixF p (k + 1) r
/-- The indices of those with the property, in order. -/
def ixs (p : α → Bool) (l : List α) : List Int := ixF p 0 l
theorem ixF_app (p : α → Bool) : ∀ (l : List α) (k : Nat) (x : α), ixF p k (l ++ [x]) = ixF p k l ++ if p x then [((k + l.length : Nat) : Int)] else []
  | [], k, x => by
    show ixF p k [x] = _
    simp only [ixF, List.length_nil, Nat.add_zero, List.nil_append]
  | y :: r, k, x => by
    rw [List.cons_append]
    have e : k + 1 + r.length = k + (y :: r).length := by rw [List.length_cons]; omega
    unfold ixF
    rw [ixF_app p r (k + 1) x, e]
    split <;> simp
theorem ix_hit {l : List α} {k : Nat} {x : α} (h : l[k]? = some x) (hp : p x = true) : ixs p (l.take (k + 1)) = ixs p (l.take k) ++ [(k : Int)] := by
  unfold ixs
  have hk := (List.getElem?_eq_some_iff.1 h).1
  rw [take_at l k x h, ixF_app, if_pos hp, List.length_take, Nat.min_eq_left (by omega), Nat.zero_add]
theorem ix_miss {l : List α} {k : Nat} {x : α} (h : l[k]? = some x) (hp : p x = false) : ixs p (l.take (k + 1)) = ixs p (l.take k) := by
  unfold ixs
  rw [take_at l k x h, ixF_app, if_neg (by rw [hp]; simp), List.append_nil]
theorem ixF_le (p : α → Bool) : ∀ (l : List α) (k : Nat), (ixF p k l).length ≤ l.length
  | [], _ => Nat.le_refl _
  | y :: r, k => by
    have := ixF_le p r (k + 1)
    unfold ixF
    split <;> simp only [List.length_cons] <;> omega
theorem ix_le (p : α → Bool) (l : List α) : (ixs p l).length ≤ l.length := ixF_le p l 0
/-- Whether the one at an index has the property. -/
def hasAt (p : α → Bool) (l : List α) (i : Int) : Bool := match l[i.toNat]? with | some x => p x | none => false
theorem ixF_part {p q : α → Bool} (hpq : ∀ x, p x = true → q x = true) (l : List α) : ∀ (r : List α) (k : Nat), l.drop k = r → ixF p k r = (ixF q k r).filter (hasAt p l)
  | [], _, _ => rfl
  | y :: r, k, h => by
    have hy : l[k]? = some y := by
      have h0 : (l.drop k)[0]? = some y := by rw [h]; rfl
      rw [List.getElem?_drop] at h0
      exact h0
    have hr : l.drop (k + 1) = r := by
      rw [drop_at l k y hy] at h
      exact (List.cons.inj h).2
    have ha : hasAt p l (k : Int) = p y := by unfold hasAt; rw [Int.toNat_natCast, hy]
    have ih := ixF_part hpq l r (k + 1) hr
    unfold ixF
    rw [ih]
    cases hp : p y with
    | true =>
      rw [if_pos rfl, if_pos (hpq y hp), List.filter_cons_of_pos (by rw [ha, hp])]
    | false =>
      rw [if_neg (by simp)]
      split
      · rw [List.filter_cons_of_neg (by rw [ha, hp]; simp)]
      · rfl
/-- The indices of a part are those of the whole at which the part's property holds. -/
theorem ix_part {p q : α → Bool} (hpq : ∀ x, p x = true → q x = true) (l : List α) : ixs p l = (ixs q l).filter (hasAt p l) := ixF_part hpq l l 0 rfl
end

/-! ### A list told apart into two -/
section
variable {α : Type}
/-- How many of the first so many have the property. -/
def numF (f : α → Bool) (l : List α) (a : Nat) : Nat := ((l.take a).filter f).length
theorem num_zero (f : α → Bool) (l : List α) : numF f l 0 = 0 := rfl
theorem num_yes {f : α → Bool} {l : List α} {a : Nat} {x : α} (h : l[a]? = some x) (hf : f x = true) : numF f l (a + 1) = numF f l a + 1 := by
  unfold numF
  rw [take_at l a x h, List.filter_append, List.filter_cons_of_pos hf, List.length_append]
  rfl
theorem num_no {f : α → Bool} {l : List α} {a : Nat} {x : α} (h : l[a]? = some x) (hf : f x = false) : numF f l (a + 1) = numF f l a := by
  unfold numF
  rw [take_at l a x h, List.filter_append, List.filter_cons_of_neg (by rw [hf]; simp), List.length_append]
  rfl
theorem num_le (f : α → Bool) (l : List α) (a : Nat) : numF f l a ≤ (l.filter f).length := by
  unfold numF
  conv => rhs; rw [← List.take_append_drop a l, List.filter_append, List.length_append]
  omega
theorem num_at {f : α → Bool} {l : List α} {a : Nat} {x : α} (h : l[a]? = some x) (hf : f x = true) : (l.filter f)[numF f l a]? = some x := by
  have e : l.filter f = (l.take a).filter f ++ x :: (l.drop (a + 1)).filter f := by
    conv => lhs; rw [← List.take_append_drop a l, drop_at l a x h, List.filter_append, List.filter_cons_of_pos hf]
  rw [e]
  unfold numF
  rw [List.getElem?_append_right (Nat.le_refl _), Nat.sub_self]
  rfl
theorem num_ne {f : α → Bool} {l : List α} {j : Nat} {x y : α} (h : (l.filter f)[j]? = some y) (hf : f x = false) : y ≠ x := by
  rintro rfl
  have := (List.mem_filter.1 (List.mem_of_getElem? h)).2
  rw [hf] at this
  cases this
theorem num_sum (f : α → Bool) : ∀ l : List α, (l.filter f).length + (l.filter fun x => !f x).length = l.length
  | [] => rfl
  | x :: r => by
    have := num_sum f r
    cases hf : f x <;> simp [hf] <;> omega
end
end Go.Proofs.Ytibakhobgfiklaa
namespace Go.Proofs.Ytibakhobgfiklaa
open Go

/-- A footpath: from, to, seconds, whether it is step-free. -/
abbrev Fp := Int × Int × Int × Bool

/-! ### The first footpath that is not valid -/
/-- What no two footpaths may have in common. -/
def kyP (x : Fp) : Int × Int × Bool := (x.1, x.2.1, x.2.2.2)
/-- The error of a footpath behind the earlier ones. -/
def badP (st : Int) (seen : List (Int × Int × Bool)) (x : Fp) : Int :=
  if ¬ (0 ≤ x.1 ∧ x.1 < st) ∨ ¬ (0 ≤ x.2.1 ∧ x.2.1 < st) ∨ x.1 = x.2.1 then 9 else if ¬ (1 ≤ x.2.2.1 ∧ x.2.2.1 ≤ 14400) then 2 else if kyP x ∈ seen then 6 else 0
section
variable {st : Int} {seen : List (Int × Int × Bool)} {x : Fp}
theorem badP_from (h : ¬ (0 ≤ x.1 ∧ x.1 < st)) : badP st seen x = 9 := by unfold badP; rw [if_pos (.inl h)]
theorem badP_to (h : ¬ (0 ≤ x.2.1 ∧ x.2.1 < st)) : badP st seen x = 9 := by unfold badP; rw [if_pos (.inr (.inl h))]
theorem badP_same (h : x.1 = x.2.1) : badP st seen x = 9 := by unfold badP; rw [if_pos (.inr (.inr h))]
theorem badP_range (h1 : 0 ≤ x.1 ∧ x.1 < st) (h2 : 0 ≤ x.2.1 ∧ x.2.1 < st) (h3 : x.1 ≠ x.2.1) (h : ¬ (1 ≤ x.2.2.1 ∧ x.2.2.1 ≤ 14400)) : badP st seen x = 2 := by
  unfold badP
  rw [if_neg (by omega), if_pos h]
theorem badP_twice (h1 : 0 ≤ x.1 ∧ x.1 < st) (h2 : 0 ≤ x.2.1 ∧ x.2.1 < st) (h3 : x.1 ≠ x.2.1) (h4 : 1 ≤ x.2.2.1 ∧ x.2.2.1 ≤ 14400) (h : kyP x ∈ seen) : badP st seen x = 6 := by
  unfold badP
  rw [if_neg (by omega), if_neg (by omega), if_pos h]
theorem badP_ok (h1 : 0 ≤ x.1 ∧ x.1 < st) (h2 : 0 ≤ x.2.1 ∧ x.2.1 < st) (h3 : x.1 ≠ x.2.1) (h4 : 1 ≤ x.2.2.1 ∧ x.2.2.1 ≤ 14400) (h : kyP x ∉ seen) : badP st seen x = 0 := by
  unfold badP
  rw [if_neg (by omega), if_neg (by omega), if_neg h]
theorem badP_good (h : badP st seen x = 0) : (0 ≤ x.1 ∧ x.1 < st) ∧ (0 ≤ x.2.1 ∧ x.2.1 < st) ∧ x.1 ≠ x.2.1 ∧ (1 ≤ x.2.2.1 ∧ x.2.2.1 ≤ 14400) ∧ kyP x ∉ seen := by
  unfold badP at h
  split at h
  · omega
  split at h
  · omega
  split at h
  · omega
  · next h1 h2 h3 => exact ⟨by omega, by omega, by omega, by omega, h3⟩
end
/-- The first bad one, whatever their number is; what Check answers. -/
def vldP (st : Int) (l : List Fp) : Int × Int := fbF (badP st) kyP [] 0 l
def chkP (st : Int) (l : List Fp) : Int × Int := if 512 < l.length then (0, 5) else vldP st l
theorem chkP_many {st : Int} {l : List Fp} (h : 512 < l.length) : chkP st l = (0, 5) := by unfold chkP; rw [if_pos h]
theorem chkP_few {st : Int} {l : List Fp} (h : ¬ 512 < l.length) : chkP st l = vldP st l := by unfold chkP; rw [if_neg h]
/-- Valid footpaths between n stops. -/
def OkP (n : Nat) (l : List Fp) : Prop := ∀ x ∈ l, (0 ≤ x.1 ∧ x.1 < (n : Int)) ∧ (0 ≤ x.2.1 ∧ x.2.1 < (n : Int)) ∧ x.1 ≠ x.2.1 ∧ 1 ≤ x.2.2.1 ∧ x.2.2.1 ≤ 14400
theorem fbP_all {st : Int} : ∀ (l : List Fp) (seen : List (Int × Int × Bool)) (k : Nat), (fbF (badP st) kyP seen k l).2 = 0 → ∀ x ∈ l, (0 ≤ x.1 ∧ x.1 < st) ∧ (0 ≤ x.2.1 ∧ x.2.1 < st) ∧ x.1 ≠ x.2.1 ∧ 1 ≤ x.2.2.1 ∧ x.2.2.1 ≤ 14400
  | [], _, _, _, x, hx => by cases hx
  | y :: r, seen, k, h, x, hx => by
    unfold fbF at h
    by_cases hb : badP st seen y = 0
    · rw [if_pos hb] at h
      rcases List.mem_cons.1 hx with rfl | hx
      · obtain ⟨h1, h2, h3, h4, -⟩ := badP_good hb
        exact ⟨h1, h2, h3, h4⟩
      · exact fbP_all r _ _ h x hx
    · rw [if_neg hb] at h
      exact absurd h hb
theorem vld_ok {st : Int} {l : List Fp} (h : (vldP st l).2 = 0) : OkP st.toNat l := by
  intro x hx
  obtain ⟨h1, h2, h3, h4⟩ := fbP_all l [] 0 h x hx
  exact ⟨⟨h1.1, by omega⟩, ⟨h2.1, by omega⟩, h3, h4⟩
theorem chk_ok {st : Int} {l : List Fp} (h : (chkP st l).2 = 0) : OkP st.toNat l := by
  by_cases hl : 512 < l.length
  · rw [chkP_many hl] at h; cases h
  · rw [chkP_few hl] at h; exact vld_ok h
theorem fbP_ok {st : Int} : ∀ (l : List Fp) (seen : List (Int × Int × Bool)) (k : Nat), (∀ x ∈ l, (0 ≤ x.1 ∧ x.1 < st) ∧ (0 ≤ x.2.1 ∧ x.2.1 < st) ∧ x.1 ≠ x.2.1 ∧ 1 ≤ x.2.2.1 ∧ x.2.2.1 ≤ 14400) → (l.map kyP).Nodup → (∀ x ∈ l, kyP x ∉ seen) → fbF (badP st) kyP seen k l = (0, 0)
  | [], _, _, _, _, _ => rfl
  | y :: r, seen, k, h, hn, hs => by
    obtain ⟨h1, h2, h3, h4⟩ := h y List.mem_cons_self
    rw [List.map_cons, List.nodup_cons] at hn
    unfold fbF
    rw [if_pos (badP_ok h1 h2 h3 h4 (hs y List.mem_cons_self))]
    refine fbP_ok r _ _ (fun x hx => h x (List.mem_cons_of_mem _ hx)) hn.2 (fun x hx => ?_)
    rw [List.mem_append, not_or]
    refine ⟨hs x (List.mem_cons_of_mem _ hx), fun hm => hn.1 ?_⟩
    rw [← List.mem_singleton.1 hm]
    exact List.mem_map.2 ⟨x, hx, rfl⟩
theorem vld_of {n : Nat} {l : List Fp} (h : OkP n l) (hn : (l.map kyP).Nodup) : vldP (n : Int) l = (0, 0) := fbP_ok l [] 0 h hn (fun _ _ hm => by cases hm)

/-! ### The footpaths as edges -/
/-- Whether a footpath counts. -/
def useP (sf : Bool) (x : Fp) : Bool := x.2.2.2 || !sf
def edP (x : Fp) : Ed := (x.1.toNat, x.2.1.toNat, x.2.2.1.toNat)
/-- The edges of those that count. -/
def edF (sf : Bool) (l : List Fp) : List Ed := (l.filter (useP sf)).map edP
theorem ed_mem {sf : Bool} {l : List Fp} {e : Ed} : e ∈ edF sf l ↔ ∃ x ∈ l, useP sf x = true ∧ edP x = e := by
  unfold edF
  rw [List.mem_map]
  constructor
  · rintro ⟨x, hx, rfl⟩
    obtain ⟨h1, h2⟩ := List.mem_filter.1 hx
    exact ⟨x, h1, h2, rfl⟩
  · rintro ⟨x, hx, h1, rfl⟩
    exact ⟨x, List.mem_filter.2 ⟨hx, h1⟩, rfl⟩
theorem ed_yes {sf : Bool} {l : List Fp} {k : Nat} {x : Fp} (h : l[k]? = some x) (hu : useP sf x = true) : edF sf (l.take (k + 1)) = edF sf (l.take k) ++ [edP x] := by
  unfold edF
  rw [take_at l k x h, List.filter_append, List.filter_cons_of_pos hu, List.map_append]
  rfl
theorem ed_no {sf : Bool} {l : List Fp} {k : Nat} {x : Fp} (h : l[k]? = some x) (hu : useP sf x = false) : edF sf (l.take (k + 1)) = edF sf (l.take k) := by
  unfold edF
  rw [take_at l k x h, List.filter_append, List.filter_cons_of_neg (by rw [hu]; simp)]
  simp
theorem ed_inn {sf : Bool} {n : Nat} {l : List Fp} (h : OkP n l) : Inn (edF sf l) n := by
  intro e he
  obtain ⟨x, hx, -, rfl⟩ := ed_mem.1 he
  have := h x hx
  unfold edP
  constructor
  · show x.1.toNat < n
    omega
  · show x.2.1.toNat < n
    omega
theorem ed_pos {sf : Bool} {n : Nat} {l : List Fp} (h : OkP n l) {a b w : Nat} (he : (a, b, w) ∈ edF sf l) : 1 ≤ w ∧ w ≤ 14400 ∧ a ≠ b := by
  obtain ⟨x, hx, -, e⟩ := ed_mem.1 he
  have := h x hx
  unfold edP at e
  have e1 := congrArg (fun z : Ed => z.1) e
  have e2 := congrArg (fun z : Ed => z.2.1) e
  have e3 := congrArg (fun z : Ed => z.2.2) e
  simp only at e1 e2 e3
  omega
theorem ed_free {l : List Fp} {e : Ed} (h : e ∈ edF true l) : e ∈ edF false l := by
  obtain ⟨x, hx, -, rfl⟩ := ed_mem.1 h
  exact ed_mem.2 ⟨x, hx, by unfold useP; simp, rfl⟩
theorem wl_mono {l m : List Ed} (h : ∀ e ∈ l, e ∈ m) {b : Nat} : ∀ {k a W : Nat}, Wl l b k a W → Wl m b k a W
  | 0, _, _, hw => hw
  | _ + 1, _, _, ⟨x, w, V, he, hw, hW⟩ => ⟨x, w, V, h _ he, wl_mono h hw, hW⟩
/-- Walks by edges that are walks themselves. -/
theorem wl_sub {l m : List Ed} (h : ∀ a b w, (a, b, w) ∈ m → ∃ k, Wl l b (k + 1) a w) {b : Nat} : ∀ {k a W : Nat}, Wl m b k a W → ∃ k', Wl l b k' a W
  | 0, _, _, hw => ⟨0, hw⟩
  | _ + 1, _, _, ⟨x, w, V, he, hw, hW⟩ => by
    obtain ⟨k1, h1⟩ := h _ _ _ he
    obtain ⟨k2, h2⟩ := wl_sub h hw
    refine ⟨k1 + 1 + k2, ?_⟩
    rw [hW, Nat.add_comm V w]
    exact h1.app h2
theorem dist_pos {sf : Bool} {n : Nat} {l : List Fp} (h : OkP n l) {i j W : Nat} (hne : i ≠ j) (hd : Dist (edF sf l) j i W) : 1 ≤ W := by
  obtain ⟨k, hk⟩ := hd.1
  cases k with
  | zero => exact absurd hk.1 hne
  | succ k =>
    obtain ⟨x, w, V, he, -, hW⟩ := hk
    have := (ed_pos h he).1
    omega

/-! ### Times between all stops -/
/-- The times of shortest walks between different stops, of at most MaxWalk seconds. -/
def TmS (E : List Ed) (n : Nat) (t : Nat → Nat → Option Nat) : Prop := ∀ i j, i < n → j < n → i ≠ j → ∀ W, t i j = some W ↔ Dist E j i W ∧ W ≤ 14400
def tmE (n : Nat) (E : List Ed) (i j : Nat) : Option Nat :=
  match (distL n E i)[j]? with
  | some c => if 0 ≤ c ∧ c ≤ 14400 then some c.toNat else none
  | none => none
theorem tm_spec {E : List Ed} {n : Nat} (hE : Inn E n) (hn : n ≤ 128) : TmS E n (tmE n E) := by
  intro i j hi hj _ W
  unfold tmE
  rcases distL_spec hE hi hn j hj with ⟨x, hx, rfl, hno⟩ | ⟨V, hV, hd⟩
  · rw [hx]
    show (if (0 : Int) ≤ -1 ∧ _ then _ else none) = some W ↔ _
    rw [if_neg (by omega)]
    constructor
    · intro h; cases h
    · rintro ⟨hd, -⟩
      obtain ⟨k, hk⟩ := hd.1
      exact absurd hk (hno k W)
  · rw [hV]
    show (if 0 ≤ (V : Int) ∧ (V : Int) ≤ 14400 then some (V : Int).toNat else none) = some W ↔ _
    by_cases hle : V ≤ 14400
    · rw [if_pos (by omega), Int.toNat_natCast]
      constructor
      · intro h
        rw [← Option.some.inj h]
        exact ⟨hd, hle⟩
      · rintro ⟨h, -⟩
        rw [hd.uniq h]
    · rw [if_neg (by omega)]
      constructor
      · intro h; cases h
      · rintro ⟨h, h2⟩
        have := hd.uniq h
        omega
theorem tm_uniq {E : List Ed} {n : Nat} {t t' : Nat → Nat → Option Nat} (h : TmS E n t) (h' : TmS E n t') {i j : Nat} (hi : i < n) (hj : j < n) (hne : i ≠ j) : t i j = t' i j := by
  cases e : t i j with
  | none =>
    cases e' : t' i j with
    | none => rfl
    | some W =>
      have := (h i j hi hj hne W).2 ((h' i j hi hj hne W).1 e')
      rw [e] at this
      cases this
  | some W => exact ((h' i j hi hj hne W).2 ((h i j hi hj hne W).1 e)).symm
/-- What a matrix of lengths tells of a time. -/
theorem fw_time {E : List Ed} {n : Nat} {t : Nat → Nat → Option Nat} {m : List (List Int)} (ht : TmS E n t) (hE : Inn E n) (h : FwS E n n noP m) {i j : Nat} (hi : i < n) (hj : j < n) (hne : i ≠ j) : (t i j = none ∧ 14400 < mg m i j) ∨ ∃ W : Nat, t i j = some W ∧ mg m i j = (W : Int) ∧ W ≤ 14400 := by
  rcases h.dist hE hi hj hne with ⟨e, hf⟩ | ⟨W, e, hd⟩
  · refine .inl ⟨?_, by rw [e]; decide⟩
    cases e' : t i j with
    | none => rfl
    | some W =>
      obtain ⟨h1, h2⟩ := (ht i j hi hj hne W).1 e'
      have := hf W h1
      unfold farN at this
      omega
  · by_cases hle : W ≤ 14400
    · exact .inr ⟨W, (ht i j hi hj hne W).2 ⟨hd, hle⟩, e, hle⟩
    · refine .inl ⟨?_, by rw [e]; omega⟩
      cases e' : t i j with
      | none => rfl
      | some V =>
        obtain ⟨h1, h2⟩ := (ht i j hi hj hne V).1 e'
        have := hd.uniq h1
        omega

/-! ### The closure -/
section
variable (ta tf : Nat → Nat → Option Nat)
/-- The entries of a pair. -/
def entC (i j : Nat) : List Fp :=
  match ta i j with
  | none => []
  | some a => ((i : Int), (j : Int), (a : Int), decide (tf i j = some a)) :: (match tf i j with | some f => if a < f then [((i : Int), (j : Int), (f : Int), true)] else [] | none => [])
/-- The entries of a stop, of its pairs with the first so many; those of the first so many stops. -/
def rowC (i j : Nat) : List Fp := (List.range j).flatMap fun b => if i = b then [] else entC ta tf i b
def cloK (n i : Nat) : List Fp := (List.range i).flatMap fun a => rowC ta tf a n
/-- The closure. -/
def cloC (n : Nat) : List Fp := cloK ta tf n n
end
section
variable {ta tf : Nat → Nat → Option Nat} {n i j : Nat}
theorem row_same (i : Nat) : rowC ta tf i (i + 1) = rowC ta tf i i := by
  unfold rowC
  rw [List.range_succ, List.flatMap_append]
  simp
theorem row_next (h : i ≠ j) : rowC ta tf i (j + 1) = rowC ta tf i j ++ entC ta tf i j := by
  unfold rowC
  rw [List.range_succ, List.flatMap_append]
  simp [h]
theorem clo_next (n i : Nat) : cloK ta tf n (i + 1) = cloK ta tf n i ++ rowC ta tf i n := by
  unfold cloK
  rw [List.range_succ, List.flatMap_append]
  simp
theorem ent_none (h : ta i j = none) : entC ta tf i j = [] := by unfold entC; rw [h]
theorem ent_one {a : Nat} (h : ta i j = some a) (h2 : ∀ f, tf i j = some f → ¬ a < f) : entC ta tf i j = [((i : Int), (j : Int), (a : Int), decide (tf i j = some a))] := by
  unfold entC
  rw [h]
  cases e : tf i j with
  | none => rfl
  | some f =>
    show _ :: (if a < f then _ else []) = _
    rw [if_neg (h2 f e)]
theorem ent_two {a f : Nat} (h : ta i j = some a) (h2 : tf i j = some f) (h3 : a < f) : entC ta tf i j = [((i : Int), (j : Int), (a : Int), false), ((i : Int), (j : Int), (f : Int), true)] := by
  unfold entC
  rw [h, h2]
  show ((i : Int), (j : Int), (a : Int), decide (some f = some a)) :: (if a < f then _ else []) = _
  rw [if_pos h3, decide_eq_false (by intro e; have := Option.some.inj e; omega)]
theorem ent_mem {x : Fp} (h : x ∈ entC ta tf i j) : x.1 = (i : Int) ∧ x.2.1 = (j : Int) ∧ ((∃ a, ta i j = some a ∧ x = ((i : Int), (j : Int), (a : Int), decide (tf i j = some a))) ∨ ∃ a f, ta i j = some a ∧ tf i j = some f ∧ a < f ∧ x = ((i : Int), (j : Int), (f : Int), true)) := by
  unfold entC at h
  cases e : ta i j with
  | none => rw [e] at h; cases h
  | some a =>
    rw [e] at h
    rcases List.mem_cons.1 h with h | h
    · exact ⟨by rw [h], by rw [h], .inl ⟨a, rfl, h⟩⟩
    · cases e2 : tf i j with
      | none => rw [e2] at h; cases h
      | some f =>
        rw [e2] at h
        simp only at h
        split at h
        · next hlt =>
          have h := List.mem_singleton.1 h
          exact ⟨by rw [h], by rw [h], .inr ⟨a, f, rfl, rfl, hlt, h⟩⟩
        · cases h
theorem row_mem {x : Fp} : x ∈ rowC ta tf i n ↔ ∃ j, j < n ∧ i ≠ j ∧ x ∈ entC ta tf i j := by
  unfold rowC
  rw [List.mem_flatMap]
  constructor
  · rintro ⟨j, hj, hx⟩
    split at hx
    · cases hx
    · next hne => exact ⟨j, List.mem_range.1 hj, hne, hx⟩
  · rintro ⟨j, hj, hne, hx⟩
    exact ⟨j, List.mem_range.2 hj, by rw [if_neg hne]; exact hx⟩
theorem clo_mem {x : Fp} : x ∈ cloC ta tf n ↔ ∃ i j, i < n ∧ j < n ∧ i ≠ j ∧ x ∈ entC ta tf i j := by
  unfold cloC cloK
  rw [List.mem_flatMap]
  constructor
  · rintro ⟨i, hi, hx⟩
    obtain ⟨j, hj, hne, hx⟩ := row_mem.1 hx
    exact ⟨i, j, List.mem_range.1 hi, hj, hne, hx⟩
  · rintro ⟨i, j, hi, hj, hne, hx⟩
    exact ⟨i, List.mem_range.2 hi, row_mem.2 ⟨j, hj, hne, hx⟩⟩
theorem ent_cong {ta' tf' : Nat → Nat → Option Nat} (h1 : ta i j = ta' i j) (h2 : tf i j = tf' i j) : entC ta tf i j = entC ta' tf' i j := by unfold entC; rw [h1, h2]
theorem clo_cong {ta' tf' : Nat → Nat → Option Nat} (h : ∀ i j, i < n → j < n → i ≠ j → ta i j = ta' i j ∧ tf i j = tf' i j) : cloC ta tf n = cloC ta' tf' n := by
  unfold cloC cloK
  have cong : ∀ (ls : List Nat) (f g : Nat → List Fp), (∀ a ∈ ls, f a = g a) → ls.flatMap f = ls.flatMap g := by
    intro ls f g hfg
    induction ls with
    | nil => rfl
    | cons a r ih => rw [List.flatMap_cons, List.flatMap_cons, hfg a List.mem_cons_self, ih (fun b hb => hfg b (List.mem_cons_of_mem _ hb))]
  refine cong _ _ _ (fun a ha => ?_)
  unfold rowC
  refine cong _ _ _ (fun b hb => ?_)
  by_cases hab : a = b
  · rw [if_pos hab, if_pos hab]
  · rw [if_neg hab, if_neg hab]
    obtain ⟨e1, e2⟩ := h a b (List.mem_range.1 ha) (List.mem_range.1 hb) hab
    exact ent_cong e1 e2

/-! ### The closure is closed -/
section
variable {l : List Fp}
theorem free_ge (ha : TmS (edF false l) n ta) (hf : TmS (edF true l) n tf) (hi : i < n) (hj : j < n) (hne : i ≠ j) {f : Nat} (h : tf i j = some f) : ∃ a, ta i j = some a ∧ a ≤ f := by
  obtain ⟨h1, h2⟩ := (hf i j hi hj hne f).1 h
  obtain ⟨k, hk⟩ := h1.1
  have hw := wl_mono (fun e he => ed_free he) hk
  obtain ⟨a, hd⟩ := Dist.exists hw
  have := hd.2 k f hw
  exact ⟨a, (ha i j hi hj hne a).2 ⟨hd, by omega⟩, this⟩
theorem clo_ok (hl : OkP n l) (ha : TmS (edF false l) n ta) (hf : TmS (edF true l) n tf) : OkP n (cloC ta tf n) := by
  intro x hx
  obtain ⟨i, j, hi, hj, hne, hx⟩ := clo_mem.1 hx
  obtain ⟨e1, e2, h⟩ := ent_mem hx
  rw [e1, e2]
  refine ⟨by omega, by omega, by omega, ?_⟩
  rcases h with ⟨a, h1, rfl⟩ | ⟨a, f, -, h1, -, rfl⟩
  · obtain ⟨hd, hw⟩ := (ha i j hi hj hne a).1 h1
    have := dist_pos hl hne hd
    simp only
    omega
  · obtain ⟨hd, hw⟩ := (hf i j hi hj hne f).1 h1
    have := dist_pos hl hne hd
    simp only
    omega
theorem clo_edge_all (hi : i < n) (hj : j < n) (hne : i ≠ j) {a : Nat} (h : ta i j = some a) : (i, j, a) ∈ edF false (cloC ta tf n) := by
  refine ed_mem.2 ⟨((i : Int), (j : Int), (a : Int), decide (tf i j = some a)), clo_mem.2 ⟨i, j, hi, hj, hne, ?_⟩, by unfold useP; simp, by unfold edP; simp⟩
  unfold entC
  rw [h]
  exact List.mem_cons_self
theorem clo_edge_free (ha : TmS (edF false l) n ta) (hf : TmS (edF true l) n tf) (hi : i < n) (hj : j < n) (hne : i ≠ j) {f : Nat} (h : tf i j = some f) : (i, j, f) ∈ edF true (cloC ta tf n) := by
  obtain ⟨a, h1, h2⟩ := free_ge ha hf hi hj hne h
  by_cases he : a = f
  · subst he
    refine ed_mem.2 ⟨((i : Int), (j : Int), (a : Int), true), clo_mem.2 ⟨i, j, hi, hj, hne, ?_⟩, rfl, by unfold edP; simp⟩
    unfold entC
    rw [h1, h]
    simp
  · refine ed_mem.2 ⟨((i : Int), (j : Int), (f : Int), true), clo_mem.2 ⟨i, j, hi, hj, hne, ?_⟩, rfl, by unfold edP; simp⟩
    rw [ent_two h1 h (by omega)]
    simp
theorem clo_walk (ha : TmS (edF false l) n ta) (hf : TmS (edF true l) n tf) {sf : Bool} {a b w : Nat} (he : (a, b, w) ∈ edF sf (cloC ta tf n)) : ∃ k, Wl (edF sf l) b (k + 1) a w := by
  obtain ⟨x, hx, hu, e⟩ := ed_mem.1 he
  obtain ⟨i, j, hi, hj, hne, hx⟩ := clo_mem.1 hx
  have pos : ∀ {E : List Ed} {W : Nat}, Dist E j i W → ∃ k, Wl E j (k + 1) i W := by
    intro E W hd
    obtain ⟨k, hk⟩ := hd.1
    cases k with
    | zero => exact absurd hk.1 hne
    | succ k => exact ⟨k, hk⟩
  obtain ⟨-, -, h⟩ := ent_mem hx
  rcases h with ⟨c, h1, rfl⟩ | ⟨c, f, -, h1, -, rfl⟩
  · unfold edP at e
    simp at e
    obtain ⟨rfl, rfl, rfl⟩ := e
    cases sf with
    | false => exact pos ((ha i j hi hj hne c).1 h1).1
    | true =>
      unfold useP at hu
      simp at hu
      exact pos ((hf i j hi hj hne c).1 hu).1
  · unfold edP at e
    simp at e
    obtain ⟨rfl, rfl, rfl⟩ := e
    have h2 := pos ((hf i j hi hj hne f).1 h1).1
    cases sf with
    | false =>
      obtain ⟨k, hk⟩ := h2
      exact ⟨k, wl_mono (fun e he => ed_free he) hk⟩
    | true => exact h2
/-- A closure's shortest times are those of its footpaths. -/
theorem clo_same (ha : TmS (edF false l) n ta) (hf : TmS (edF true l) n tf) {sf : Bool} {t : Nat → Nat → Option Nat} (ht : TmS (edF sf l) n t) (hd : ∀ i j, i < n → j < n → i ≠ j → ∀ W, t i j = some W → (i, j, W) ∈ edF sf (cloC ta tf n)) : TmS (edF sf (cloC ta tf n)) n t := by
  intro i j hi hj hne W
  have sub : ∀ {k V : Nat}, Wl (edF sf (cloC ta tf n)) j k i V → ∃ k', Wl (edF sf l) j k' i V := fun hw => wl_sub (fun a b w he => clo_walk ha hf he) hw
  constructor
  · intro h
    obtain ⟨h1, h2⟩ := (ht i j hi hj hne W).1 h
    refine ⟨⟨⟨1, j, W, 0, hd i j hi hj hne W h, ⟨rfl, rfl⟩, (Nat.zero_add _).symm⟩, fun k V hv => ?_⟩, h2⟩
    obtain ⟨k', hk'⟩ := sub hv
    exact h1.2 k' V hk'
  · rintro ⟨h1, h2⟩
    obtain ⟨k, hk⟩ := h1.1
    obtain ⟨k', hk'⟩ := sub hk
    obtain ⟨W0, hd0⟩ := Dist.exists hk'
    have hle := hd0.2 _ _ hk'
    have h3 := (ht i j hi hj hne W0).2 ⟨hd0, by omega⟩
    have := Dist.edge (hd i j hi hj hne W0 h3) h1
    obtain rfl : W = W0 := by omega
    exact h3
theorem clo_times (ha : TmS (edF false l) n ta) (hf : TmS (edF true l) n tf) : TmS (edF false (cloC ta tf n)) n ta ∧ TmS (edF true (cloC ta tf n)) n tf :=
  ⟨clo_same ha hf ha (fun _ _ hi hj hne _ h => clo_edge_all hi hj hne h), clo_same ha hf hf (fun _ _ hi hj hne _ h => clo_edge_free ha hf hi hj hne h)⟩
/-- Closing twice changes nothing. -/
theorem clo_twice (ha : TmS (edF false l) n ta) (hf : TmS (edF true l) n tf) {ta' tf' : Nat → Nat → Option Nat} (ha' : TmS (edF false (cloC ta tf n)) n ta') (hf' : TmS (edF true (cloC ta tf n)) n tf') : cloC ta' tf' n = cloC ta tf n := by
  obtain ⟨h1, h2⟩ := clo_times ha hf
  exact clo_cong (fun i j hi hj hne => ⟨tm_uniq ha' h1 hi hj hne, tm_uniq hf' h2 hi hj hne⟩)
theorem ent_keys (i j : Nat) : ((entC ta tf i j).map kyP).Nodup := by
  unfold entC
  cases e : ta i j with
  | none => exact List.nodup_nil
  | some a =>
    cases e2 : tf i j with
    | none => simp
    | some f =>
      simp only
      split
      · next hlt =>
        have hne : ¬ f = a := by omega
        simp [kyP, hne]
      · simp
theorem flat_nodup {α β : Type} (f : α → List β) (g : β → α) : ∀ ls : List α, ls.Nodup → (∀ a ∈ ls, (f a).Nodup ∧ ∀ x ∈ f a, g x = a) → (ls.flatMap f).Nodup
  | [], _, _ => List.nodup_nil
  | a :: r, hn, h => by
    rw [List.flatMap_cons, List.nodup_append]
    obtain ⟨h1, h2⟩ := List.nodup_cons.1 hn
    refine ⟨(h a List.mem_cons_self).1, flat_nodup f g r h2 (fun b hb => h b (List.mem_cons_of_mem _ hb)), fun x hx y hy e => ?_⟩
    subst e
    obtain ⟨b, hb, hxb⟩ := List.mem_flatMap.1 hy
    have e1 := (h a List.mem_cons_self).2 x hx
    have e2 := (h b (List.mem_cons_of_mem _ hb)).2 x hxb
    rw [e1] at e2
    exact h1 (e2 ▸ hb)
theorem clo_keys (ta tf : Nat → Nat → Option Nat) (n : Nat) : ((cloC ta tf n).map kyP).Nodup := by
  unfold cloC cloK
  rw [List.map_flatMap]
  refine flat_nodup (fun a => (rowC ta tf a n).map kyP) (fun z : Int × Int × Bool => z.1.toNat) _ List.nodup_range (fun a _ => ⟨?_, fun z hz => ?_⟩)
  · unfold rowC
    rw [List.map_flatMap]
    refine flat_nodup (fun b => (if a = b then [] else entC ta tf a b).map kyP) (fun z : Int × Int × Bool => z.2.1.toNat) _ List.nodup_range (fun b _ => ⟨?_, fun z hz => ?_⟩)
    · split
      · exact List.nodup_nil
      · exact ent_keys a b
    · obtain ⟨x, hx, rfl⟩ := List.mem_map.1 hz
      split at hx
      · cases hx
      · show x.2.1.toNat = b
        rw [(ent_mem hx).2.1, Int.toNat_natCast]
  · obtain ⟨x, hx, rfl⟩ := List.mem_map.1 hz
    obtain ⟨j, -, -, hx⟩ := row_mem.1 hx
    show x.1.toNat = a
    rw [(ent_mem hx).1, Int.toNat_natCast]
/-- The closure has no error of Check but for its number. -/
theorem clo_valid (hl : OkP n l) (ha : TmS (edF false l) n ta) (hf : TmS (edF true l) n tf) : vldP (n : Int) (cloC ta tf n) = (0, 0) := vld_of (clo_ok hl ha hf) (clo_keys ta tf n)
end
end
end Go.Proofs.Ytibakhobgfiklaa
namespace Go.Proofs.Ytibakhobgfiklaa
open Go

/-! ### The smallest time -/
/-- Whether a footpath leads from the one stop to the other and counts. -/
def isP (a b : Int) (sf : Bool) (x : Fp) : Bool := decide (x.1 = a) && decide (x.2.1 = b) && useP sf x
theorem isP_iff {a b : Int} {sf : Bool} {x : Fp} : isP a b sf x = true ↔ x.1 = a ∧ x.2.1 = b ∧ useP sf x = true := by
  unfold isP
  rw [Bool.and_eq_true, Bool.and_eq_true, decide_eq_true_iff, decide_eq_true_iff, and_assoc]
theorem isP_from {a b : Int} {sf : Bool} {x : Fp} (h : x.1 ≠ a) : isP a b sf x = false := Bool.eq_false_iff.2 fun e => h (isP_iff.1 e).1
theorem isP_to {a b : Int} {sf : Bool} {x : Fp} (h : x.2.1 ≠ b) : isP a b sf x = false := Bool.eq_false_iff.2 fun e => h (isP_iff.1 e).2.1
theorem isP_use {a b : Int} {sf : Bool} {x : Fp} (h : useP sf x = false) : isP a b sf x = false := Bool.eq_false_iff.2 fun e => by rw [(isP_iff.1 e).2.2] at h; cases h
/-- The smallest time so far behind one footpath more. -/
def tiS (a b : Int) (sf : Bool) (q : Option Int) (x : Fp) : Option Int :=
  if isP a b sf x then (match q with | none => some x.2.2.1 | some n => if x.2.2.1 < n then some x.2.2.1 else some n) else q
/-- The smallest time, if there is one. -/
def tiF (l : List Fp) (a b : Int) (sf : Bool) : Option Int := l.foldl (tiS a b sf) none
section
variable {a b : Int} {sf : Bool} {l : List Fp} {k : Nat} {x : Fp} {q : Option Int}
theorem ti_next (h : l[k]? = some x) : tiF (l.take (k + 1)) a b sf = tiS a b sf (tiF (l.take k) a b sf) x := by
  unfold tiF
  rw [take_at l k x h, List.foldl_append]
  rfl
theorem tiS_no (h : isP a b sf x = false) : tiS a b sf q x = q := by unfold tiS; rw [if_neg (by rw [h]; simp)]
theorem tiS_first (h : isP a b sf x = true) : tiS a b sf none x = some x.2.2.1 := by unfold tiS; rw [if_pos h]
theorem tiS_less {n : Int} (h : isP a b sf x = true) (hn : x.2.2.1 < n) : tiS a b sf (some n) x = some x.2.2.1 := by
  unfold tiS
  rw [if_pos h]
  exact if_pos hn
theorem tiS_more {n : Int} (h : isP a b sf x = true) (hn : ¬ x.2.2.1 < n) : tiS a b sf (some n) x = some n := by
  unfold tiS
  rw [if_pos h]
  exact if_neg hn
end
theorem ti_spec (a b : Int) (sf : Bool) (l : List Fp) : (tiF l a b sf = none ∧ ∀ x ∈ l, isP a b sf x = false) ∨ ∃ y ∈ l, isP a b sf y = true ∧ tiF l a b sf = some y.2.2.1 ∧ ∀ x ∈ l, isP a b sf x = true → y.2.2.1 ≤ x.2.2.1 := by
  have key : ∀ k, k ≤ l.length → (tiF (l.take k) a b sf = none ∧ ∀ x ∈ l.take k, isP a b sf x = false) ∨ ∃ y ∈ l.take k, isP a b sf y = true ∧ tiF (l.take k) a b sf = some y.2.2.1 ∧ ∀ x ∈ l.take k, isP a b sf x = true → y.2.2.1 ≤ x.2.2.1 := by
    intro k
    induction k with
    | zero => intro _; exact .inl ⟨rfl, fun x hx => by simp at hx⟩
    | succ k ih =>
      intro hk
      obtain ⟨x, hx⟩ := at_lt (l := l) (k := k) (by omega)
      rw [ti_next hx, take_at l k x hx]
      rcases ih (by omega) with ⟨h1, h2⟩ | ⟨y, h1, h2, h3, h4⟩
      · rw [h1]
        cases hp : isP a b sf x with
        | false =>
          refine .inl ⟨tiS_no hp, fun z hz => ?_⟩
          rcases List.mem_append.1 hz with hz | hz
          · exact h2 z hz
          · rw [List.mem_singleton.1 hz]; exact hp
        | true =>
          refine .inr ⟨x, List.mem_append_right _ (List.mem_singleton.2 rfl), hp, tiS_first hp, fun z hz hq => ?_⟩
          rcases List.mem_append.1 hz with hz | hz
          · rw [h2 z hz] at hq; cases hq
          · rw [List.mem_singleton.1 hz]; exact Int.le_refl _
      · rw [h3]
        cases hp : isP a b sf x with
        | false =>
          refine .inr ⟨y, List.mem_append_left _ h1, h2, tiS_no hp, fun z hz hq => ?_⟩
          rcases List.mem_append.1 hz with hz | hz
          · exact h4 z hz hq
          · rw [List.mem_singleton.1 hz, hp] at hq; cases hq
        | true =>
          by_cases hlt : x.2.2.1 < y.2.2.1
          · refine .inr ⟨x, List.mem_append_right _ (List.mem_singleton.2 rfl), hp, tiS_less hp hlt, fun z hz hq => ?_⟩
            rcases List.mem_append.1 hz with hz | hz
            · have := h4 z hz hq; omega
            · rw [List.mem_singleton.1 hz]; exact Int.le_refl _
          · refine .inr ⟨y, List.mem_append_left _ h1, h2, tiS_more hp hlt, fun z hz hq => ?_⟩
            rcases List.mem_append.1 hz with hz | hz
            · exact h4 z hz hq
            · rw [List.mem_singleton.1 hz]; omega
  have := key l.length (Nat.le_refl _)
  rw [List.take_length] at this
  exact this
/-- Where a footpath leads there, there is a time, of a footpath that leads there, no greater. -/
theorem ti_le {a b : Int} {sf : Bool} {l : List Fp} {x : Fp} (hx : x ∈ l) (h : isP a b sf x = true) : ∃ y ∈ l, isP a b sf y = true ∧ tiF l a b sf = some y.2.2.1 ∧ y.2.2.1 ≤ x.2.2.1 := by
  rcases ti_spec a b sf l with ⟨-, h2⟩ | ⟨y, h1, h2, h3, h4⟩
  · rw [h2 x hx] at h; cases h
  · exact ⟨y, h1, h2, h3, h4 x hx h⟩
/-- With step-free footpaths alone no time is less. -/
theorem ti_free {a b : Int} {l : List Fp} {n : Int} (h : tiF l a b true = some n) : ∃ m, tiF l a b false = some m ∧ m ≤ n := by
  rcases ti_spec a b true l with ⟨h1, -⟩ | ⟨y, h1, h2, h3, -⟩
  · rw [h1] at h; cases h
  · rw [h] at h3
    have e := Option.some.inj h3
    obtain ⟨g1, g2, g3⟩ := isP_iff.1 h2
    obtain ⟨z, -, -, h5, h6⟩ := ti_le (a := a) (b := b) (sf := false) h1 (isP_iff.2 ⟨g1, g2, by unfold useP; simp⟩)
    exact ⟨_, h5, by omega⟩

/-! ### The stops around a stop -/
/-- Lists in strictly ascending order with the same elements are the same. -/
theorem lt_unique : ∀ a b : List Int, a.Pairwise (· < ·) → b.Pairwise (· < ·) → (∀ x, x ∈ a ↔ x ∈ b) → a = b
  | [], [], _, _, _ => rfl
  | [], y :: b, _, _, h => absurd ((h y).2 List.mem_cons_self) (by simp)
  | x :: a, [], _, _, h => absurd ((h x).1 List.mem_cons_self) (by simp)
  | x :: a, y :: b, ha, hb, h => by
    have ha' := List.pairwise_cons.1 ha
    have hb' := List.pairwise_cons.1 hb
    have h1 := (h y).2 List.mem_cons_self
    have h2 := (h x).1 List.mem_cons_self
    have a1 : x ≤ y := by
      rcases List.mem_cons.1 h1 with e | e
      · omega
      · exact Int.le_of_lt (ha'.1 y e)
    have a2 : y ≤ x := by
      rcases List.mem_cons.1 h2 with e | e
      · omega
      · exact Int.le_of_lt (hb'.1 x e)
    obtain rfl : x = y := by omega
    rw [lt_unique a b ha'.2 hb'.2 (fun z => ?_)]
    constructor
    · intro hz
      rcases List.mem_cons.1 ((h z).1 (List.mem_cons_of_mem _ hz)) with e | e
      · have := ha'.1 z hz; omega
      · exact e
    · intro hz
      rcases List.mem_cons.1 ((h z).2 (List.mem_cons_of_mem _ hz)) with e | e
      · have := hb'.1 z hz; omega
      · exact e
/-- How many at the head are less. -/
def lsN (x : Int) (out : List Int) : Nat := (out.takeWhile fun y => decide (y < x)).length
/-- One more put into its place, if it is new. -/
def insA (out : List Int) (x : Int) : List Int := if x ∈ out then out else out.take (lsN x out) ++ x :: out.drop (lsN x out)
theorem ls_spec (x : Int) : ∀ out : List Int, lsN x out ≤ out.length ∧ (∀ (j : Nat) y, j < lsN x out → out[j]? = some y → y < x) ∧ ∀ y, out[lsN x out]? = some y → ¬ y < x
  | [] => ⟨Nat.le_refl _, fun j y h _ => absurd h (Nat.not_lt_zero _), fun y h => by simp at h⟩
  | z :: r => by
    obtain ⟨h1, h2, h3⟩ := ls_spec x r
    unfold lsN at h1 h2 h3 ⊢
    by_cases hz : z < x
    · rw [List.takeWhile_cons_of_pos (by simpa using hz), List.length_cons]
      refine ⟨by rw [List.length_cons]; omega, fun j y hj hy => ?_, fun y hy => h3 y (by rw [List.getElem?_cons_succ] at hy; exact hy)⟩
      cases j with
      | zero =>
        simp at hy
        rw [← hy]
        exact hz
      | succ j =>
        rw [List.getElem?_cons_succ] at hy
        exact h2 j y (by omega) hy
    · rw [List.takeWhile_cons_of_neg (by simpa using hz)]
      refine ⟨Nat.zero_le _, fun j y hj _ => absurd hj (Nat.not_lt_zero _), fun y hy => ?_⟩
      simp at hy
      rw [← hy]
      exact hz
theorem up_at {l : List Int} (h : l.Pairwise (· < ·)) {i j : Nat} {x y : Int} (hij : i < j) (hx : l[i]? = some x) (hy : l[j]? = some y) : x < y := by
  obtain ⟨g1, e1⟩ := List.getElem?_eq_some_iff.1 hx
  obtain ⟨g2, e2⟩ := List.getElem?_eq_some_iff.1 hy
  have := List.pairwise_iff_getElem.1 h i j g1 g2 hij
  rw [e1, e2] at this
  exact this
section
variable {out : List Int} {x : Int}
/-- In ascending order the one behind those that are less tells whether it is new. -/
theorem ls_new (h : out.Pairwise (· < ·)) (hn : out[lsN x out]? ≠ some x) : x ∉ out := by
  intro hm
  obtain ⟨j, hj⟩ := List.mem_iff_getElem?.1 hm
  obtain ⟨h1, h2, h3⟩ := ls_spec x out
  rcases Nat.lt_trichotomy j (lsN x out) with hlt | rfl | hgt
  · have := h2 j x hlt hj; omega
  · exact hn hj
  · obtain ⟨y, hy⟩ := at_lt (l := out) (k := lsN x out) (by have := (List.getElem?_eq_some_iff.1 hj).1; omega)
    have a1 := h3 y hy
    have a2 := up_at h hgt hy hj
    omega
theorem insA_mem (z : Int) : z ∈ insA out x ↔ z = x ∨ z ∈ out := by
  unfold insA
  split
  · next h =>
    constructor
    · exact .inr
    · rintro (rfl | h1)
      · exact h
      · exact h1
  · have e : z ∈ out ↔ z ∈ out.take (lsN x out) ∨ z ∈ out.drop (lsN x out) := by rw [← List.mem_append, List.take_append_drop]
    rw [List.mem_append, List.mem_cons, e]
    constructor
    · rintro (h | h | h)
      · exact .inr (.inl h)
      · exact .inl h
      · exact .inr (.inr h)
    · rintro (h | h | h)
      · exact .inr (.inl h)
      · exact .inl h
      · exact .inr (.inr h)
theorem insA_up (h : out.Pairwise (· < ·)) : (insA out x).Pairwise (· < ·) := by
  unfold insA
  split
  · exact h
  · next hn =>
    obtain ⟨h1, h2, h3⟩ := ls_spec x out
    have hs := h
    rw [← List.take_append_drop (lsN x out) out, List.pairwise_append] at hs
    obtain ⟨s1, s2, s3⟩ := hs
    have big : ∀ z ∈ out.drop (lsN x out), x < z := by
      intro z hz
      obtain ⟨j, hj⟩ := List.mem_iff_getElem?.1 hz
      rw [List.getElem?_drop] at hj
      obtain ⟨y, hy⟩ := at_lt (l := out) (k := lsN x out) (by have := (List.getElem?_eq_some_iff.1 hj).1; omega)
      have a1 := h3 y hy
      have a2 : y ≤ z := by
        by_cases h0 : j = 0
        · subst h0
          rw [Nat.add_zero, hy] at hj
          rw [Option.some.inj hj]
          exact Int.le_refl _
        · exact Int.le_of_lt (up_at h (show lsN x out < lsN x out + j by omega) hy hj)
      have a3 : z ≠ x := fun e => hn (e ▸ List.mem_of_mem_drop hz)
      omega
    refine List.pairwise_append.2 ⟨s1, List.pairwise_cons.2 ⟨big, s2⟩, fun y hy z hz => ?_⟩
    have hyx : y < x := by
      obtain ⟨j, hj⟩ := List.mem_iff_getElem?.1 hy
      rw [List.getElem?_take] at hj
      split at hj
      · next hlt => exact h2 j y hlt hj
      · cases hj
    rcases List.mem_cons.1 hz with rfl | hz
    · exact hyx
    · exact s3 y hy z hz
end
/-- Whether a footpath leads from the stop in the time and counts. -/
def nrP (s m : Int) (sf : Bool) (x : Fp) : Bool := decide (x.1 = s) && useP sf x && decide (x.2.2.1 ≤ m)
theorem nrP_iff {s m : Int} {sf : Bool} {x : Fp} : nrP s m sf x = true ↔ x.1 = s ∧ useP sf x = true ∧ x.2.2.1 ≤ m := by
  unfold nrP
  rw [Bool.and_eq_true, Bool.and_eq_true, decide_eq_true_iff, decide_eq_true_iff, and_assoc]
/-- The stops so far behind one footpath more. -/
def arS (s m : Int) (sf : Bool) (out : List Int) (x : Fp) : List Int := if nrP s m sf x then insA out x.2.1 else out
/-- The stops around a stop. -/
def arF (l : List Fp) (s m : Int) (sf : Bool) : List Int := l.foldl (arS s m sf) []
theorem ar_next {l : List Fp} {s m : Int} {sf : Bool} {k : Nat} {x : Fp} (h : l[k]? = some x) : arF (l.take (k + 1)) s m sf = arS s m sf (arF (l.take k) s m sf) x := by
  unfold arF
  rw [take_at l k x h, List.foldl_append]
  rfl
theorem ar_spec (s m : Int) (sf : Bool) : ∀ (l : List Fp) (out : List Int), out.Pairwise (· < ·) → (l.foldl (arS s m sf) out).Pairwise (· < ·) ∧ ∀ z, z ∈ l.foldl (arS s m sf) out ↔ z ∈ out ∨ ∃ x ∈ l, nrP s m sf x = true ∧ x.2.1 = z
  | [], out, h => ⟨h, fun z => ⟨.inl, fun h1 => by rcases h1 with h1 | ⟨x, hx, -⟩; exact h1; cases hx⟩⟩
  | y :: r, out, h => by
    rw [List.foldl_cons]
    by_cases hp : nrP s m sf y = true
    · have e : arS s m sf out y = insA out y.2.1 := by unfold arS; rw [if_pos hp]
      rw [e]
      obtain ⟨h1, h2⟩ := ar_spec s m sf r _ (insA_up (x := y.2.1) h)
      refine ⟨h1, fun z => ?_⟩
      rw [h2, insA_mem]
      constructor
      · rintro ((e1 | h3) | ⟨x, hx, h3⟩)
        · exact .inr ⟨y, List.mem_cons_self, hp, e1.symm⟩
        · exact .inl h3
        · exact .inr ⟨x, List.mem_cons_of_mem _ hx, h3⟩
      · rintro (h3 | ⟨x, hx, h3, h4⟩)
        · exact .inl (.inr h3)
        · rcases List.mem_cons.1 hx with rfl | hx
          · exact .inl (.inl h4.symm)
          · exact .inr ⟨x, hx, h3, h4⟩
    · have e : arS s m sf out y = out := by unfold arS; rw [if_neg hp]
      rw [e]
      obtain ⟨h1, h2⟩ := ar_spec s m sf r out h
      refine ⟨h1, fun z => ?_⟩
      rw [h2]
      constructor
      · rintro (h3 | ⟨x, hx, h3⟩)
        · exact .inl h3
        · exact .inr ⟨x, List.mem_cons_of_mem _ hx, h3⟩
      · rintro (h3 | ⟨x, hx, h3, h4⟩)
        · exact .inl h3
        · rcases List.mem_cons.1 hx with rfl | hx
          · exact absurd h3 hp
          · exact .inr ⟨x, hx, h3, h4⟩
theorem ar_up (l : List Fp) (s m : Int) (sf : Bool) : (arF l s m sf).Pairwise (· < ·) := (ar_spec s m sf l [] List.Pairwise.nil).1
theorem ar_mem {l : List Fp} {s m : Int} {sf : Bool} {z : Int} : z ∈ arF l s m sf ↔ ∃ x ∈ l, nrP s m sf x = true ∧ x.2.1 = z := by
  have := (ar_spec s m sf l [] List.Pairwise.nil).2 z
  unfold arF
  rw [this]
  constructor
  · rintro (h | h)
    · cases h
    · exact h
  · exact .inr
/-- The stops around are those to which there is a time of at most so much. -/
theorem ar_time {l : List Fp} {s m : Int} {sf : Bool} {z : Int} : z ∈ arF l s m sf ↔ ∃ n, tiF l s z sf = some n ∧ n ≤ m := by
  rw [ar_mem]
  constructor
  · rintro ⟨x, hx, h, rfl⟩
    obtain ⟨h1, h2, h3⟩ := nrP_iff.1 h
    obtain ⟨y, -, -, h5, h6⟩ := ti_le hx (isP_iff.2 ⟨h1, rfl, h2⟩)
    exact ⟨_, h5, by omega⟩
  · rintro ⟨n, hn, hle⟩
    rcases ti_spec s z sf l with ⟨h1, -⟩ | ⟨y, h1, h2, h3, -⟩
    · rw [h1] at hn; cases hn
    · rw [hn] at h3
      have e := Option.some.inj h3
      obtain ⟨g1, g2, g3⟩ := isP_iff.1 h2
      exact ⟨y, h1, nrP_iff.2 ⟨g1, g3, by omega⟩, g2⟩
theorem ar_len (l : List Fp) (s m : Int) (sf : Bool) : (arF l s m sf).length ≤ l.length := by
  have key : ∀ (l : List Fp) (out : List Int), (l.foldl (arS s m sf) out).length ≤ out.length + l.length := by
    intro l
    induction l with
    | nil => intro out; exact Nat.le_refl _
    | cons y r ih =>
      intro out
      rw [List.foldl_cons]
      refine Nat.le_trans (ih _) ?_
      have : (arS s m sf out y).length ≤ out.length + 1 := by
        unfold arS insA
        split
        · split
          · omega
          · have h := (ls_spec y.2.1 out).1
            rw [List.length_append, List.length_cons, List.length_take, List.length_drop]
            omega
        · omega
      rw [List.length_cons]
      omega
  have := key l []
  simp at this
  exact this
/-- The step-free surroundings are those of the surroundings that are among them. -/
theorem ar_part (l : List Fp) (s m : Int) : (arF l s m false).filter (fun z => decide (z ∈ arF l s m true)) = arF l s m true := by
  refine lt_unique _ _ ((ar_up l s m false).sublist List.filter_sublist) (ar_up l s m true) (fun z => ?_)
  rw [List.mem_filter, decide_eq_true_iff]
  constructor
  · exact fun h => h.2
  · intro h
    refine ⟨?_, h⟩
    obtain ⟨x, hx, h1, h2⟩ := ar_mem.1 h
    obtain ⟨g1, -, g3⟩ := nrP_iff.1 h1
    exact ar_mem.2 ⟨x, hx, nrP_iff.2 ⟨g1, by unfold useP; simp, g3⟩, h2⟩

/-! ### Times in a closure -/
section
variable {l : List Fp} {n : Nat} {ta tf : Nat → Nat → Option Nat}
/-- The time that counts. -/
def tSel (sf : Bool) (ta tf : Nat → Nat → Option Nat) : Nat → Nat → Option Nat := if sf then tf else ta
theorem sel_times (ha : TmS (edF false l) n ta) (hf : TmS (edF true l) n tf) (sf : Bool) : TmS (edF sf l) n (tSel sf ta tf) := by
  cases sf with
  | false => exact ha
  | true => exact hf
/-- In the closure Time answers the time of a shortest walk. -/
theorem clo_ti (hl : OkP n l) (ha : TmS (edF false l) n ta) (hf : TmS (edF true l) n tf) (sf : Bool) {i j : Nat} (hi : i < n) (hj : j < n) (hne : i ≠ j) : tiF (cloC ta tf n) (i : Int) (j : Int) sf = (tSel sf ta tf i j).map fun W : Nat => (W : Int) := by
  have hs := sel_times ha hf sf
  obtain ⟨c1, c2⟩ := clo_times ha hf
  have hc := sel_times c1 c2 sf
  have ok := clo_ok hl ha hf
  rcases ti_spec (i : Int) (j : Int) sf (cloC ta tf n) with ⟨h1, h2⟩ | ⟨y, h1, h2, h3, h4⟩
  · rw [h1]
    cases e : tSel sf ta tf i j with
    | none => rfl
    | some W =>
      exfalso
      have he : (i, j, W) ∈ edF sf (cloC ta tf n) := by
        cases sf with
        | false => exact clo_edge_all hi hj hne e
        | true => exact clo_edge_free ha hf hi hj hne e
      obtain ⟨x, hx, hu, ee⟩ := ed_mem.1 he
      have hv := ok x hx
      unfold edP at ee
      have e1 := congrArg (fun z : Ed => z.1) ee
      have e2 := congrArg (fun z : Ed => z.2.1) ee
      simp only at e1 e2
      have := h2 x hx
      rw [isP_iff.2 ⟨by omega, by omega, hu⟩] at this
      cases this
  · rw [h3]
    obtain ⟨g1, g2, g3⟩ := isP_iff.1 h2
    have hv := ok y h1
    have he : (i, j, y.2.2.1.toNat) ∈ edF sf (cloC ta tf n) := ed_mem.2 ⟨y, h1, g3, by unfold edP; rw [g1, g2]; simp⟩
    obtain ⟨W, hd⟩ := Dist.exists (l := edF sf (cloC ta tf n)) (b := j) (a := i) (k := 1) (V := y.2.2.1.toNat) ⟨j, _, 0, he, ⟨rfl, rfl⟩, (Nat.zero_add _).symm⟩
    have hle := Dist.edge he hd
    have ht := (hc i j hi hj hne W).2 ⟨hd, by omega⟩
    rw [ht]
    have he2 : (i, j, W) ∈ edF sf (cloC ta tf n) := by
      cases sf with
      | false => exact clo_edge_all hi hj hne ht
      | true => exact clo_edge_free ha hf hi hj hne ht
    obtain ⟨x, hx, hu, ee⟩ := ed_mem.1 he2
    have hvx := ok x hx
    unfold edP at ee
    have e1 := congrArg (fun z : Ed => z.1) ee
    have e2 := congrArg (fun z : Ed => z.2.1) ee
    have e3 := congrArg (fun z : Ed => z.2.2) ee
    simp only at e1 e2 e3
    have := h4 x hx (isP_iff.2 ⟨by omega, by omega, hu⟩)
    show some y.2.2.1 = some ((W : Nat) : Int)
    congr 1
    omega
/-- No footpath is shorter than the time between its ends in the closure. -/
theorem clo_short (hl : OkP n l) (ha : TmS (edF false l) n ta) (hf : TmS (edF true l) n tf) {x : Fp} (hx : x ∈ l) : ∃ m, tiF (cloC ta tf n) x.1 x.2.1 x.2.2.2 = some m ∧ 1 ≤ m ∧ m ≤ x.2.2.1 := by
  have hv := hl x hx
  obtain ⟨i, hi⟩ : ∃ i : Nat, x.1 = (i : Int) := ⟨x.1.toNat, by omega⟩
  obtain ⟨j, hj⟩ : ∃ j : Nat, x.2.1 = (j : Int) := ⟨x.2.1.toNat, by omega⟩
  have hne : i ≠ j := by intro e; subst e; omega
  have hs := sel_times ha hf x.2.2.2
  have he : (i, j, x.2.2.1.toNat) ∈ edF x.2.2.2 l := ed_mem.2 ⟨x, hx, by unfold useP; cases x.2.2.2 <;> rfl, by unfold edP; rw [hi, hj]; simp⟩
  obtain ⟨W, hd⟩ := Dist.exists (l := edF x.2.2.2 l) (b := j) (a := i) (k := 1) (V := x.2.2.1.toNat) ⟨j, _, 0, he, ⟨rfl, rfl⟩, (Nat.zero_add _).symm⟩
  have hle := Dist.edge he hd
  have hp := dist_pos hl hne hd
  have ht := (hs i j (by omega) (by omega) hne W).2 ⟨hd, by omega⟩
  refine ⟨(W : Int), ?_, by omega, by omega⟩
  rw [hi, hj, clo_ti hl ha hf x.2.2.2 (by omega) (by omega) hne, ht]
  rfl
/-- In a closure no way over a third stop is shorter. -/
theorem clo_tri (hl : OkP n l) (ha : TmS (edF false l) n ta) (hf : TmS (edF true l) n tf) {sf : Bool} {x y : Fp} (hx : x ∈ cloC ta tf n) (hy : y ∈ cloC ta tf n) (ux : useP sf x = true) (uy : useP sf y = true) (hxy : x.2.1 = y.1) (hne : x.1 ≠ y.2.1) (hm : x.2.2.1 + y.2.2.1 ≤ 14400) :
    ∃ m, tiF (cloC ta tf n) x.1 y.2.1 sf = some m ∧ m ≤ x.2.2.1 + y.2.2.1 := by
  have ok := clo_ok hl ha hf
  have v1 := ok x hx
  have v2 := ok y hy
  obtain ⟨i, hi⟩ : ∃ i : Nat, x.1 = (i : Int) := ⟨x.1.toNat, by omega⟩
  obtain ⟨j, hj⟩ : ∃ j : Nat, y.2.1 = (j : Int) := ⟨y.2.1.toNat, by omega⟩
  obtain ⟨k, hk⟩ : ∃ k : Nat, y.1 = (k : Int) := ⟨y.1.toNat, by omega⟩
  have hnij : i ≠ j := by intro e; subst e; omega
  obtain ⟨c1, c2⟩ := clo_times ha hf
  have hc := sel_times c1 c2 sf
  have e1 : (i, k, x.2.2.1.toNat) ∈ edF sf (cloC ta tf n) := ed_mem.2 ⟨x, hx, ux, by unfold edP; rw [hi, hxy, hk]; simp⟩
  have e2 : (k, j, y.2.2.1.toNat) ∈ edF sf (cloC ta tf n) := ed_mem.2 ⟨y, hy, uy, by unfold edP; rw [hk, hj]; simp⟩
  have hw : Wl (edF sf (cloC ta tf n)) j 2 i (y.2.2.1.toNat + x.2.2.1.toNat) := ⟨k, _, y.2.2.1.toNat, e1, ⟨j, _, 0, e2, ⟨rfl, rfl⟩, (Nat.zero_add _).symm⟩, rfl⟩
  obtain ⟨W, hd⟩ := Dist.exists hw
  have hle := hd.2 _ _ hw
  have ht := (hc i j (by omega) (by omega) hnij W).2 ⟨hd, by omega⟩
  refine ⟨(W : Int), ?_, by omega⟩
  rw [hi, hj, clo_ti hl ha hf sf (by omega) (by omega) hnij, ht]
  rfl
end
end Go.Proofs.Ytibakhobgfiklaa
namespace Go.Proofs.Ytibakhobgfiklaa
open Go

/-- A cost: the length, the number of edges. -/
abbrev Ct := Int × Int
def key (c : Ct) : Int := 128 * c.1 + c.2
def ltC (c d : Ct) : Bool := decide (c.1 < d.1) || (decide (c.1 = d.1) && decide (c.2 < d.2))
def farC : Ct := (68719476736, 0)
def plusC (c : Ct) (w : Nat) : Ct := (c.1 + (w : Int), c.2 + 1)
def gl (lab : List Ct) (i : Nat) : Ct := lab.getD i farC
theorem gl_at {lab : List Ct} {i : Nat} {c : Ct} (h : lab[i]? = some c) : gl lab i = c := by unfold gl; rw [List.getD_eq_getElem?_getD, h]; rfl
theorem at_gl {lab : List Ct} {i : Nat} (h : i < lab.length) : lab[i]? = some (gl lab i) := by
  obtain ⟨c, hc⟩ := at_lt h
  rw [hc, gl_at hc]
theorem gl_set {lab : List Ct} {t i : Nat} {c : Ct} (ht : t < lab.length) : gl (lab.set t c) i = if t = i then c else gl lab i := by
  unfold gl
  rw [List.getD_eq_getElem?_getD, List.getElem?_set, List.getD_eq_getElem?_getD]
  by_cases h : t = i
  · subst h; simp [ht]
  · simp [h]
theorem gl_same {lab : List Ct} {t : Nat} {c : Ct} (ht : t < lab.length) : gl (lab.set t c) t = c := by rw [gl_set ht, if_pos rfl]
theorem gl_other {lab : List Ct} {t i : Nat} {c : Ct} (ht : t < lab.length) (h : t ≠ i) : gl (lab.set t c) i = gl lab i := by rw [gl_set ht, if_neg h]
theorem ltC_iff (c d : Ct) : ltC c d = true ↔ c.1 < d.1 ∨ c.1 = d.1 ∧ c.2 < d.2 := by unfold ltC; simp
theorem ltC_key {c d : Ct} (h : ltC c d = true) (c1 : c.2 < 128) (d0 : 0 ≤ d.2) : key c < key d := by
  rw [ltC_iff] at h
  unfold key
  omega
theorem ltC_not {c d : Ct} (h : ltC c d = false) (c0 : 0 ≤ c.2) (d1 : d.2 < 128) : key d ≤ key c := by
  have h' : ¬ (c.1 < d.1 ∨ c.1 = d.1 ∧ c.2 < d.2) := fun x => by rw [(ltC_iff c d).2 x] at h; cases h
  unfold key
  omega
theorem nodup_len : ∀ (P : List Nat) (R : List Nat), P.Nodup → (∀ x ∈ P, x ∈ R) → P.length ≤ R.length
  | [], _, _, _ => Nat.zero_le _
  | x :: P, R, hn, hs => by
    obtain ⟨h1, h2⟩ := List.nodup_cons.1 hn
    have ih := nodup_len P (R.erase x) h2 fun y hy => (List.mem_erase_of_ne (fun e => h1 (by rw [← e]; exact hy))).2 (hs y (List.mem_cons_of_mem _ hy))
    have hx := hs x (by simp)
    have := List.length_erase_of_mem hx
    have := List.length_pos_of_mem hx
    rw [List.length_cons]
    omega
/-- The edges that leave a node. -/
def outs (D : List Ed) (v : Nat) : List Ed := D.filter fun e => e.1 == v
theorem mem_outs {D : List Ed} {v : Nat} {e : Ed} : e ∈ outs D v ↔ e ∈ D ∧ e.1 = v := by unfold outs; rw [List.mem_filter]; simp
/-- lab: the costs so far; Q: what waits; X: the nodes that are done; T: the edges that are still to be looked at; N: how many have waited; K: the last least cost. -/
structure Dj (D : List Ed) (n b : Nat) (lab : List Ct) (Q : List (Int × Ct)) (X : List Nat) (T : List Ed) (N : Nat) (K : Int) : Prop where
  len : lab.length = n
  bn : b < n
  src : gl lab b = (0, 0)
  wit : ∀ i, i < n → gl lab i = farC ∨ ∃ k W : Nat, gl lab i = ((W : Int), (k : Int)) ∧ W < 68719476736 ∧ k ≤ X.length ∧ Wl D i k b W
  qok : ∀ x ∈ Q, ∃ v k W : Nat, x = ((v : Int), (W : Int), (k : Int)) ∧ v < n ∧ W < 68719476736 ∧ k ≤ X.length ∧ K ≤ 128 * W + k ∧ key (gl lab v) ≤ 128 * W + k
  nod : Q.Nodup
  xnd : X.Nodup
  xok : ∀ v ∈ X, v < n ∧ key (gl lab v) ≤ K ∧ ((v : Int), gl lab v) ∉ Q
  kap : 0 ≤ K ∧ K < 8796093022208
  rea : ∀ i, i < n → gl lab i = farC ∨ ((i : Int), gl lab i) ∈ Q ∨ i ∈ X
  rlx : ∀ e ∈ D, e.1 ∈ X → e ∈ T ∨ key (gl lab e.2.1) ≤ key (gl lab e.1) + 128 * e.2.2 + 1
  cnt : N + (D.filter fun e => !X.contains e.1).length + T.length ≤ 1 + D.length
  qn : Q.length ≤ N
variable {D : List Ed} {n b : Nat} {lab : List Ct} {Q : List (Int × Ct)} {X : List Nat} {T : List Ed} {N : Nat} {K : Int}
theorem Dj.xlen (h : Dj D n b lab Q X T N K) : X.length ≤ n := by
  have := nodup_len X (List.range n) h.xnd fun x hx => List.mem_range.2 (h.xok x hx).1
  rwa [List.length_range] at this
theorem Dj.rng (h : Dj D n b lab Q X T N K) (hn : n ≤ 64) {i : Nat} (hi : i < n) : 0 ≤ (gl lab i).1 ∧ (gl lab i).1 ≤ 68719476736 ∧ 0 ≤ (gl lab i).2 ∧ (gl lab i).2 ≤ 64 := by
  have := h.xlen
  rcases h.wit i hi with e | ⟨k, W, e, hW, hk, _⟩
  · rw [e]; unfold farC; simp
  · rw [e]
    refine ⟨?_, ?_, ?_, ?_⟩ <;> simp <;> omega
theorem Dj.start (D : List Ed) {n b : Nat} (hb : b < n) : Dj D n b ((List.replicate n farC).set b (0, 0)) [((b : Int), ((0 : Int), (0 : Int)))] [] [] 1 0 := by
  have hl : b < (List.replicate n farC).length := by rw [List.length_replicate]; exact hb
  have ho : ∀ i, b ≠ i → gl ((List.replicate n farC).set b (0, 0)) i = farC := fun i hi => by
    rw [gl_other hl hi]
    unfold gl
    rw [List.getD_eq_getElem?_getD, List.getElem?_replicate]
    split <;> rfl
  refine ⟨by simp, hb, gl_same hl, fun i _ => ?_, fun x hx => ?_, by simp, List.nodup_nil, (fun v hv => by cases hv), by omega, fun i _ => ?_, (fun e _ he => by cases he), ?_, by simp⟩
  · by_cases e : b = i
    · subst e
      exact .inr ⟨0, 0, gl_same hl, by omega, Nat.le_refl _, rfl, rfl⟩
    · exact .inl (ho i e)
  · obtain rfl := List.mem_singleton.1 hx
    refine ⟨b, 0, 0, rfl, hb, by omega, Nat.le_refl _, by omega, ?_⟩
    rw [gl_same hl]; unfold key; simp
  · by_cases e : b = i
    · subst e
      exact .inr (.inl (by rw [gl_same hl]; simp))
    · exact .inl (ho i e)
  · have : (D.filter fun e => !([] : List Nat).contains e.1).length ≤ D.length := List.length_filter_le _ _
    simp only [List.length_nil]
    omega
theorem outs_count (D : List Ed) (X : List Nat) (v : Nat) (hv : v ∉ X) : (D.filter fun e => !(v :: X).contains e.1).length + (outs D v).length = (D.filter fun e => !X.contains e.1).length := by
  unfold outs
  induction D with
  | nil => rfl
  | cons e D ih =>
    simp only [List.filter_cons]
    by_cases h1 : e.1 = v
    · have h2 : X.contains e.1 = false := by rw [h1]; simpa using hv
      have h3 : (v :: X).contains e.1 = true := by rw [h1]; simp
      rw [h2, h3]
      simp [h1]
      simp at ih
      omega
    · have h3 : (v :: X).contains e.1 = X.contains e.1 := by simp [h1]
      rw [h3]
      cases h4 : X.contains e.1 <;> simp [h1] <;> simp at ih <;> omega
/-- The least of what waits is taken away. -/
theorem Dj.pop (h : Dj D n b lab Q X [] N K) (hn : n ≤ 64) {x : Int × Ct} {Q' : List (Int × Ct)} (hp : Q.Perm (x :: Q')) (hm : ∀ y ∈ Q', ltC y.2 x.2 = false) :
    ∃ v k W : Nat, x = ((v : Int), (W : Int), (k : Int)) ∧ v < n ∧ W < 68719476736 ∧ k ≤ 64 ∧
      ((gl lab v ≠ ((W : Int), (k : Int)) ∧ Dj D n b lab Q' X [] N (128 * W + k)) ∨ (gl lab v = ((W : Int), (k : Int)) ∧ v ∉ X ∧ k + 1 ≤ (v :: X).length ∧ Dj D n b lab Q' (v :: X) (outs D v) N (128 * W + k))) := by
  have hx : x ∈ Q := hp.symm.subset (by simp)
  have hxl := h.xlen
  obtain ⟨v, k, W, rfl, hv, hW, hk, hK, hgv⟩ := h.qok x hx
  have hs : ∀ y ∈ Q', y ∈ Q := fun y hy => hp.symm.subset (List.mem_cons_of_mem _ hy)
  have hnd := List.nodup_cons.1 (hp.nodup_iff.1 h.nod)
  have hlen := hp.length_eq
  rw [List.length_cons] at hlen
  have hqn := h.qn
  have hle : ∀ y ∈ Q', ∃ v' k' W' : Nat, y = ((v' : Int), (W' : Int), (k' : Int)) ∧ v' < n ∧ W' < 68719476736 ∧ k' ≤ X.length ∧ (128 * W + k : Int) ≤ 128 * W' + k' ∧ key (gl lab v') ≤ 128 * W' + k' := by
    intro y hy
    obtain ⟨v', k', W', rfl, a1, a2, a3, a4, a5⟩ := h.qok y (hs y hy)
    refine ⟨v', k', W', rfl, a1, a2, a3, ?_, a5⟩
    have := ltC_not (hm _ hy) (by simp) (by simp; omega)
    unfold key at this
    simpa using this
  refine ⟨v, k, W, rfl, hv, hW, by omega, ?_⟩
  have hkap := h.kap
  by_cases e : gl lab v = ((W : Int), (k : Int))
  · refine .inr ⟨e, fun hX => (h.xok v hX).2.2 (by rw [e]; exact hx), by rw [List.length_cons]; omega, ?_⟩
    have hX : v ∉ X := fun hX => (h.xok v hX).2.2 (by rw [e]; exact hx)
    refine ⟨h.len, h.bn, h.src, fun i hi => ?_, fun y hy => ?_, hnd.2, List.nodup_cons.2 ⟨hX, h.xnd⟩, fun u hu => ?_, by omega, fun i hi => ?_, fun e' he' hX' => ?_, ?_, by omega⟩
    · rcases h.wit i hi with a | ⟨k1, W1, a1, a2, a3, a4⟩
      · exact .inl a
      · exact .inr ⟨k1, W1, a1, a2, by rw [List.length_cons]; omega, a4⟩
    · obtain ⟨v', k', W', a0, a1, a2, a3, a4, a5⟩ := hle y hy
      exact ⟨v', k', W', a0, a1, a2, by rw [List.length_cons]; omega, a4, a5⟩
    · rcases List.mem_cons.1 hu with rfl | hu
      · refine ⟨hv, by rw [e]; unfold key; simp, ?_⟩
        rw [e]
        exact hnd.1
      · obtain ⟨a1, a2, a3⟩ := h.xok u hu
        exact ⟨a1, by omega, fun hq => a3 (hs _ hq)⟩
    · rcases h.rea i hi with a | a | a
      · exact .inl a
      · rcases List.mem_cons.1 (hp.subset a) with a | a
        · have : i = v := by have := congrArg Prod.fst a; simp at this; omega
          exact .inr (.inr (by rw [this]; simp))
        · exact .inr (.inl a)
      · exact .inr (.inr (List.mem_cons_of_mem _ a))
    · rcases List.mem_cons.1 hX' with a | a
      · exact .inl (mem_outs.2 ⟨he', a⟩)
      · rcases h.rlx e' he' a with c | c
        · cases c
        · exact .inr c
    · have := outs_count D X v hX
      have := h.cnt
      simp only [List.length_nil] at this
      omega
  · refine .inl ⟨e, ⟨h.len, h.bn, h.src, h.wit, hle, hnd.2, h.xnd, fun u hu => ?_, by omega, fun i hi => ?_, h.rlx, h.cnt, by omega⟩⟩
    · obtain ⟨a1, a2, a3⟩ := h.xok u hu
      exact ⟨a1, by omega, fun hq => a3 (hs _ hq)⟩
    · rcases h.rea i hi with a | a | a
      · exact .inl a
      · rcases List.mem_cons.1 (hp.subset a) with a | a
        · exfalso
          have h1 : i = v := by have := congrArg Prod.fst a; simp at this; omega
          have h2 := congrArg Prod.snd a
          subst h1
          exact e h2
        · exact .inr (.inl a)
      · exact .inr (.inr a)
/-- An edge that leads on at a lower cost. -/
theorem Dj.less {e : Ed} (h : Dj D n b lab Q X (e :: T) N K) (hn : n ≤ 64) (hX : e.1 ∈ X) (he : e ∈ D) (hl : Inn D n) (hK : key (gl lab e.1) = K) (hk : (gl lab e.1).2 + 1 ≤ (X.length : Int)) (hlt : ltC (plusC (gl lab e.1) e.2.2) (gl lab e.2.1) = true)
    {Q' : List (Int × Ct)} (hp : Q'.Perm (Q ++ [((e.2.1 : Int), plusC (gl lab e.1) e.2.2)])) : Dj D n b (lab.set e.2.1 (plusC (gl lab e.1) e.2.2)) Q' X T (N + 1) K ∧ gl (lab.set e.2.1 (plusC (gl lab e.1) e.2.2)) e.1 = gl lab e.1 := by
  obtain ⟨s, t, w⟩ := e
  simp only at *
  have hs := hl _ he
  simp only at hs
  have hxl := h.xlen
  have hkap := h.kap
  obtain ⟨k, W, hc, hW, hkl, hw⟩ : ∃ k W : Nat, gl lab s = ((W : Int), (k : Int)) ∧ W < 68719476736 ∧ k ≤ X.length ∧ Wl D s k b W := by
    rcases h.wit s hs.1 with a | a
    · rw [a] at hK; unfold key farC at hK; simp at hK; omega
    · exact a
  rw [hc] at hK hk hlt hp ⊢
  have hk1 : k + 1 ≤ X.length := by simp at hk; omega
  have hK' : (128 * W + k : Int) = K := by unfold key at hK; simpa using hK
  have hrt := h.rng hn hs.2
  have hkey : key (plusC ((W : Int), (k : Int)) w) = K + 128 * w + 1 := by unfold key plusC; simp; omega
  have hlow : key (plusC ((W : Int), (k : Int)) w) < key (gl lab t) := ltC_key hlt (by unfold plusC; simp; omega) hrt.2.2.1
  have hll : t < lab.length := by rw [h.len]; exact hs.2
  have htX : t ∉ X := fun hx => by
    have := (h.xok t hx).2.1
    omega
  have hst : t ≠ s := fun x => htX (x ▸ hX)
  have hbt : t ≠ b := fun x => by
    subst x
    rw [h.src, hkey] at hlow
    unfold key at hlow
    simp at hlow
    omega
  have hfall : ∀ i, key (gl (lab.set t (plusC ((W : Int), (k : Int)) w)) i) ≤ key (gl lab i) := fun i => by
    rw [gl_set hll]
    split
    · next x => subst x; omega
    · exact Int.le_refl _
  have hnq : ((t : Int), plusC ((W : Int), (k : Int)) w) ∉ Q := fun hq => by
    obtain ⟨v', k', W', a0, a1, a2, a3, a4, a5⟩ := h.qok _ hq
    have h1 : t = v' := by have := congrArg Prod.fst a0; simp at this; omega
    have h2 : plusC ((W : Int), (k : Int)) w = ((W' : Int), (k' : Int)) := congrArg Prod.snd a0
    subst h1
    rw [h2] at hlow
    unfold key at hlow a5
    simp at hlow a5
    omega
  have hmem : ∀ y, y ∈ Q' ↔ y ∈ Q ∨ y = ((t : Int), plusC ((W : Int), (k : Int)) w) := fun y => by rw [hp.mem_iff, List.mem_append, List.mem_singleton]
  have hlen := hp.length_eq
  rw [List.length_append, List.length_singleton] at hlen
  have hqn := h.qn
  refine ⟨⟨by rw [List.length_set]; exact h.len, h.bn, by rw [gl_other hll hbt]; exact h.src, fun i hi => ?_, fun y hy => ?_, ?_, h.xnd, fun u hu => ?_, hkap, fun i hi => ?_, fun e' he' hX' => ?_, ?_, by omega⟩, (gl_other hll hst).trans hc⟩
  · by_cases ht : t = i
    · subst ht
      rw [gl_same hll]
      refine .inr ⟨k + 1, W + w, by unfold plusC; simp, ?_, hk1, hw.snoc he⟩
      rw [ltC_iff] at hlt
      unfold plusC at hlt
      simp at hlt
      have := hrt.2.1
      rcases h.wit t hs.2 with a | ⟨k2, W2, a1, a2, a3, a4⟩
      · rw [a] at hlt
        unfold farC at hlt
        simp at hlt
        omega
      · rw [a1] at hlt
        simp at hlt
        omega
    · rw [gl_other hll ht]
      exact h.wit i hi
  · rcases (hmem y).1 hy with hq | rfl
    · obtain ⟨v', k', W', a0, a1, a2, a3, a4, a5⟩ := h.qok y hq
      exact ⟨v', k', W', a0, a1, a2, a3, a4, Int.le_trans (hfall v') a5⟩
    · refine ⟨t, k + 1, W + w, by unfold plusC; simp, hs.2, ?_, hk1, by simp; omega, ?_⟩
      · rw [ltC_iff] at hlt
        unfold plusC at hlt
        simp at hlt
        have := hrt.2.1
        rcases h.wit t hs.2 with a | ⟨k2, W2, a1, a2, a3, a4⟩
        · rw [a] at hlt
          unfold farC at hlt
          simp at hlt
          omega
        · rw [a1] at hlt
          simp at hlt
          omega
      · rw [gl_same hll, hkey]
        simp
        omega
  · rw [hp.nodup_iff, List.nodup_append]
    refine ⟨h.nod, by simp, fun x hx y hy e => ?_⟩
    obtain rfl := List.mem_singleton.1 hy
    exact hnq (e ▸ hx)
  · obtain ⟨a1, a2, a3⟩ := h.xok u hu
    have hut : t ≠ u := fun x => htX (x ▸ hu)
    rw [gl_other hll hut]
    refine ⟨a1, a2, fun hq => ?_⟩
    rcases (hmem _).1 hq with hq | hq
    · exact a3 hq
    · have := congrArg Prod.fst hq
      simp at this
      exact hut (by omega)
  · by_cases ht : t = i
    · subst ht
      rw [gl_same hll]
      exact .inr (.inl ((hmem _).2 (.inr rfl)))
    · rw [gl_other hll ht]
      rcases h.rea i hi with a | a | a
      · exact .inl a
      · exact .inr (.inl ((hmem _).2 (.inl a)))
      · exact .inr (.inr a)
  · have hne : t ≠ e'.1 := fun x => htX (x ▸ hX')
    rw [gl_other hll hne]
    rcases h.rlx e' he' hX' with a | a
    · rcases List.mem_cons.1 a with a | a
      · subst a
        refine .inr ?_
        simp only
        rw [gl_same hll, hkey, hc]
        unfold key
        simp
        omega
      · exact .inl a
    · exact .inr (Int.le_trans (hfall _) a)
  · have := h.cnt
    rw [List.length_cons] at this
    omega
/-- An edge that does not. -/
theorem Dj.keep {e : Ed} (h : Dj D n b lab Q X (e :: T) N K) (hn : n ≤ 64) (he : e ∈ D) (hl : Inn D n) (hlt : ltC (plusC (gl lab e.1) e.2.2) (gl lab e.2.1) = false) : Dj D n b lab Q X T N K := by
  have hs := hl _ he
  have r1 := h.rng hn hs.1
  have r2 := h.rng hn hs.2
  refine ⟨h.len, h.bn, h.src, h.wit, h.qok, h.nod, h.xnd, h.xok, h.kap, h.rea, fun e' he' hX' => ?_, ?_, h.qn⟩
  · rcases h.rlx e' he' hX' with a | a
    · rcases List.mem_cons.1 a with rfl | a
      · refine .inr ?_
        have := ltC_not hlt (by unfold plusC; simp; omega) (by omega)
        unfold key plusC at this
        unfold key
        simp at this ⊢
        omega
      · exact .inl a
    · exact .inr a
  · have := h.cnt
    rw [List.length_cons] at this
    omega
theorem Wl.bound {l : List Ed} {b B : Nat} (hB : ∀ e ∈ l, e.2.2 ≤ B) : ∀ {k a W : Nat}, Wl l b k a W → W ≤ k * B
  | 0, _, _, ⟨_, hW⟩ => by omega
  | k + 1, a, W, ⟨m, w, V, he, hw, hW⟩ => by
    have := hw.bound hB
    have := hB _ he
    simp only at this
    rw [Nat.add_mul]
    omega
/-- What the costs are at the end. -/
def Lc (D : List Ed) (n b : Nat) (lab : List Ct) : Prop := lab.length = n ∧ ∀ i, i < n → (gl lab i = farC ∧ ∀ k W, ¬ Wl D i k b W) ∨ ∃ c : Nat, gl lab i = (((c / 128 : Nat) : Int), ((c % 128 : Nat) : Int)) ∧ c / 128 < 68719476736 ∧ Mn 128 (turnL D) b i c
theorem Dj.done (h : Dj D n b lab [] X [] N K) (hn : n ≤ 64) (hl : Inn D n) (hw : ∀ e ∈ D, e.2.2 ≤ 1073741824) : Lc D n b lab := by
  have hxl := h.xlen
  have key1 : ∀ k i W, Wl (turnL D) b k i W → k ≤ 64 → W < 68719476736 → key (gl lab i) ≤ 128 * (W : Int) + (k : Int) := by
    intro k
    induction k with
    | zero =>
      rintro i W ⟨rfl, rfl⟩ _ _
      rw [h.src]
      unfold key
      simp
    | succ k ih =>
      rintro i W ⟨m, w, V, he, hv, rfl⟩ h1 h2
      have a := ih m V hv (by omega) (by omega)
      have he' := mem_turn he
      rw [turn_turn] at he'
      have hin := hl _ he'
      have hX : m ∈ X := by
        rcases h.rea m hin.1 with c | c | c
        · rw [c] at a
          unfold key farC at a
          simp at a
          omega
        · cases c
        · exact c
      rcases h.rlx _ he' hX with c | c
      · cases c
      · simp only at c
        omega
  have top : ∀ i k W, Wl D i k b W → ∃ c : Nat, Mn 128 (turnL D) b i c ∧ key (gl lab i) ≤ (c : Int) ∧ (c : Int) < 8796093022208 := by
    intro i k W hk
    obtain ⟨c, hc⟩ := Mn.exists ((hk.turn).wk 128)
    obtain ⟨k', hk'⟩ := hc.1
    have h1 := least_edges hl.turn h.bn hk' hc
    obtain ⟨W', hW', rfl⟩ := hk'.wl
    have h2 : W' ≤ k' * 1073741824 := hW'.bound fun e he => by
      obtain ⟨x, hx, rfl⟩ := List.mem_map.1 he
      exact hw x hx
    have h3 : k' * 1073741824 ≤ 63 * 1073741824 := Nat.mul_le_mul_right _ (by omega)
    have h4 := key1 k' i W' hW' (by omega) (by omega)
    exact ⟨_, hc, by simpa using h4, by simp; omega⟩
  refine ⟨h.len, fun i hi => ?_⟩
  rcases h.wit i hi with e | ⟨k, W, e, h1, h2, h3⟩
  · refine .inl ⟨e, fun k W hk => ?_⟩
    obtain ⟨c, _, a1, a2⟩ := top i k W hk
    rw [e] at a1
    unfold key farC at a1
    simp at a1
    omega
  · obtain ⟨c, hc, a1, a2⟩ := top i k W h3
    have a3 := hc.2 _ _ ((h3.turn).wk 128)
    rw [e] at a1
    unfold key at a1
    simp at a1
    have e1 : c / 128 = W := by omega
    have e2 : c % 128 = k := by omega
    exact .inr ⟨c, by rw [e1, e2]; exact e, by omega, hc⟩

/-! ### The distances -/
def distC (c : Ct) : Int := if c.1 = 68719476736 then -1 else c.1
theorem Lc.dist (h : Lc D n b lab) (hn : n ≤ 64) (hb : b < n) (hl : Inn D n) : lab.map distC = distL n D b := by
  apply List.ext_getElem?
  intro i
  by_cases hi : i < n
  · rw [List.getElem?_map, at_gl (by rw [h.1]; exact hi)]
    show some (distC (gl lab i)) = _
    rcases h.2 i hi with ⟨e, hno⟩ | ⟨c, e, h1, h2⟩
    · rcases distL_spec hl hb (by omega) i hi with ⟨x, hx, rfl, _⟩ | ⟨W, hx, hd⟩
      · rw [hx, e]; rfl
      · obtain ⟨k, hk⟩ := hd.1
        exact absurd hk (hno _ _)
    · have hd := (h2.dist hl.turn hb (by omega)).1.turn
      rw [turn_turn] at hd
      rcases distL_spec hl hb (by omega) i hi with ⟨x, hx, _, hno⟩ | ⟨W, hx, hd'⟩
      · obtain ⟨k, hk⟩ := hd.1
        exact absurd hk (hno _ _)
      · rw [hx, e, ← hd.uniq hd']
        unfold distC
        simp only
        rw [if_neg (by omega)]
  · rw [List.getElem?_eq_none (by rw [List.length_map, h.1]; omega), List.getElem?_eq_none (by rw [distL_length]; omega)]
end Go.Proofs.Ytibakhobgfiklaa
namespace Go.Proofs.Ytibakhobgfiklaa
open Go

def stepN (lab : List Ct) (a : Nat) (f : Nat) (e : Ed) : Nat := if plusC (gl lab e.2.1) e.2.2 = gl lab a then min f e.2.1 else f
/-- The least node behind a. -/
def nxt (L : List Ed) (lab : List Ct) (a : Nat) : Nat := (outs L a).foldl (stepN lab a) 64
def nd (L : List Ed) (lab : List Ct) (s : Nat) : Nat → Nat
  | 0 => s
  | j + 1 => nxt L lab (nd L lab s j)
def stepR (d : List Int) (a : Nat) (m : Int) (e : Ed) : Int := if e.1 = a ∧ 0 ≤ d.getD e.2.1 (-1) ∧ d.getD e.2.1 (-1) + (e.2.2 : Int) * 128 + 1 = d.getD a (-1) ∧ (m < 0 ∨ (e.2.1 : Int) < m) then (e.2.1 : Int) else m
def nxtR (L : List Ed) (d : List Int) (a : Nat) : Int := L.foldl (stepR d a) (-1)
variable {L : List Ed} {n b : Nat} {lab : List Ct}
/-- What is known of a node: there is no way, or its cost. -/
theorem Lc.at (h : Lc (turnL L) n b lab) (hn : n ≤ 64) (hb : b < n) (hl : Inn L n) {i : Nat} (hi : i < n) :
    (gl lab i = farC ∧ (costL n L b).getD i (-1) = -1 ∧ ∀ k W, ¬ Wl L b k i W) ∨ ∃ c : Nat, gl lab i = (((c / 128 : Nat) : Int), ((c % 128 : Nat) : Int)) ∧ (costL n L b).getD i (-1) = (c : Int) ∧ c / 128 < 68719476736 ∧ c % 128 < n ∧ Mn 128 L b i c := by
  rcases h.2 i hi with ⟨e, hno⟩ | ⟨c, e, h1, h2⟩
  · have hno' : ∀ k W, ¬ Wl L b k i W := fun k W hk => hno k W hk.turn
    rcases costL_spec hl hb i with ⟨e1, _⟩ | ⟨c, _, hc⟩
    · exact .inl ⟨e, e1, hno'⟩
    · obtain ⟨k, hk⟩ := hc.1
      obtain ⟨W, hW, _⟩ := hk.wl
      exact absurd hW (hno' _ _)
  · rw [turn_turn] at h2
    obtain ⟨-, ⟨k, hk, hkn, -⟩, -⟩ := h2.dist hl hb (by omega)
    rcases costL_spec hl hb i with ⟨_, hno⟩ | ⟨c', e1, hc⟩
    · obtain ⟨k, hk⟩ := h2.1
      exact absurd hk (hno _ _)
    · rw [← h2.uniq hc] at e1
      exact .inr ⟨c, e, e1, h1, by omega, h2⟩
/-- One edge fits the code's test as it fits the reference's. -/
theorem Lc.fits (h : Lc (turnL L) n b lab) (hn : n ≤ 64) (hb : b < n) (hl : Inn L n) {a c t w : Nat} (ha : gl lab a = (((c / 128 : Nat) : Int), ((c % 128 : Nat) : Int))) (hd : (costL n L b).getD a (-1) = (c : Int)) (hc : c / 128 < 68719476736) (ht : t < n) :
    plusC (gl lab t) w = gl lab a ↔ 0 ≤ (costL n L b).getD t (-1) ∧ (costL n L b).getD t (-1) + (w : Int) * 128 + 1 = (costL n L b).getD a (-1) := by
  rw [ha, hd]
  rcases h.at hn hb hl ht with ⟨e, e1, _⟩ | ⟨c', e, e1, h1, h2, _⟩
  · rw [e, e1]
    unfold plusC farC
    constructor
    · intro x
      have := congrArg Prod.fst x
      simp at this
      omega
    · intro x
      omega
  · rw [e, e1]
    unfold plusC
    constructor
    · intro x
      have a1 := congrArg Prod.fst x
      have a2 := congrArg Prod.snd x
      simp only at a1 a2
      omega
    · intro x
      refine Prod.ext ?_ ?_
      · simp only; omega
      · simp only; omega
def RelN (f : Nat) (m : Int) : Prop := (f = 64 ∧ m = -1) ∨ (f < 64 ∧ m = (f : Int))
theorem rel_step (h : Lc (turnL L) n b lab) (hn : n ≤ 64) (hb : b < n) (hl : Inn L n) {a c : Nat} (ha : gl lab a = (((c / 128 : Nat) : Int), ((c % 128 : Nat) : Int))) (hd : (costL n L b).getD a (-1) = (c : Int)) (hc : c / 128 < 68719476736) {e : Ed} (he : e ∈ L) {f : Nat} {m : Int} (hr : RelN f m) :
    RelN (if (e.1 == a) = true then stepN lab a f e else f) (stepR (costL n L b) a m e) := by
  have ht := (hl e he).2
  have hf := h.fits hn hb hl (w := e.2.2) ha hd hc ht
  unfold stepR
  by_cases e1 : e.1 = a
  · rw [if_pos (by rw [e1]; simp)]
    unfold stepN
    by_cases e2 : plusC (gl lab e.2.1) e.2.2 = gl lab a
    · rw [if_pos e2]
      obtain ⟨x1, x2⟩ := hf.1 e2
      rcases hr with ⟨rfl, rfl⟩ | ⟨h1, rfl⟩
      · rw [if_pos ⟨e1, x1, x2, .inl (by omega)⟩]
        exact .inr ⟨by omega, by omega⟩
      · by_cases e3 : e.2.1 < f
        · rw [if_pos ⟨e1, x1, x2, .inr (by omega)⟩]
          exact .inr ⟨by omega, by omega⟩
        · rw [if_neg (fun x => by have := x.2.2.2; omega)]
          exact .inr ⟨by omega, by omega⟩
    · rw [if_neg e2, if_neg (fun x => e2 (hf.2 ⟨x.2.1, x.2.2.1⟩))]
      exact hr
  · rw [if_neg (by simpa using e1), if_neg (fun x => e1 x.1)]
    exact hr
theorem rel_fold (h : Lc (turnL L) n b lab) (hn : n ≤ 64) (hb : b < n) (hl : Inn L n) {a c : Nat} (ha : gl lab a = (((c / 128 : Nat) : Int), ((c % 128 : Nat) : Int))) (hd : (costL n L b).getD a (-1) = (c : Int)) (hc : c / 128 < 68719476736) :
    ∀ (l : List Ed), (∀ e ∈ l, e ∈ L) → ∀ {f : Nat} {m : Int}, RelN f m → RelN (l.foldl (fun f e => if (e.1 == a) = true then stepN lab a f e else f) f) (l.foldl (stepR (costL n L b) a) m)
  | [], _, _, _, hr => hr
  | e :: l, hs, f, m, hr => by
    rw [List.foldl_cons, List.foldl_cons]
    exact rel_fold h hn hb hl ha hd hc l (fun x hx => hs x (List.mem_cons_of_mem _ hx)) (rel_step h hn hb hl ha hd hc (hs e (by simp)) hr)
/-- What the least node is. -/
theorem fold_spec (lab : List Ct) (a : Nat) : ∀ (l : List Ed) (f : Nat), (l.foldl (stepN lab a) f = f ∨ ∃ e ∈ l, plusC (gl lab e.2.1) e.2.2 = gl lab a ∧ l.foldl (stepN lab a) f = e.2.1) ∧ l.foldl (stepN lab a) f ≤ f ∧ ∀ e ∈ l, plusC (gl lab e.2.1) e.2.2 = gl lab a → l.foldl (stepN lab a) f ≤ e.2.1
  | [], f => ⟨.inl rfl, Nat.le_refl _, fun e he => by cases he⟩
  | e :: l, f => by
    rw [List.foldl_cons]
    obtain ⟨h1, h2, h3⟩ := fold_spec lab a l (stepN lab a f e)
    have hs : stepN lab a f e ≤ f ∧ (plusC (gl lab e.2.1) e.2.2 = gl lab a → stepN lab a f e ≤ e.2.1) ∧ (stepN lab a f e = f ∨ (plusC (gl lab e.2.1) e.2.2 = gl lab a ∧ stepN lab a f e = e.2.1)) := by
      unfold stepN
      by_cases x : plusC (gl lab e.2.1) e.2.2 = gl lab a
      · rw [if_pos x]
        refine ⟨by omega, fun _ => by omega, ?_⟩
        rcases Nat.le_total f e.2.1 with y | y
        · exact .inl (by omega)
        · exact .inr ⟨x, by omega⟩
      · rw [if_neg x]
        exact ⟨Nat.le_refl _, fun y => absurd y x, .inl rfl⟩
    refine ⟨?_, by omega, fun d hd hx => ?_⟩
    · rcases h1 with h1 | ⟨d, hd, x, h1⟩
      · rw [h1]
        rcases hs.2.2 with y | ⟨x, y⟩
        · exact .inl y
        · exact .inr ⟨e, by simp, x, y⟩
      · exact .inr ⟨d, List.mem_cons_of_mem _ hd, x, h1⟩
    · rcases List.mem_cons.1 hd with rfl | hd
      · have := hs.2.1 hx
        omega
      · exact h3 d hd hx
/-- From a node with a way of one edge or more there is a least next one. -/
theorem Lc.next (h : Lc (turnL L) n b lab) (hn : n ≤ 64) (hb : b < n) (hl : Inn L n) {a c : Nat} (hm : Mn 128 L b a c) (ha : gl lab a = (((c / 128 : Nat) : Int), ((c % 128 : Nat) : Int))) (hd : (costL n L b).getD a (-1) = (c : Int)) (hc : c / 128 < 68719476736) (h0 : 0 < c % 128) :
    ∃ w c' : Nat, (a, nxt L lab a, w) ∈ L ∧ nxt L lab a < n ∧ c = c' + w * 128 + 1 ∧ Mn 128 L b (nxt L lab a) c' ∧ c' % 128 + 1 = c % 128 ∧ gl lab (nxt L lab a) = (((c' / 128 : Nat) : Int), ((c' % 128 : Nat) : Int)) ∧ (costL n L b).getD (nxt L lab a) (-1) = (c' : Int) ∧ nxtR L (costL n L b) a = (nxt L lab a : Int) := by
  obtain ⟨k, hk⟩ := hm.1
  have ex : ∃ e ∈ outs L a, plusC (gl lab e.2.1) e.2.2 = gl lab a := by
    cases k with
    | zero => have := hk.2; omega
    | succ k =>
      obtain ⟨m, w, c', he, hw, e⟩ := hk
      have ht := (hl _ he).2
      subst e
      have hm' := Mn.tail he hw hm
      rcases h.at hn hb hl ht with ⟨_, _, hno⟩ | ⟨c2, e1, e2, h1, h2, h3⟩
      · obtain ⟨W, hW, _⟩ := hw.wl
        exact absurd hW (hno _ _)
      · rw [← hm'.uniq h3] at e1 e2 h1 h2
        exact ⟨(a, m, w), mem_outs.2 ⟨he, rfl⟩, (h.fits hn hb hl (t := m) (w := w) ha hd hc ht).2 ⟨by rw [e2]; omega, by rw [e2, hd]; omega⟩⟩
  obtain ⟨e, he, hx⟩ := ex
  obtain ⟨h1, h2, h3⟩ := fold_spec lab a (outs L a) 64
  have hlt : nxt L lab a < 64 := by
    have := h3 e he hx
    have := (hl e (mem_outs.1 he).1).2
    unfold nxt
    omega
  rcases h1 with h1 | ⟨d, hd', hy, h1⟩
  · unfold nxt at hlt
    omega
  · change nxt L lab a = d.2.1 at h1
    obtain ⟨hdL, hda⟩ := mem_outs.1 hd'
    have ht := (hl d hdL).2
    obtain ⟨x1, x2⟩ := (h.fits hn hb hl ha hd hc ht).1 hy
    rw [h1]
    rcases h.at hn hb hl ht with ⟨_, e2, _⟩ | ⟨c2, e1, e2, y1, y2, y3⟩
    · omega
    · refine ⟨d.2.2, c2, ?_, ht, by omega, y3, by omega, e1, e2, ?_⟩
      · rw [← hda]; exact hdL
      · have hr := rel_fold h hn hb hl ha hd hc L (fun _ hx => hx) (f := 64) (m := -1) (.inl ⟨rfl, rfl⟩)
        have he : L.foldl (fun f e => if (e.1 == a) = true then stepN lab a f e else f) 64 = nxt L lab a := by
          unfold nxt outs
          rw [List.foldl_filter]
        rw [he, h1] at hr
        have hd2 : d.2.1 < 64 := by omega
        rcases hr with ⟨r1, _⟩ | ⟨_, r2⟩
        · omega
        · exact r2
/-- The whole way: K edges from s to b. -/
theorem Lc.path (h : Lc (turnL L) n b lab) (hn : n ≤ 64) (hb : b < n) (hl : Inn L n) {s c : Nat} (hs : s < n) (hm : Mn 128 L b s c) (ha : gl lab s = (((c / 128 : Nat) : Int), ((c % 128 : Nat) : Int))) (hd : (costL n L b).getD s (-1) = (c : Int)) (hc : c / 128 < 68719476736) :
    ∀ j, j ≤ c % 128 → nd L lab s j < n ∧ ∃ x : Nat, Mn 128 L b (nd L lab s j) x ∧ gl lab (nd L lab s j) = (((x / 128 : Nat) : Int), ((x % 128 : Nat) : Int)) ∧ (costL n L b).getD (nd L lab s j) (-1) = (x : Int) ∧ x / 128 < 68719476736 ∧ x % 128 + j = c % 128 := by
  intro j
  induction j with
  | zero => intro _; exact ⟨hs, c, hm, ha, hd, hc, rfl⟩
  | succ j ih =>
    intro hj
    obtain ⟨h1, x, x1, x2, x3, x4, x5⟩ := ih (by omega)
    obtain ⟨w, c', e1, e2, e3, e4, e5, e6, e7, _⟩ := h.next hn hb hl x1 x2 x3 x4 (by omega)
    exact ⟨e2, c', e4, e6, e7, by omega, by omega⟩
theorem mn_zero {x a : Nat} (hl : Inn L n) (hb : b < n) (hn : n ≤ 64) (h : Mn 128 L b a x) (h0 : x % 128 = 0) : a = b := by
  obtain ⟨-, ⟨k, hk, -, hw⟩, -⟩ := h.dist hl hb (by omega)
  rw [h0] at hk
  subst hk
  exact hw.1
theorem mn_self (L : List Ed) (b : Nat) : Mn 128 L b b 0 := ⟨⟨0, Wk.nil _ _ _⟩, fun _ _ _ => Nat.zero_le _⟩
/-- The list of the nodes of the way. -/
def pathN (L : List Ed) (lab : List Ct) (s k : Nat) : List Int := (List.range k).map fun j => ((nd L lab s j : Nat) : Int)
theorem pathN_len (L : List Ed) (lab : List Ct) (s k : Nat) : (pathN L lab s k).length = k := by unfold pathN; rw [List.length_map, List.length_range]
theorem pathN_succ (L : List Ed) (lab : List Ct) (s k : Nat) : pathN L lab s (k + 1) = pathN L lab s k ++ [((nd L lab s k : Nat) : Int)] := by unfold pathN; rw [List.range_succ, List.map_append]; rfl
theorem pathN_at (L : List Ed) (lab : List Ct) (s k : Nat) {j : Nat} (h : j < k) : (pathN L lab s k)[j]? = some ((nd L lab s j : Nat) : Int) := by
  unfold pathN
  rw [List.getElem?_map, List.getElem?_range h]
  rfl

/-! ### The least length of the edges between two nodes -/
def stepW (a t : Nat) (w : Int) (e : Ed) : Int := if e.1 = a ∧ e.2.1 = t ∧ (w < 0 ∨ (e.2.2 : Int) < w) then (e.2.2 : Int) else w
def leastW (L : List Ed) (a t : Nat) : Int := L.foldl (stepW a t) (-1)
theorem leastW_spec (a t : Nat) : ∀ (l : List Ed) (w : Int), ((∃ e ∈ l, e.1 = a ∧ e.2.1 = t ∧ l.foldl (stepW a t) w = (e.2.2 : Int)) ∨ l.foldl (stepW a t) w = w) ∧ (0 ≤ w → 0 ≤ l.foldl (stepW a t) w ∧ l.foldl (stepW a t) w ≤ w) ∧ ∀ e ∈ l, e.1 = a → e.2.1 = t → 0 ≤ l.foldl (stepW a t) w ∧ l.foldl (stepW a t) w ≤ (e.2.2 : Int)
  | [], w => ⟨.inr rfl, fun h => ⟨h, Int.le_refl _⟩, fun e he => by cases he⟩
  | e :: l, w => by
    rw [List.foldl_cons]
    obtain ⟨h1, h2, h3⟩ := leastW_spec a t l (stepW a t w e)
    have hs : (stepW a t w e = w ∨ (e.1 = a ∧ e.2.1 = t ∧ stepW a t w e = (e.2.2 : Int))) ∧ (0 ≤ w → 0 ≤ stepW a t w e ∧ stepW a t w e ≤ w) ∧ (e.1 = a → e.2.1 = t → 0 ≤ stepW a t w e ∧ stepW a t w e ≤ (e.2.2 : Int)) := by
      unfold stepW
      by_cases x : e.1 = a ∧ e.2.1 = t ∧ (w < 0 ∨ (e.2.2 : Int) < w)
      · rw [if_pos x]
        exact ⟨.inr ⟨x.1, x.2.1, rfl⟩, fun _ => by omega, fun _ _ => by omega⟩
      · rw [if_neg x]
        refine ⟨.inl rfl, fun _ => by omega, fun y z => ?_⟩
        have : ¬ (w < 0 ∨ (e.2.2 : Int) < w) := fun u => x ⟨y, z, u⟩
        omega
    refine ⟨?_, fun h => ?_, fun d hd y z => ?_⟩
    · rcases h1 with ⟨d, hd, y, z, h1⟩ | h1
      · exact .inl ⟨d, List.mem_cons_of_mem _ hd, y, z, h1⟩
      · rw [h1]
        rcases hs.1 with u | ⟨y, z, u⟩
        · exact .inr u
        · exact .inl ⟨e, by simp, y, z, u⟩
    · have a1 := hs.2.1 h
      have a2 := h2 a1.1
      omega
    · rcases List.mem_cons.1 hd with rfl | hd
      · have a1 := hs.2.2 y z
        have a2 := h2 a1.1
        omega
      · exact h3 d hd y z
/-- On a least way the least length of the edges is what the cost falls by. -/
theorem leastW_tight {a t w c : Nat} (he : (a, t, w) ∈ L) (hm : Mn 128 L b a (c + w * 128 + 1)) (ht : Mn 128 L b t c) : leastW L a t = (w : Int) := by
  obtain ⟨h1, _, h3⟩ := leastW_spec a t L (-1)
  have h4 := h3 _ he rfl rfl
  unfold leastW
  rcases h1 with ⟨e, hm', y, z, h1⟩ | h1
  · obtain ⟨x, u, v⟩ := e
    simp only at y z h1
    subst y z
    obtain ⟨k, hk⟩ := ht.1
    have := hm.2 _ _ (Wk.cons hm' hk)
    simp only at h4
    omega
  · omega
end Go.Proofs.Ytibakhobgfiklaa
namespace Go.Proofs.Ytibakhobgfiklaa
open Go

/-- From i one comes to the root r. -/
inductive Rt (par : List Int) : Nat → Nat → Prop
  | root {i : Nat} : par.getD i 0 = (i : Int) → Rt par i i
  | step {i p r : Nat} : par.getD i 0 = (p : Int) → p < i → Rt par p r → Rt par i r
variable {par : List Int} {L : List Ed} {n : Nat}
theorem Rt.is_root {i r : Nat} (h : Rt par i r) : par.getD r 0 = (r : Int) := by
  induction h with
  | root h => exact h
  | step _ _ _ ih => exact ih
theorem Rt.le {i r : Nat} (h : Rt par i r) : r ≤ i := by
  induction h with
  | root _ => exact Nat.le_refl _
  | step _ h _ ih => omega
theorem Rt.uniq {i r s : Nat} (h : Rt par i r) (h' : Rt par i s) : r = s := by
  induction h with
  | root h =>
    cases h' with
    | root _ => rfl
    | step a b c => omega
  | step h1 h2 h3 ih =>
    cases h' with
    | root a => omega
    | step a b c =>
      rename_i p r p'
      have : p = p' := by omega
      subst this
      exact ih c
/-- The state: each node leads to an earlier one that is connected with it. -/
structure Uf (L : List Ed) (n : Nat) (par : List Int) : Prop where
  len : par.length = n
  low : ∀ i, i < n → ∃ p : Nat, par.getD i 0 = (p : Int) ∧ p ≤ i ∧ Cn L i p
theorem Uf.rt (h : Uf L n par) : ∀ i, i < n → ∃ r, Rt par i r := by
  intro i
  induction i using Nat.strongRecOn with
  | ind i ih =>
    intro hi
    obtain ⟨p, hp, hle, _⟩ := h.low i hi
    by_cases e : p = i
    · subst e; exact ⟨p, .root hp⟩
    · obtain ⟨r, hr⟩ := ih p (by omega) (by omega)
      exact ⟨r, .step hp (by omega) hr⟩
theorem Uf.cn (h : Uf L n par) {i r : Nat} (hr : Rt par i r) : i < n → Cn L i r := by
  induction hr with
  | root _ => intro _; exact Cn.refl _ _
  | step a b c ih =>
    intro hi
    obtain ⟨p, hp, hle, hc⟩ := h.low _ hi
    rw [a] at hp
    have := Int.ofNat.inj hp
    subst this
    exact hc.trans (ih (by omega))
theorem uf_start (L : List Ed) (n : Nat) : Uf L n (labS n) := ⟨labS_length n, fun i hi => ⟨i, labS_at hi, Nat.le_refl _, Cn.refl _ _⟩⟩
theorem getI_set {d : List Int} {i j : Nat} {x : Int} (hi : i < d.length) : (d.set i x).getD j 0 = if i = j then x else d.getD j 0 := by
  rw [getD_set]
  by_cases h : i = j
  · rw [if_pos ⟨h, hi⟩, if_pos h]
  · rw [if_neg (fun x => h x.1), if_neg h]
/-- Two roots are joined: the greater one leads to the smaller one. -/
theorem Rt.join {x y : Nat} (hx : x < par.length) (hxy : y < x) (rx : par.getD x 0 = (x : Int)) (ry : par.getD y 0 = (y : Int)) {i r : Nat} (h : Rt par i r) : Rt (par.set x (y : Int)) i (if r = x then y else r) := by
  have gy : (par.set x (y : Int)).getD y 0 = (y : Int) := by rw [getI_set hx, if_neg (by omega)]; exact ry
  have gx : (par.set x (y : Int)).getD x 0 = (y : Int) := by rw [getI_set hx, if_pos rfl]
  induction h with
  | root h =>
    rename_i i
    by_cases e : i = x
    · subst e
      rw [if_pos rfl]
      exact .step gx hxy (.root gy)
    · rw [if_neg e]
      exact .root (by rw [getI_set hx, if_neg (fun a => e a.symm)]; exact h)
  | step a b c ih =>
    rename_i i p r
    have e : ¬ x = i := fun e => by subst e; omega
    exact .step (by rw [getI_set hx, if_neg e]; exact a) b ih
theorem Rt.same {i r : Nat} {x : Nat} (hx : x < par.length) (rx : par.getD x 0 = (x : Int)) (h : Rt par i r) : Rt (par.set x (x : Int)) i r := by
  have e : ∀ j, (par.set x (x : Int)).getD j 0 = par.getD j 0 := fun j => by
    rw [getI_set hx]
    split
    · next h => rw [← h, rx]
    · rfl
  induction h with
  | root h => exact .root (by rw [e]; exact h)
  | step a b c ih => exact .step (by rw [e]; exact a) b ih
/-- Each edge so far joins nodes of one root. -/
def Jn (par : List Int) (es : List Ed) : Prop := ∀ e ∈ es, ∃ r, Rt par e.1 r ∧ Rt par e.2.1 r
theorem Uf.merge {es : List Ed} {e : Ed} (h : Uf L n par) (hj : Jn par es) (he : e ∈ L) (hl : Inn L n) {x y : Nat} (hx : Rt par e.1 x) (hy : Rt par e.2.1 y) : Uf L n (par.set (max x y) ((min x y : Nat) : Int)) ∧ Jn (par.set (max x y) ((min x y : Nat) : Int)) (es ++ [e]) := by
  have hn := hl e he
  have hxn : x < n := Nat.lt_of_le_of_lt hx.le hn.1
  have hyn : y < n := Nat.lt_of_le_of_lt hy.le hn.2
  have hc : Cn L x y := ((h.cn hx hn.1).symm.trans (Cn.edge (w := e.2.2) he)).trans (h.cn hy hn.2)
  have hml : max x y < par.length := by rw [h.len]; omega
  have cmm : Cn L (max x y) (min x y) := by
    rcases Nat.le_total x y with a | a
    · rw [Nat.max_eq_right a, Nat.min_eq_left a]; exact hc.symm
    · rw [Nat.max_eq_left a, Nat.min_eq_right a]; exact hc
  refine ⟨⟨by rw [List.length_set]; exact h.len, fun i hi => ?_⟩, ?_⟩
  · rw [getI_set hml]
    split
    · next e =>
      subst e
      exact ⟨_, rfl, by omega, cmm⟩
    · exact h.low i hi
  · -- how the roots turn
    have key : ∀ {i j r : Nat}, Rt par i r → Rt par j r → ∃ s, Rt (par.set (max x y) ((min x y : Nat) : Int)) i s ∧ Rt (par.set (max x y) ((min x y : Nat) : Int)) j s := by
      intro i j r hi hj
      rcases Nat.lt_trichotomy x y with a | a | a
      · rw [Nat.max_eq_right (Nat.le_of_lt a), Nat.min_eq_left (Nat.le_of_lt a)]
        exact ⟨_, hi.join (by omega) a hy.is_root hx.is_root, hj.join (by omega) a hy.is_root hx.is_root⟩
      · subst a
        rw [Nat.max_self, Nat.min_self]
        exact ⟨_, hi.same (by omega) hx.is_root, hj.same (by omega) hx.is_root⟩
      · rw [Nat.max_eq_left (Nat.le_of_lt a), Nat.min_eq_right (Nat.le_of_lt a)]
        exact ⟨_, hi.join (by omega) a hx.is_root hy.is_root, hj.join (by omega) a hx.is_root hy.is_root⟩
    intro d hd
    rcases List.mem_append.1 hd with hd | hd
    · obtain ⟨r, h1, h2⟩ := hj d hd
      exact key h1 h2
    · obtain rfl := List.mem_singleton.1 hd
      rcases Nat.lt_trichotomy x y with a | a | a
      · rw [Nat.max_eq_right (Nat.le_of_lt a), Nat.min_eq_left (Nat.le_of_lt a)]
        have h1 := hx.join (by omega) a hy.is_root hx.is_root
        have h2 := hy.join (by omega) a hy.is_root hx.is_root
        rw [if_neg (by omega)] at h1
        rw [if_pos rfl] at h2
        exact ⟨x, h1, h2⟩
      · subst a
        rw [Nat.max_self, Nat.min_self]
        exact ⟨x, hx.same (by omega) hx.is_root, hy.same (by omega) hx.is_root⟩
      · rw [Nat.max_eq_left (Nat.le_of_lt a), Nat.min_eq_right (Nat.le_of_lt a)]
        have h1 := hx.join (by omega) a hx.is_root hy.is_root
        have h2 := hy.join (by omega) a hx.is_root hy.is_root
        rw [if_pos rfl] at h1
        rw [if_neg (by omega)] at h2
        exact ⟨y, h1, h2⟩
/-- At the end the root is the first node. -/
theorem Uf.fst (h : Uf L n par) (hj : Jn par L) (hl : Inn L n) {i : Nat} (hi : i < n) {r : Nat} (hr : Rt par i r) : Fst L i r := by
  refine ⟨h.cn hr hi, fun b hc => ?_⟩
  -- connected nodes have one root
  have key : ∀ {k a W : Nat}, Wl (bothL L) b k a W → a < n → ∀ {s : Nat}, Rt par a s → Rt par b s := by
    intro k
    induction k with
    | zero => rintro a W ⟨rfl, _⟩ _ s hs; exact hs
    | succ k ih =>
      rintro a W ⟨m, w, V, he, hw, _⟩ ha s hs
      have hin := hl.both _ he
      refine ih hw hin.2 ?_
      rcases List.mem_append.1 he with he | he
      · obtain ⟨q, h1, h2⟩ := hj _ he
        rw [hs.uniq h1]
        exact h2
      · have he' := mem_turn he
        rw [turn_turn] at he'
        obtain ⟨q, h1, h2⟩ := hj _ he'
        rw [hs.uniq h2]
        exact h1
  obtain ⟨k, W, hw⟩ := hc
  exact (key hw hi hr).le
/-- The node that is led to is the first node exactly of a first node; the first node of what it leads to is its own. -/
theorem Uf.first (h : Uf L n par) (hj : Jn par L) (hl : Inn L n) {i : Nat} (hi : i < n) : (par.getD i 0 = (i : Int) ∧ (firstL n L).getD i 0 = (i : Int)) ∨ ∃ p : Nat, par.getD i 0 = (p : Int) ∧ p < i ∧ (firstL n L).getD i 0 ≠ (i : Int) ∧ (firstL n L).getD p 0 = (firstL n L).getD i 0 := by
  obtain ⟨f, hf, hF⟩ := firstL_spec hl hi
  obtain ⟨r, hr⟩ := h.rt i hi
  have e := hF.uniq (h.fst hj hl hi hr)
  subst e
  cases hr with
  | root a => exact .inl ⟨a, hf⟩
  | step a b c =>
    rename_i p
    have hp : p < n := by omega
    obtain ⟨g, hg, hG⟩ := firstL_spec hl hp
    have e2 := hG.uniq (h.fst hj hl hp c)
    subst e2
    refine .inr ⟨p, a, b, ?_, by rw [hf, hg]⟩
    rw [hf]
    have := c.le
    omega
/-- The reference's numbers, one after another. -/
theorem comp_first {i : Nat} (hl : Inn L n) (hi : i < n) : ∃ f : Nat, (firstL n L).getD i 0 = (f : Int) ∧ f ≤ i ∧ (firstL n L).getD f 0 = (f : Int) := by
  obtain ⟨f, hf, hF⟩ := firstL_spec hl hi
  have hfi : f ≤ i := hF.2 _ (Cn.refl _ _)
  obtain ⟨g, hg, hG⟩ := firstL_spec hl (show f < n by omega)
  have := hG.uniq hF.same
  subst this
  exact ⟨g, hf, hfi, hg⟩
/-- What stands in the list of numbers. -/
theorem num_root {f : List Int} {i : Nat} (hi : i < f.length) (h : f.getD i 0 = (i : Int)) : (compL f)[i]? = some ((rank f i : Nat) : Int) := by
  rw [compL_at hi, h]
  rfl
theorem num_same {f : List Int} {i p : Nat} (hi : i < f.length) (hp : p < f.length) (h : f.getD p 0 = f.getD i 0) : (compL f)[i]? = (compL f)[p]? := by
  rw [compL_at hi, compL_at hp, h]
end Go.Proofs.Ytibakhobgfiklaa
namespace Go.Proofs.Ytibakhobgfiklaa
open Go

/-- A comparison, and the strict order that it tells where the elements' places decide what it leaves open. -/
structure Ord {α : Type} (cf : α → α → Int) (lt : α → α → Prop) : Prop where
  trans : ∀ {x y z : α}, lt x y → lt y z → lt x z
  less : ∀ {x y : α}, cf x y < 0 → lt x y
  tie : ∀ {x y : α}, ¬ cf y x < 0 → (cf x y = 0 → lt x y) → lt x y
/-- What the comparison leaves open between two rows goes for the first one. -/
def Crs {α : Type} (cf : α → α → Int) (lt : α → α → Prop) (X Y : List α) : Prop := ∀ x ∈ X, ∀ y ∈ Y, cf x y = 0 → lt x y
section
variable {α : Type} {cf : α → α → Int} {lt : α → α → Prop}
theorem Crs.sub {X Y X' Y' : List α} (h : Crs cf lt X Y) (hX : ∀ x ∈ X', x ∈ X) (hY : ∀ y ∈ Y', y ∈ Y) : Crs cf lt X' Y' := fun x hx y hy => h x (hX x hx) y (hY y hy)

/-! ### Exchanges -/
theorem swp_mid (P Q R : List α) (u v : α) {i j : Nat} (hi : i = P.length) (hj : j = P.length + 1 + Q.length) :
    (P ++ u :: (Q ++ v :: R))[i]? = some u ∧ (P ++ u :: (Q ++ v :: R))[j]? = some v ∧ ((P ++ u :: (Q ++ v :: R)).set i v).set j u = P ++ v :: (Q ++ u :: R) := by
  subst hi
  subst hj
  refine ⟨by simp, ?_, ?_⟩
  · rw [List.getElem?_append_right (by omega), show P.length + 1 + Q.length - P.length = Q.length + 1 by omega, List.getElem?_cons_succ, List.getElem?_append_right (Nat.le_refl _)]
    simp
  · rw [List.set_append_right _ _ (Nat.le_refl _), Nat.sub_self, List.set_cons_zero, List.set_append_right _ _ (by omega), show P.length + 1 + Q.length - P.length = Q.length + 1 by omega, List.set_cons_succ, List.set_append_right _ _ (Nat.le_refl _), Nat.sub_self, List.set_cons_zero]
theorem swp_up (P R : List α) (u v : α) {i j : Nat} (hi : i = P.length) (hj : j = P.length + 1) :
    (P ++ u :: v :: R)[i]? = some u ∧ (P ++ u :: v :: R)[j]? = some v ∧ ((P ++ u :: v :: R).set i v).set j u = P ++ v :: u :: R := by
  subst hj
  exact swp_mid P [] R u v hi rfl
theorem swp_down (P R : List α) (u v : α) {i j : Nat} (hi : i = P.length) (hj : j = P.length + 1) :
    (P ++ u :: v :: R)[i]? = some u ∧ (P ++ u :: v :: R)[j]? = some v ∧ ((P ++ u :: v :: R).set j u).set i v = P ++ v :: u :: R := by
  obtain ⟨h1, h2, h3⟩ := swp_up P R u v hi hj
  refine ⟨h1, h2, ?_⟩
  rw [List.set_comm _ _ (by omega)]
  exact h3
/-- Two ranges in the middle of being exchanged. -/
def srS (A U C V B : List α) (i : Nat) : List α := A ++ (V.take i ++ (U.drop i ++ (C ++ (U.take i ++ (V.drop i ++ B)))))
section
variable {A U C V B : List α} {n i : Nat}
theorem sr_start : srS A U C V B 0 = A ++ (U ++ (C ++ (V ++ B))) := by unfold srS; simp
theorem sr_end (hU : U.length = n) (hV : V.length = n) : srS A U C V B n = A ++ (V ++ (C ++ (U ++ B))) := by
  unfold srS
  rw [List.take_of_length_le (Nat.le_of_eq hV), List.drop_eq_nil_of_le (Nat.le_of_eq hU), List.take_of_length_le (Nat.le_of_eq hU), List.drop_eq_nil_of_le (Nat.le_of_eq hV)]
  simp
theorem sr_len (hU : U.length = n) (hV : V.length = n) (hi : i ≤ n) : (srS A U C V B i).length = A.length + n + C.length + n + B.length := by
  unfold srS
  simp only [List.length_append, List.length_take, List.length_drop, hU, hV]
  omega
theorem sr_step (hU : U.length = n) (hV : V.length = n) (hi : i < n) : ∃ u v, (srS A U C V B i)[A.length + i]? = some u ∧ (srS A U C V B i)[A.length + n + C.length + i]? = some v ∧ ((srS A U C V B i).set (A.length + i) v).set (A.length + n + C.length + i) u = srS A U C V B (i + 1) := by
  have iu : i < U.length := by omega
  have iv : i < V.length := by omega
  have du : U.drop i = U[i] :: U.drop (i + 1) := List.drop_eq_getElem_cons iu
  have dv : V.drop i = V[i] :: V.drop (i + 1) := List.drop_eq_getElem_cons iv
  have tu : U.take (i + 1) = U.take i ++ [U[i]] := List.take_succ_eq_append_getElem iu
  have tv : V.take (i + 1) = V.take i ++ [V[i]] := List.take_succ_eq_append_getElem iv
  have e1 : srS A U C V B i = (A ++ V.take i) ++ U[i] :: ((U.drop (i + 1) ++ (C ++ U.take i)) ++ V[i] :: (V.drop (i + 1) ++ B)) := by
    unfold srS
    rw [du, dv]
    simp only [List.append_assoc, List.cons_append]
  have e2 : srS A U C V B (i + 1) = (A ++ V.take i) ++ V[i] :: ((U.drop (i + 1) ++ (C ++ U.take i)) ++ U[i] :: (V.drop (i + 1) ++ B)) := by
    unfold srS
    rw [tu, tv]
    simp only [List.append_assoc, List.cons_append, List.nil_append]
  rw [e1, e2]
  refine ⟨U[i], V[i], swp_mid _ _ _ _ _ ?_ ?_⟩
  · simp only [List.length_append, List.length_take]
    omega
  · simp only [List.length_append, List.length_take, List.length_drop]
    omega
end

/-! ### Insertion -/
theorem ins_sorted (O : Ord cf lt) {Z1 Z2 : List α} {x : α} (hs : (Z1 ++ Z2).Pairwise lt) (h1 : Z1 = [] ∨ ∃ P z, Z1 = P ++ [z] ∧ lt z x) (h2 : ∀ z ∈ Z2, lt x z) : (Z1 ++ x :: Z2).Pairwise lt := by
  obtain ⟨s1, s2, s3⟩ := List.pairwise_append.1 hs
  have lo : ∀ z ∈ Z1, lt z x := by
    rcases h1 with rfl | ⟨P, z, rfl, hz⟩
    · intro z hz; cases hz
    · intro y hy
      rcases List.mem_append.1 hy with hy | hy
      · exact O.trans ((List.pairwise_append.1 s1).2.2 y hy z (List.mem_singleton.2 rfl)) hz
      · rw [List.mem_singleton.1 hy]; exact hz
  refine List.pairwise_append.2 ⟨s1, List.pairwise_cons.2 ⟨h2, s2⟩, fun y hy z hz => ?_⟩
  rcases List.mem_cons.1 hz with rfl | hz
  · exact lo y hy
  · exact s3 y hy z hz
theorem ins_perm {Z1 Z2 X R : List α} {x : α} (h : (Z1 ++ Z2).Perm X) (_ : R = R) : (Z1 ++ x :: Z2).Perm (X ++ [x]) :=
  (List.perm_middle).trans ((List.Perm.cons x h).trans (List.perm_append_singleton x X).symm)

/-! ### A merge -/
section
variable {X Y : List α}
/-- All below an element that lies below: a sorted row's beginning. -/
theorem low_take (O : Ord cf lt) (hs : X.Pairwise lt) {t : Nat} {x z : α} (hx : X[t]? = some x) (h : lt x z) : ∀ y ∈ X.take (t + 1), lt y z := by
  have ht := (List.getElem?_eq_some_iff.1 hx).1
  have hd := List.take_append_drop t X
  intro y hy
  rw [List.take_succ_eq_append_getElem ht] at hy
  have hx' : X[t] = x := (List.getElem?_eq_some_iff.1 hx).2
  rw [hx'] at hy
  rcases List.mem_append.1 hy with hy | hy
  · rw [← hd] at hs
    have := (List.pairwise_append.1 hs).2.2 y hy x (by rw [List.drop_eq_getElem_cons ht, hx']; exact List.mem_cons_self)
    exact O.trans this h
  · rw [List.mem_singleton.1 hy]; exact h
theorem high_drop (O : Ord cf lt) (hs : X.Pairwise lt) {t : Nat} {x z : α} (hx : X[t]? = some x) (h : lt z x) : ∀ y ∈ X.drop t, lt z y := by
  have ht := (List.getElem?_eq_some_iff.1 hx).1
  have hx' : X[t] = x := (List.getElem?_eq_some_iff.1 hx).2
  intro y hy
  have hd : X.drop t = x :: X.drop (t + 1) := by rw [List.drop_eq_getElem_cons ht, hx']
  rw [hd] at hy
  have hs2 : (X.drop t).Pairwise lt := hs.sublist (List.drop_sublist _ _)
  rw [hd] at hs2
  rcases List.mem_cons.1 hy with rfl | hy
  · exact h
  · exact O.trans h ((List.pairwise_cons.1 hs2).1 y hy)
/-- An element between a beginning and an end of a sorted row. -/
theorem mid_sorted (hs : X.Pairwise lt) {t : Nat} {z : α} (h1 : ∀ y ∈ X.take t, lt y z) (h2 : ∀ y ∈ X.drop t, lt z y) : (X.take t ++ z :: X.drop t).Pairwise lt := by
  have hd := List.take_append_drop t X
  rw [← hd] at hs
  obtain ⟨s1, s2, s3⟩ := List.pairwise_append.1 hs
  refine List.pairwise_append.2 ⟨s1, List.pairwise_cons.2 ⟨h2, s2⟩, fun a ha b hb => ?_⟩
  rcases List.mem_cons.1 hb with rfl | hb
  · exact h1 a ha
  · exact s3 a ha b hb
theorem mid_perm (t : Nat) (z : α) : (X.take t ++ z :: X.drop t).Perm (z :: X) := by
  have := (List.perm_middle (a := z) (l₁ := X.take t) (l₂ := X.drop t))
  rw [List.take_append_drop] at this
  exact this
/-- Two sorted halves, the one below the other. -/
theorem halves {X1 X2 Y1 Y2 Z1 Z2 : List α} (p1 : Z1.Perm (X1 ++ Y1)) (p2 : Z2.Perm (X2 ++ Y2)) (s1 : Z1.Pairwise lt) (s2 : Z2.Pairwise lt) (h : ∀ a ∈ X1 ++ Y1, ∀ b ∈ X2 ++ Y2, lt a b) : (Z1 ++ Z2).Pairwise lt :=
  List.pairwise_append.2 ⟨s1, s2, fun a ha b hb => h a (p1.mem_iff.1 ha) b (p2.mem_iff.1 hb)⟩
theorem halves_perm {X1 X2 Y1 Y2 Z1 Z2 : List α} (p1 : Z1.Perm (X1 ++ Y1)) (p2 : Z2.Perm (X2 ++ Y2)) : (Z1 ++ Z2).Perm ((X1 ++ X2) ++ (Y1 ++ Y2)) := by
  refine (p1.append p2).trans ?_
  rw [List.append_assoc, List.append_assoc]
  refine List.Perm.append_left X1 ?_
  rw [← List.append_assoc, ← List.append_assoc]
  exact List.Perm.append_right Y2 List.perm_append_comm
/-- The split that the search finds. -/
theorem sm_split (O : Ord cf lt) (sX : X.Pairwise lt) (sY : Y.Pairwise lt) {p q : Nat} (hp : p ≤ X.length)
    (h1 : p = 0 ∨ Y.length ≤ q ∨ ∃ x y, X[p - 1]? = some x ∧ Y[q]? = some y ∧ lt x y) (h2 : q = 0 ∨ X.length ≤ p ∨ ∃ x y, X[p]? = some x ∧ Y[q - 1]? = some y ∧ lt y x) :
    ∀ a ∈ X.take p ++ Y.take q, ∀ b ∈ X.drop p ++ Y.drop q, lt a b := by
  have eX := List.take_append_drop p X
  have eY := List.take_append_drop q Y
  have cX : ∀ a ∈ X.take p, ∀ b ∈ X.drop p, lt a b := by rw [← eX] at sX; exact (List.pairwise_append.1 sX).2.2
  have cY : ∀ a ∈ Y.take q, ∀ b ∈ Y.drop q, lt a b := by rw [← eY] at sY; exact (List.pairwise_append.1 sY).2.2
  have cXY : ∀ a ∈ X.take p, ∀ b ∈ Y.drop q, lt a b := by
    intro a ha b hb
    rcases h1 with rfl | h | ⟨x, y, hx, hy, h⟩
    · simp at ha
    · rw [List.drop_eq_nil_of_le h] at hb; cases hb
    · rcases Nat.eq_zero_or_pos p with h0 | h0
      · subst h0; simp at ha
      · have := low_take O sX hx h a (by rw [show p - 1 + 1 = p by omega]; exact ha)
        exact high_drop O sY hy this b hb
  have cYX : ∀ a ∈ Y.take q, ∀ b ∈ X.drop p, lt a b := by
    intro a ha b hb
    rcases h2 with rfl | h | ⟨x, y, hx, hy, h⟩
    · simp at ha
    · rw [List.drop_eq_nil_of_le h] at hb; cases hb
    · rcases Nat.eq_zero_or_pos q with h0 | h0
      · subst h0; simp at ha
      · have := low_take O sY hy h a (by rw [show q - 1 + 1 = q by omega]; exact ha)
        exact high_drop O sX hx this b hb
  intro a ha b hb
  rcases List.mem_append.1 ha with ha | ha <;> rcases List.mem_append.1 hb with hb | hb
  · exact cX a ha b hb
  · exact cXY a ha b hb
  · exact cYX a ha b hb
  · exact cY a ha b hb
end

/-! ### Blocks -/
/-- All blocks but the last one are so long, and the last one is not longer. -/
def BL (s : Nat) : List (List α) → Prop
  | [] => True
  | [C] => 0 < C.length ∧ C.length ≤ s
  | C :: D :: r => C.length = s ∧ BL s (D :: r)
/-- Sorted blocks: what the comparison leaves open goes for the earlier one. -/
structure Blk (cf : α → α → Int) (lt : α → α → Prop) (L0 : List α) (Cs : List (List α)) : Prop where
  perm : Cs.flatten.Perm L0
  sorted : ∀ C ∈ Cs, C.Pairwise lt
  crs : Cs.Pairwise (Crs cf lt)
theorem bl_cons {s : Nat} {C : List α} {r : List (List α)} (h : BL s (C :: r)) (hs : 0 < s) : 0 < C.length ∧ C.length ≤ s ∧ BL s r := by
  cases r with
  | nil => exact ⟨h.1, h.2, trivial⟩
  | cons D r => exact ⟨by rw [h.1]; exact hs, Nat.le_of_eq h.1, h.2⟩
theorem bl_more {s : Nat} {C D : List α} {r : List (List α)} (h : BL s (C :: D :: r)) : C.length = s := h.1
theorem bl_snoc {s : Nat} {E : List (List α)} (hE : BL s E) : ∀ {D : List (List α)}, (∀ C ∈ D, C.length = s) → BL s (D ++ E) ∨ s = 0
  | [], _ => .inl hE
  | [C], h => by
    cases E with
    | nil =>
      rcases Nat.eq_zero_or_pos s with h0 | h0
      · exact .inr h0
      · exact .inl ⟨by rw [h C List.mem_cons_self]; exact h0, Nat.le_of_eq (h C List.mem_cons_self)⟩
    | cons F r => exact .inl ⟨h C List.mem_cons_self, hE⟩
  | C :: D :: r, h => by
    rcases bl_snoc (D := D :: r) hE (fun B hB => h B (List.mem_cons_of_mem _ hB)) with h1 | h1
    · exact .inl ⟨h C List.mem_cons_self, h1⟩
    · exact .inr h1
theorem flat_len {s : Nat} : ∀ {D : List (List α)}, (∀ C ∈ D, C.length = s) → D.flatten.length = D.length * s
  | [], _ => by simp
  | C :: r, h => by
    rw [List.flatten_cons, List.length_append, flat_len (fun B hB => h B (List.mem_cons_of_mem _ hB)), h C List.mem_cons_self, List.length_cons, Nat.add_mul, Nat.one_mul, Nat.add_comm]
/-- Two blocks merged into one. -/
theorem Blk.merge {L0 X Y Z : List α} {D E : List (List α)} (h : Blk cf lt L0 (D ++ X :: Y :: E)) (hp : Z.Perm (X ++ Y)) (hs : Z.Pairwise lt) : Blk cf lt L0 (D ++ Z :: E) := by
  have hm : ∀ z ∈ Z, z ∈ X ∨ z ∈ Y := fun z hz => List.mem_append.1 (hp.mem_iff.1 hz)
  refine ⟨?_, fun C hC => ?_, ?_⟩
  · refine List.Perm.trans ?_ h.perm
    simp only [List.flatten_append, List.flatten_cons]
    refine List.Perm.append_left _ ?_
    rw [← List.append_assoc]
    exact hp.append_right _
  · rcases List.mem_append.1 hC with hC | hC
    · exact h.sorted C (List.mem_append_left _ hC)
    · rcases List.mem_cons.1 hC with rfl | hC
      · exact hs
      · exact h.sorted C (List.mem_append_right _ (List.mem_cons_of_mem _ (List.mem_cons_of_mem _ hC)))
  · obtain ⟨c1, c2, c3⟩ := List.pairwise_append.1 h.crs
    obtain ⟨x1, x2⟩ := List.pairwise_cons.1 c2
    obtain ⟨y1, y2⟩ := List.pairwise_cons.1 x2
    refine List.pairwise_append.2 ⟨c1, List.pairwise_cons.2 ⟨fun B hB z hz y hy => ?_, y2⟩, fun B hB C hC => ?_⟩
    · rcases hm z hz with hz | hz
      · exact x1 B (List.mem_cons_of_mem _ hB) z hz y hy
      · exact y1 B hB z hz y hy
    · rcases List.mem_cons.1 hC with rfl | hC
      · intro b hb z hz
        rcases hm z hz with hz | hz
        · exact c3 B hB X List.mem_cons_self b hb z hz
        · exact c3 B hB Y (List.mem_cons_of_mem _ List.mem_cons_self) b hb z hz
      · exact c3 B hB C (List.mem_cons_of_mem _ (List.mem_cons_of_mem _ hC))
/-- What the places leave open. -/
def Opn (cf : α → α → Int) (lt : α → α → Prop) (L : List α) : Prop := L.Pairwise fun x y => cf x y = 0 → lt x y
/-- Sorted blocks ahead of the rest. -/
structure Ahd (cf : α → α → Int) (lt : α → α → Prop) (L0 : List α) (Cs : List (List α)) (R : List α) : Prop where
  perm : (Cs.flatten ++ R).Perm L0
  sorted : ∀ C ∈ Cs, C.Pairwise lt
  crs : Cs.Pairwise (Crs cf lt)
  rest : ∀ C ∈ Cs, Crs cf lt C R
  opn : Opn cf lt R
theorem Ahd.start {L0 : List α} (h : Opn cf lt L0) : Ahd cf lt L0 [] L0 := ⟨by simp, fun C hC => absurd hC List.not_mem_nil, List.Pairwise.nil, fun C hC => absurd hC List.not_mem_nil, h⟩
theorem Ahd.next {L0 X Z R : List α} {Cs : List (List α)} (h : Ahd cf lt L0 Cs (X ++ R)) (hp : Z.Perm X) (hs : Z.Pairwise lt) : Ahd cf lt L0 (Cs ++ [Z]) R := by
  obtain ⟨o1, o2, o3⟩ := List.pairwise_append.1 h.opn
  refine ⟨?_, fun C hC => ?_, ?_, fun C hC => ?_, o2⟩
  · refine List.Perm.trans ?_ h.perm
    simp only [List.flatten_append, List.flatten_cons, List.flatten_nil, List.append_nil, List.append_assoc]
    refine List.Perm.append_left _ (hp.append_right _)
  · rcases List.mem_append.1 hC with hC | hC
    · exact h.sorted C hC
    · rw [List.mem_singleton.1 hC]; exact hs
  · refine List.pairwise_append.2 ⟨h.crs, List.pairwise_singleton _ _, fun B hB C hC => ?_⟩
    rw [List.mem_singleton.1 hC]
    exact (h.rest B hB).sub (fun _ hx => hx) (fun y hy => List.mem_append_left _ (hp.mem_iff.1 hy))
  · rcases List.mem_append.1 hC with hC | hC
    · exact (h.rest C hC).sub (fun _ hx => hx) (fun y hy => List.mem_append_right _ hy)
    · rw [List.mem_singleton.1 hC]
      exact fun x hx y hy => o3 x (hp.mem_iff.1 hx) y hy
theorem Ahd.opn_head {L0 X R : List α} {Cs : List (List α)} (h : Ahd cf lt L0 Cs (X ++ R)) : Opn cf lt X := (List.pairwise_append.1 h.opn).1
theorem Ahd.blk {L0 : List α} {Cs : List (List α)} (h : Ahd cf lt L0 Cs []) : Blk cf lt L0 Cs := ⟨by have := h.perm; rwa [List.append_nil] at this, h.sorted, h.crs⟩
/-- One block: sorted. -/
theorem Blk.one {L0 : List α} {Cs : List (List α)} (h : Blk cf lt L0 Cs) {s : Nat} (hs : 0 < s) (hb : BL s Cs) (hn : L0.length ≤ s) : Cs.flatten.Perm L0 ∧ Cs.flatten.Pairwise lt := by
  refine ⟨h.perm, ?_⟩
  match Cs, hb, h with
  | [], _, _ => exact List.Pairwise.nil
  | [C], _, h => simpa using h.sorted C List.mem_cons_self
  | C :: D :: r, hb, h =>
    exfalso
    have h1 := h.perm.length_eq
    have h2 : C.length = s := hb.1
    have h3 := (bl_cons hb.2 hs).1
    simp only [List.flatten_cons, List.length_append] at h1
    omega
theorem Blk.open {L0 : List α} {D E : List (List α)} {X Y : List α} (h : Blk cf lt L0 (D ++ X :: Y :: E)) : X.Pairwise lt ∧ Y.Pairwise lt ∧ Crs cf lt X Y := by
  obtain ⟨c1, c2, c3⟩ := List.pairwise_append.1 h.crs
  exact ⟨h.sorted X (by simp), h.sorted Y (by simp), (List.pairwise_cons.1 c2).1 Y List.mem_cons_self⟩
end
end Go.Proofs.Ytibakhobgfiklaa
namespace Go.Proofs.Ytibakhobgfiklaa
section
variable {α : Type}

/-- Exchange the elements i and j. -/
def swp {β : Type} (l : List β) (i j : Nat) : List β := match l[i]?, l[j]? with
  | some a, some b => (l.set i b).set j a
  | _, _ => l
theorem swp_len {β : Type} (l : List β) (i j : Nat) : (swp l i j).length = l.length := by
  unfold swp
  split <;> simp
theorem swp_eq {β : Type} {l : List β} {i j : Nat} {a b : β} (hi : l[i]? = some a) (hj : l[j]? = some b) : swp l i j = (l.set i b).set j a := by
  unfold swp
  rw [hi, hj]
theorem swp_perm {β : Type} (l : List β) (i j : Nat) : (swp l i j).Perm l := by
  unfold swp
  split
  · next a b hi hj =>
    obtain ⟨h1, h2⟩ := List.getElem?_eq_some_iff.1 hi
    obtain ⟨h3, h4⟩ := List.getElem?_eq_some_iff.1 hj
    subst h2 h4
    exact List.set_set_perm h1 h3
  · exact List.Perm.refl _
def tr (i j k : Nat) : Nat := if k = i then j else if k = j then i else k
theorem swp_at {β : Type} {l : List β} {i j : Nat} (hi : i < l.length) (hj : j < l.length) (k : Nat) : (swp l i j)[k]? = l[tr i j k]? := by
  rw [swp_eq (List.getElem?_eq_getElem hi) (List.getElem?_eq_getElem hj)]
  unfold tr
  rw [List.getElem?_set, List.getElem?_set]
  by_cases h1 : k = i
  · subst h1
    by_cases h2 : j = k
    · subst h2; simp [hj]
    · simp [h2, hi]
  · by_cases h2 : j = k
    · subst h2; simp [h1, hi, hj]
    · simp [h1, h2, Ne.symm h1, Ne.symm h2]

variable (less : α → α → Bool)
/-- a is less than b, or equivalent and numbered lower. -/
def bef (a b : α × Nat) : Bool := less a.1 b.1 || (decide (a.2 < b.2) && !less b.1 a.1)
def befAt (l : List (α × Nat)) (i j : Nat) : Bool := match l[i]?, l[j]? with
  | some a, some b => bef less a b
  | _, _ => false
theorem befAt_eq {l : List (α × Nat)} {i j : Nat} {a b : α × Nat} (hi : l[i]? = some a) (hj : l[j]? = some b) : befAt less l i j = bef less a b := by
  unfold befAt
  rw [hi, hj]
theorem befAt_lt {l : List (α × Nat)} {i j : Nat} (h : befAt less l i j = true) : i < l.length ∧ j < l.length := by
  unfold befAt at h
  split at h
  · next a b hi hj => exact ⟨(List.getElem?_eq_some_iff.1 hi).1, (List.getElem?_eq_some_iff.1 hj).1⟩
  · cases h
theorem befAt_swp {l : List (α × Nat)} {i j : Nat} (hi : i < l.length) (hj : j < l.length) (x y : Nat) : befAt less (swp l i j) x y = befAt less l (tr i j x) (tr i j y) := by
  unfold befAt
  rw [swp_at hi hj, swp_at hi hj]

/-- The element i moves towards the first one. -/
def raise (l : List (α × Nat)) (i : Nat) : List (α × Nat) := if _h : 0 < i ∧ befAt less l i ((i - 1) / 2) = true then raise (swp l i ((i - 1) / 2)) ((i - 1) / 2) else l
termination_by i
decreasing_by omega
def kid (l : List (α × Nat)) (i : Nat) : Nat := if 2 * i + 2 < l.length ∧ befAt less l (2 * i + 2) (2 * i + 1) = true then 2 * i + 2 else 2 * i + 1
theorem kid_gt (l : List (α × Nat)) (i : Nat) : i < kid less l i := by
  unfold kid
  split <;> omega
/-- The element i moves away from the first one. -/
def lower (l : List (α × Nat)) (i : Nat) : List (α × Nat) := if _h : kid less l i < l.length ∧ befAt less l (kid less l i) i = true then lower (swp l i (kid less l i)) (kid less l i) else l
termination_by l.length - i
decreasing_by
  rw [swp_len]
  have := kid_gt less l i
  omega
def pushH (l : List (α × Nat)) (n : Nat) (x : α) : List (α × Nat) := raise less (l ++ [(x, n)]) l.length
/-- What is left behind the first element. -/
def cutH (l : List (α × Nat)) : List (α × Nat) := ((swp l 0 (l.length - 1)).take (l.length - 1))
def popH (l : List (α × Nat)) : List (α × Nat) := lower less (cutH l) 0
theorem raise_perm (l : List (α × Nat)) (i : Nat) : (raise less l i).Perm l := by
  fun_induction raise less l i with
  | case1 l i h ih => exact ih.trans (swp_perm _ _ _)
  | case2 l i h => exact List.Perm.refl _
theorem lower_perm (l : List (α × Nat)) (i : Nat) : (lower less l i).Perm l := by
  fun_induction lower less l i with
  | case1 l i h ih => exact ih.trans (swp_perm _ _ _)
  | case2 l i h => exact List.Perm.refl _
theorem push_perm (l : List (α × Nat)) (n : Nat) (x : α) : (pushH less l n x).Perm (l ++ [(x, n)]) := raise_perm _ _ _
theorem push_len (l : List (α × Nat)) (n : Nat) (x : α) : (pushH less l n x).length = l.length + 1 := by rw [(push_perm less l n x).length_eq]; simp
theorem take_one {β : Type} (l : List β) (k : Nat) (x : β) (h : l[k]? = some x) : l.take (k + 1) = l.take k ++ [x] := by
  rw [List.take_add_one, h]; rfl
theorem cut_perm {β : Type} (l : List β) (a : β) (h : l[0]? = some a) : l.Perm (a :: (swp l 0 (l.length - 1)).take (l.length - 1)) := by
  have hl := (List.getElem?_eq_some_iff.1 h).1
  have h1 : (swp l 0 (l.length - 1)).Perm l := swp_perm _ _ _
  have h2 : (swp l 0 (l.length - 1))[l.length - 1]? = some a := by
    rw [swp_at hl (by omega)]
    unfold tr
    split
    · next h3 => rw [h3, h]
    · rw [if_pos rfl, h]
  have h3 := take_one (swp l 0 (l.length - 1)) (l.length - 1) a h2
  rw [Nat.sub_add_cancel hl, List.take_of_length_le (by rw [swp_len]; exact Nat.le_refl _)] at h3
  refine h1.symm.trans ?_
  generalize hq : (swp l 0 (l.length - 1)).take (l.length - 1) = q at h3 ⊢
  rw [h3]
  exact List.perm_append_comm
theorem cut_len (l : List (α × Nat)) : (cutH l).length = l.length - 1 := by
  unfold cutH
  rw [List.length_take, swp_len]
  omega
theorem pop_perm (l : List (α × Nat)) (a : α × Nat) (h : l[0]? = some a) : l.Perm (a :: popH less l) :=
  (cut_perm l a h).trans ((lower_perm less _ 0).symm.cons a)
theorem pop_len (l : List (α × Nat)) : (popH less l).length = l.length - 1 := by
  unfold popH
  rw [(lower_perm less _ 0).length_eq, cut_len]
/-- All elements, as they leave. -/
def drainH (l : List (α × Nat)) : List α := match _h : l[0]? with
  | some a => a.1 :: drainH (popH less l)
  | none => []
termination_by l.length
decreasing_by
  rw [pop_len]
  have := (List.getElem?_eq_some_iff.1 _h).1
  omega
theorem drain_some {l : List (α × Nat)} {a : α × Nat} (h : l[0]? = some a) : drainH less l = a.1 :: drainH less (popH less l) := by
  conv => lhs; unfold drainH
  split
  · next b hb => rw [h] at hb; cases hb; rfl
  · next hb => rw [h] at hb; cases hb
theorem drain_nil : drainH less ([] : List (α × Nat)) = [] := by unfold drainH; rfl
theorem drain_perm (l : List (α × Nat)) : (drainH less l).Perm (l.map (·.1)) := by
  fun_induction drainH less l with
  | case1 l a h ih => exact (ih.cons a.1).trans ((pop_perm less l a h).map (fun x : α × Nat => x.1)).symm
  | case2 l h =>
    have : l = [] := by cases l with | nil => rfl | cons a r => simp at h
    rw [this]; exact List.Perm.refl _
/-- Elements pushed one by one, the first numbered n. -/
def pushAll (l : List (α × Nat)) (n : Nat) : List α → List (α × Nat)
  | [] => l
  | x :: r => pushAll (pushH less l n x) (n + 1) r
theorem pushAll_snoc (xs : List α) (x : α) : ∀ (l : List (α × Nat)) (n : Nat), pushAll less l n (xs ++ [x]) = pushH less (pushAll less l n xs) (n + xs.length) x := by
  induction xs with
  | nil => intro l n; rfl
  | cons y r ih =>
    intro l n
    show pushAll less (pushH less l n y) (n + 1) (r ++ [x]) = _
    rw [ih, show n + (y :: r).length = n + 1 + r.length by simp; omega]
    rfl
theorem pushAll_len (xs : List α) : ∀ (l : List (α × Nat)) (n : Nat), (pushAll less l n xs).length = l.length + xs.length := by
  induction xs with
  | nil => intro l n; rfl
  | cons y r ih =>
    intro l n
    show (pushAll less (pushH less l n y) (n + 1) r).length = _
    rw [ih, push_len]; simp; omega
/-- A list numbered from n. -/
def numb (n : Nat) : List α → List (α × Nat)
  | [] => []
  | x :: r => (x, n) :: numb (n + 1) r
theorem numb_map (xs : List α) : ∀ n, (numb n xs).map (·.1) = xs := by
  induction xs with
  | nil => intro n; rfl
  | cons x r ih => intro n; show x :: (numb (n + 1) r).map (·.1) = _; rw [ih]
theorem numb_len (xs : List α) : ∀ n, (numb n xs).length = xs.length := by
  intro n; have := congrArg List.length (numb_map xs n); simpa using this
theorem numb_snoc (xs : List α) (x : α) : ∀ n, numb n (xs ++ [x]) = numb n xs ++ [(x, n + xs.length)] := by
  induction xs with
  | nil => intro n; rfl
  | cons y r ih =>
    intro n
    show (y, n) :: numb (n + 1) (r ++ [x]) = (y, n) :: numb (n + 1) r ++ _
    rw [ih]; simp; omega
theorem pushAll_perm (xs : List α) : ∀ (l : List (α × Nat)) (n : Nat), (pushAll less l n xs).Perm (l ++ numb n xs) := by
  induction xs with
  | nil => intro l n; show l.Perm (l ++ []); rw [List.append_nil]
  | cons y r ih =>
    intro l n
    refine (ih _ _).trans ?_
    refine ((push_perm less l n y).append_right _).trans ?_
    rw [List.append_assoc]
    exact List.Perm.refl _
def sortH (xs : List α) : List α := drainH less (pushAll less [] 0 xs)
theorem sort_perm (xs : List α) : (sortH less xs).Perm xs := by
  unfold sortH
  refine (drain_perm less _).trans ?_
  have := ((pushAll_perm less xs [] 0).map (·.1))
  rwa [List.nil_append, numb_map] at this
theorem sort_len (xs : List α) : (sortH less xs).length = xs.length := (sort_perm less xs).length_eq

/-! ### For an order -/
/-- A strict weak order. -/
structure IsOrd : Prop where
  asym : ∀ a b, less a b = true → less b a = false
  ntr : ∀ a b c, less a b = false → less b c = false → less a c = false
variable {less}
theorem IsOrd.irr (o : IsOrd less) (a : α) : less a a = false := by
  cases h : less a a with
  | false => rfl
  | true => exact (o.asym a a h).symm.trans h |>.symm
/-- b does not come before a. -/
def nb (less : α → α → Bool) (a b : α × Nat) : Prop := bef less a b = false
theorem nb_iff {a b : α × Nat} : nb less a b ↔ less a.1 b.1 = false ∧ (b.2 ≤ a.2 ∨ less b.1 a.1 = true) := by
  unfold nb bef
  cases h1 : less a.1 b.1 <;> cases h2 : less b.1 a.1 <;> simp
theorem nb_trans (o : IsOrd less) {a b c : α × Nat} (h1 : nb less a b) (h2 : nb less b c) : nb less a c := by
  rw [nb_iff] at *
  obtain ⟨x1, x2⟩ := h1
  obtain ⟨y1, y2⟩ := h2
  refine ⟨o.ntr _ _ _ x1 y1, ?_⟩
  cases h : less c.1 a.1 with
  | true => exact .inr rfl
  | false =>
    rcases x2 with x2 | x2
    · rcases y2 with y2 | y2
      · exact .inl (Nat.le_trans y2 x2)
      · rw [o.ntr _ _ _ h x1] at y2; cases y2
    · rw [o.ntr _ _ _ y1 h] at x2; cases x2
theorem nb_of_bef (o : IsOrd less) {a b : α × Nat} (h : bef less a b = true) : nb less b a := by
  rw [nb_iff]
  unfold bef at h
  cases h1 : less a.1 b.1 with
  | true => exact ⟨o.asym _ _ h1, .inr rfl⟩
  | false =>
    rw [h1] at h
    simp at h
    exact ⟨h.2, .inl (by omega)⟩
theorem nb_refl (o : IsOrd less) (a : α × Nat) : nb less a a := by
  rw [nb_iff]
  exact ⟨o.irr _, .inl (Nat.le_refl _)⟩
theorem nb_same {a b : α × Nat} (h1 : nb less a b) (h2 : nb less b a) : a.2 = b.2 := by
  rw [nb_iff] at *
  rcases h1.2 with x | x
  · rcases h2.2 with y | y
    · omega
    · rw [h1.1] at y; cases y
  · rw [h2.1] at x; cases x
/-- The same, by indices. -/
def nbAt (less : α → α → Bool) (l : List (α × Nat)) (i j : Nat) : Prop := befAt less l i j = false
theorem nbAt_trans (o : IsOrd less) {l : List (α × Nat)} {i j k : Nat} (hj : j < l.length) (h1 : nbAt less l i j) (h2 : nbAt less l j k) : nbAt less l i k := by
  unfold nbAt befAt at *
  rw [List.getElem?_eq_getElem hj] at h1 h2
  split
  · next a c ha hc =>
    rw [ha] at h1
    rw [hc] at h2
    exact nb_trans o h1 h2
  · rfl
theorem nbAt_of (o : IsOrd less) {l : List (α × Nat)} {i j : Nat} (h : befAt less l i j = true) : nbAt less l j i := by
  unfold nbAt befAt at *
  split at h
  · next a b ha hb => rw [ha, hb]; exact nb_of_bef o h
  · cases h
theorem nbAt_refl (o : IsOrd less) (l : List (α × Nat)) (i : Nat) : nbAt less l i i := by
  unfold nbAt befAt
  split
  · next a b ha hb => rw [ha] at hb; cases hb; exact nb_refl o a
  · rfl
theorem nbAt_swp {l : List (α × Nat)} {i j : Nat} (hi : i < l.length) (hj : j < l.length) (x y : Nat) (h : nbAt less l (tr i j x) (tr i j y)) : nbAt less (swp l i j) x y := by
  unfold nbAt at *
  rw [befAt_swp less hi hj]
  exact h
/-- No element comes before its parent. -/
def Hp (less : α → α → Bool) (l : List (α × Nat)) : Prop := ∀ j, 0 < j → j < l.length → nbAt less l j ((j - 1) / 2)
/-- The same but for the element i against its parent. -/
def UpI (less : α → α → Bool) (l : List (α × Nat)) (i : Nat) : Prop := (∀ j, 0 < j → j < l.length → j ≠ i → nbAt less l j ((j - 1) / 2)) ∧ (∀ c, 0 < c → c < l.length → (c - 1) / 2 = i → 0 < i → nbAt less l c ((i - 1) / 2))
theorem raise_heap (o : IsOrd less) (l : List (α × Nat)) (i : Nat) (h : UpI less l i) : Hp less (raise less l i) := by
  fun_induction raise less l i with
  | case1 l i hc ih =>
    apply ih
    obtain ⟨h0, hb⟩ := hc
    obtain ⟨hi, hp⟩ := befAt_lt less hb
    obtain ⟨u1, u2⟩ := h
    have hr := nbAt_of o hb
    generalize hpe : (i - 1) / 2 = p at *
    have hne : p ≠ i := by omega
    refine ⟨fun j j0 jl jp => ?_, fun c c0 cl cp p0 => ?_⟩
    · rw [swp_len] at jl
      refine nbAt_swp hi hp _ _ ?_
      by_cases e1 : j = i
      · subst e1
        rw [hpe, show tr j p j = p by simp [tr], show tr j p p = j by simp [tr, hne]]
        exact hr
      · rw [show tr i p j = j by simp [tr, e1, jp]]
        by_cases e2 : (j - 1) / 2 = i
        · rw [e2, show tr i p i = p by simp [tr]]
          exact u2 j j0 jl e2 h0
        · by_cases e3 : (j - 1) / 2 = p
          · rw [e3, show tr i p p = i by simp [tr, hne]]
            have := u1 j j0 jl e1
            rw [e3] at this
            exact nbAt_trans o hp this hr
          · rw [show tr i p ((j - 1) / 2) = (j - 1) / 2 by simp [tr, e2, e3]]
            exact u1 j j0 jl e1
    · rw [swp_len] at cl
      refine nbAt_swp hi hp _ _ ?_
      rw [show tr i p ((p - 1) / 2) = (p - 1) / 2 by unfold tr; rw [if_neg (by omega), if_neg (by omega)]]
      have hpp := u1 p p0 hp hne
      by_cases e1 : c = i
      · rw [e1, show tr i p i = p by simp [tr]]
        exact hpp
      · rw [show tr i p c = c by unfold tr; rw [if_neg e1, if_neg (by omega)]]
        have := u1 c c0 cl e1
        rw [cp] at this
        exact nbAt_trans o hp this hpp
  | case2 l i hc =>
    intro j j0 jl
    by_cases e : j = i
    · subst e
      unfold nbAt
      cases hh : befAt less l j ((j - 1) / 2) with
      | false => rfl
      | true => exact absurd ⟨j0, hh⟩ hc
    · exact h.1 j j0 jl e
/-- The same but for the children of the element i. -/
def DnI (less : α → α → Bool) (l : List (α × Nat)) (i : Nat) : Prop := (∀ j, 0 < j → j < l.length → (j - 1) / 2 ≠ i → nbAt less l j ((j - 1) / 2)) ∧ (∀ c, 0 < c → c < l.length → (c - 1) / 2 = i → 0 < i → nbAt less l c ((i - 1) / 2))
theorem kid_best (o : IsOrd less) (l : List (α × Nat)) (i : Nat) (j : Nat) (j0 : 0 < j) (jl : j < l.length) (hj : (j - 1) / 2 = i) : nbAt less l j (kid less l i) ∧ kid less l i < l.length := by
  have h2 : j = 2 * i + 1 ∨ j = 2 * i + 2 := by omega
  unfold kid
  split
  · next h =>
    refine ⟨?_, h.1⟩
    rcases h2 with rfl | rfl
    · exact nbAt_of o h.2
    · exact nbAt_refl o _ _
  · next h =>
    refine ⟨?_, by omega⟩
    rcases h2 with rfl | rfl
    · exact nbAt_refl o _ _
    · unfold nbAt
      cases hh : befAt less l (2 * i + 2) (2 * i + 1) with
      | false => rfl
      | true => exact absurd ⟨jl, hh⟩ h
theorem kid_par (l : List (α × Nat)) (i : Nat) : (kid less l i - 1) / 2 = i := by
  unfold kid
  split <;> omega
theorem lower_heap (o : IsOrd less) (l : List (α × Nat)) (i : Nat) (h : DnI less l i) : Hp less (lower less l i) := by
  fun_induction lower less l i with
  | case1 l i hc ih =>
    apply ih
    obtain ⟨hk, hb⟩ := hc
    have hkb := kid_best o l i
    have hkp := kid_par (less := less) l i
    have hkg := kid_gt less l i
    obtain ⟨_, hi⟩ := befAt_lt less hb
    obtain ⟨u1, u2⟩ := h
    have hr := nbAt_of o hb
    generalize kid less l i = c at *
    have hne : c ≠ i := by omega
    refine ⟨fun j j0 jl jp => ?_, fun d d0 dl dp c0 => ?_⟩
    · rw [swp_len] at jl
      refine nbAt_swp hi hk _ _ ?_
      by_cases e1 : (j - 1) / 2 = i
      · rw [e1, show tr i c i = c by simp [tr]]
        by_cases e2 : j = c
        · rw [e2, show tr i c c = i by simp [tr, hne]]
          exact hr
        · rw [show tr i c j = j by unfold tr; rw [if_neg (by omega), if_neg e2]]
          exact (hkb j j0 jl e1).1
      · rw [show tr i c ((j - 1) / 2) = (j - 1) / 2 by unfold tr; rw [if_neg e1, if_neg jp]]
        by_cases e2 : j = i
        · rw [e2, show tr i c i = c by simp [tr]]
          exact u2 c (by omega) hk hkp (by omega)
        · by_cases e3 : j = c
          · omega
          · rw [show tr i c j = j by simp [tr, e2, e3]]
            exact u1 j j0 jl e1
    · rw [swp_len] at dl
      refine nbAt_swp hi hk _ _ ?_
      rw [hkp, show tr i c i = c by simp [tr], show tr i c d = d by unfold tr; rw [if_neg (by omega), if_neg (by omega)]]
      have := u1 d d0 dl (by omega)
      rw [dp] at this
      exact this
  | case2 l i hc =>
    intro j j0 jl
    by_cases e : (j - 1) / 2 = i
    · obtain ⟨h1, h2⟩ := kid_best o l i j j0 jl e
      rw [e]
      refine nbAt_trans o h2 h1 ?_
      unfold nbAt
      cases hh : befAt less l (kid less l i) i with
      | false => rfl
      | true => exact absurd ⟨h2, hh⟩ hc
    · exact h.1 j j0 jl e
theorem Hp.nil : Hp less ([] : List (α × Nat)) := fun j _ h => by simp at h
theorem push_heap (o : IsOrd less) {l : List (α × Nat)} (h : Hp less l) (n : Nat) (x : α) : Hp less (pushH less l n x) := by
  refine raise_heap o _ _ ⟨fun j j0 jl jn => ?_, fun c c0 cl cp _ => ?_⟩
  · simp at jl
    have := h j j0 (by omega)
    unfold nbAt befAt at *
    rw [List.getElem?_append_left (by omega), List.getElem?_append_left (by omega)]
    exact this
  · simp at cl
    omega
theorem pop_heap (o : IsOrd less) {l : List (α × Nat)} (h : Hp less l) : Hp less (popH less l) := by
  refine lower_heap o _ _ ⟨fun j j0 jl jn => ?_, fun c _ _ _ h0 => absurd h0 (Nat.lt_irrefl _)⟩
  rw [cut_len] at jl
  have h1 := h j j0 (by omega)
  unfold nbAt befAt cutH at *
  rw [List.getElem?_take, if_pos jl, List.getElem?_take, if_pos (by omega), swp_at (by omega) (by omega), swp_at (by omega) (by omega)]
  unfold tr
  rw [if_neg (by omega), if_neg (by omega), if_neg (by omega), if_neg (by omega)]
  exact h1
theorem pushAll_heap (o : IsOrd less) (xs : List α) : ∀ (l : List (α × Nat)) (n : Nat), Hp less l → Hp less (pushAll less l n xs) := by
  induction xs with
  | nil => intro l n h; exact h
  | cons y r ih => intro l n h; exact ih _ _ (push_heap o h n y)
theorem root_best (o : IsOrd less) {l : List (α × Nat)} (h : Hp less l) : ∀ (j : Nat), j < l.length → nbAt less l j 0 := by
  intro j
  induction j using Nat.strongRecOn with
  | ind j ih =>
    intro jl
    by_cases j0 : j = 0
    · subst j0; exact nbAt_refl o _ _
    · exact nbAt_trans o (by omega) (h j (by omega) jl) (ih _ (by omega) (by omega))
theorem root_least (o : IsOrd less) {l : List (α × Nat)} (h : Hp less l) {a : α × Nat} (ha : l[0]? = some a) : ∀ x ∈ l, nb less x a := by
  intro x hx
  obtain ⟨j, hj⟩ := List.mem_iff_getElem?.1 hx
  have := root_best o h j (List.getElem?_eq_some_iff.1 hj).1
  unfold nbAt at this
  rwa [befAt_eq less hj ha] at this

/-! ### The first of a list -/
/-- The index of the first of the least elements. -/
structure IsFirst (less : α → α → Bool) (r : List α) (i : Nat) : Prop where
  lt : i < r.length
  low : ∀ (j : Nat) x y, r[j]? = some x → r[i]? = some y → less x y = false
  new : ∀ (j : Nat) x y, j < i → r[j]? = some x → r[i]? = some y → less y x = true
/-- Numbers ascend. -/
def Inc (R : List (α × Nat)) : Prop := R.Pairwise fun a b => a.2 < b.2
theorem Inc.uniq {R : List (α × Nat)} (h : Inc R) {a b : α × Nat} (ha : a ∈ R) (hb : b ∈ R) (e : a.2 = b.2) : a = b := by
  obtain ⟨i, hi⟩ := List.mem_iff_getElem?.1 ha
  obtain ⟨j, hj⟩ := List.mem_iff_getElem?.1 hb
  obtain ⟨i1, i2⟩ := List.getElem?_eq_some_iff.1 hi
  obtain ⟨j1, j2⟩ := List.getElem?_eq_some_iff.1 hj
  rcases Nat.lt_trichotomy i j with x | x | x
  · have := (List.pairwise_iff_getElem.1 h) i j i1 j1 x
    rw [i2, j2] at this; omega
  · subst x; rw [hi] at hj; exact Option.some.inj hj
  · have := (List.pairwise_iff_getElem.1 h) j i j1 i1 x
    rw [i2, j2] at this; omega
theorem first_best {R : List (α × Nat)} (hR : Inc R) {i : Nat} (hf : IsFirst less (R.map (·.1)) i) {b : α × Nat} (hb : R[i]? = some b) : ∀ x ∈ R, nb less x b := by
  intro x hx
  obtain ⟨j, hj⟩ := List.mem_iff_getElem?.1 hx
  have m1 : (R.map (·.1))[j]? = some x.1 := by rw [List.getElem?_map, hj]; rfl
  have m2 : (R.map (·.1))[i]? = some b.1 := by rw [List.getElem?_map, hb]; rfl
  rw [nb_iff]
  refine ⟨hf.low j _ _ m1 m2, ?_⟩
  by_cases hlt : j < i
  · exact .inr (hf.new j _ _ hlt m1 m2)
  · refine .inl ?_
    obtain ⟨i1, i2⟩ := List.getElem?_eq_some_iff.1 hb
    obtain ⟨j1, j2⟩ := List.getElem?_eq_some_iff.1 hj
    by_cases e : i = j
    · subst e; rw [hb] at hj; cases hj; exact Nat.le_refl _
    · have := (List.pairwise_iff_getElem.1 hR) i j i1 j1 (by omega)
      rw [i2, j2] at this; omega
theorem erase_perm {β : Type} {l : List β} {i : Nat} {a : β} (h : l[i]? = some a) : l.Perm (a :: l.eraseIdx i) := by
  induction l generalizing i with
  | nil => simp at h
  | cons b r ih =>
    cases i with
    | zero => simp at h; subst h; exact List.Perm.refl _
    | succ i =>
      simp at h
      exact ((ih h).cons b).trans (List.Perm.swap a b _)
/-- The first of the heap is the first of the list. -/
theorem root_first (o : IsOrd less) {l R : List (α × Nat)} (h : Hp less l) (hp : l.Perm R) (hR : Inc R) {i : Nat} (hf : IsFirst less (R.map (·.1)) i) {a : α × Nat} (ha : l[0]? = some a) : R[i]? = some a ∧ (popH less l).Perm (R.eraseIdx i) := by
  have hi : i < R.length := by have := hf.lt; rwa [List.length_map] at this
  have hb : R[i]? = some R[i] := List.getElem?_eq_getElem hi
  have hbm : R[i] ∈ R := List.getElem_mem hi
  have ham : a ∈ R := hp.subset (List.mem_iff_getElem?.2 ⟨0, ha⟩)
  have n1 := first_best hR hf hb a ham
  have n2 := root_least o h ha R[i] (hp.symm.subset hbm)
  have e := hR.uniq ham hbm (nb_same n1 n2)
  refine ⟨by rw [hb, e], ?_⟩
  have p1 := (pop_perm less l a ha).symm.trans hp
  have p2 : R.Perm (R[i] :: R.eraseIdx i) := erase_perm hb
  rw [e] at p1
  exact (p1.trans p2).cons_inv
theorem Inc.erase {R : List (α × Nat)} (h : Inc R) (i : Nat) : Inc (R.eraseIdx i) := List.Pairwise.sublist (List.eraseIdx_sublist R i) h
theorem Inc.snoc {R : List (α × Nat)} (h : Inc R) (x : α) (n : Nat) (hn : ∀ a ∈ R, a.2 < n) : Inc (R ++ [(x, n)]) := by
  unfold Inc
  rw [List.pairwise_append]
  exact ⟨h, by simp, fun a ha b hb => by simp at hb; subst hb; exact hn a ha⟩
theorem numb_le (xs : List α) : ∀ n, ∀ a ∈ numb n xs, n ≤ a.2 ∧ a.2 < n + xs.length := by
  induction xs with
  | nil => intro n a h; cases h
  | cons x r ih =>
    intro n a h
    rcases List.mem_cons.1 h with rfl | h
    · simp
    · have := ih (n + 1) a h
      simp; omega
theorem numb_inc (xs : List α) : ∀ n, Inc (numb n xs) := by
  induction xs with
  | nil => intro n; exact List.Pairwise.nil
  | cons x r ih =>
    intro n
    exact List.Pairwise.cons (fun a ha => by have := (numb_le r (n + 1) a ha).1; show n < a.2; omega) (ih (n + 1))
theorem map_erase {β γ : Type} (f : β → γ) (l : List β) (i : Nat) : (l.eraseIdx i).map f = (l.map f).eraseIdx i := by
  induction l generalizing i with
  | nil => rfl
  | cons a r ih =>
    cases i with
    | zero => rfl
    | succ i => simp [ih]
/-- What leaves a heap does not decrease; of equivalent ones the earlier comes first. -/
theorem drain_sorted (o : IsOrd less) (l : List (α × Nat)) (h : Hp less l) : ∃ D : List (α × Nat), drainH less l = D.map (·.1) ∧ D.Perm l ∧ D.Pairwise fun a b => nb less b a := by
  fun_induction drainH less l with
  | case1 l a ha ih =>
    obtain ⟨D, h1, h2, h3⟩ := ih (pop_heap o h)
    have hp := pop_perm less l a ha
    refine ⟨a :: D, by rw [h1]; rfl, (h2.cons a).trans hp.symm, List.Pairwise.cons (fun b hb => ?_) h3⟩
    exact root_least o h ha b (hp.symm.subset (List.mem_cons_of_mem _ (h2.subset hb)))
  | case2 l hn =>
    have : l = [] := by cases l with | nil => rfl | cons a r => simp at hn
    subst this
    exact ⟨[], rfl, List.Perm.refl _, List.Pairwise.nil⟩
end
end Go.Proofs.Ytibakhobgfiklaa
