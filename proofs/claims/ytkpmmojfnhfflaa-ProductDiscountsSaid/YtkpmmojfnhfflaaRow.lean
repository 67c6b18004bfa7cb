/-
  Slices of structs of any number of one-cell parts that a call makes and lets grow, or that it is handed: what an append leaves, an element read, an element stored. Condition: the lengths are below the bounds that each theorem names.
-/
import Derived.Test.YtkpmmojfnhfflaaOwnI
namespace Go.Proofs.Ytkpmmojfnhfflaa
open Go.RowKit

/-- An append to a row of the call's own leaves it where it was, or in a new block. -/
theorem run_append_where {P : Program} (w : World) (base : Nat) (t ty e : TypeId) (i : TypeInfo) (z : Value) (size bytes : Nat) (ht : P.underlying t = some (.slice e)) (hi : P.info? e = some i) (hz : i.zero = some z)
    (hsize : i.size = size) (hby : i.bytes = bytes) (hzs : z.cells.size = size) (hsz : 0 < size)
    (v : Value) (n : Nat) (xs : List Value) (hown : w.ownsRow base e size v n xs)
    (a : Addr) (m c : Nat) (news : List Value) (hl : news.length = m * size) (hnews : ∀ j u, news[j]? = some u → w.cell? (a.add j) = some u) (h1 : ∀ u ∈ news, u.oneCell' = true)
    (h63 : n + m ≤ maxLen) (hbytes : (n + m) * bytes ≤ 140737488355328) (hbase : base ≤ w.heap.size) :
    ∃ v' w', (Builtin.append_ #[t, t] ty #[v, .slice (some a) m c]).run P w = .ok v' w' ∧ w'.ownsRow base e size v' (n + m) (xs ++ news) ∧ w.grownBy w' v.ownBlock ∧ (∀ g, v'.ownBlock = some g → v.ownBlock = some g ∨ g = w.heap.size) := by
  obtain ⟨v', w', hr, h2, h3, h4⟩ := run_append_own (P := P) w base t ty e i z size bytes ht hi hz hsize hby hzs hsz v n xs hown a m c news hl hnews h1 h63 hbytes hbase
  refine ⟨v', w', hr, h2, h3, ?_⟩
  have hsmall : n + m ≤ 9223372036854775807 := by unfold maxLen at h63; omega
  rcases hown.2 with ⟨rfl, rfl⟩ | ⟨g, cap, cur, rfl, hbg, hg, hnc, hcm, hcs, htake⟩
  · by_cases hm : m = 0
    · rw [h4.2 ⟨rfl, hm⟩]
      intro g hg
      cases hg
    · have hn := run_append_nil (P := P) w t ty e i z ht hi hz a m c news (by rw [hl, hsize]) hnews (by omega) (by omega) (by rw [hby]; have hb := hbytes; simp only [Nat.zero_add] at hb; omega)
      rw [hr] at hn
      cases hn
      intro g hg
      cases hg
      exact .inr rfl
  · by_cases hroom : n + m ≤ cap
    · have hfit : n * i.size + news.length ≤ cur.size := by rw [hl, hcs, hsize, ← Nat.add_mul]; exact Nat.mul_le_mul_right _ hroom
      have hn := run_append_room (P := P) w t ty e i ht hi g n cap cur hg a m c news (by rw [hl, hsize]) hnews h1 hroom hfit
      rw [hr] at hn
      cases hn
      intro g' hg'
      exact .inl hg'
    · have holds : ∀ j u, xs[j]? = some u → w.cell? ((⟨g, 0, none⟩ : Addr).add j) = some u := hown.cells (g := g) rfl
      have hn := run_append_grow (P := P) w t ty e i z ht hi hz ⟨g, 0, none⟩ n cap xs (by rw [hown.1, hsize]) holds a m c news (by rw [hl, hsize]) hnews (by omega) (by omega) (growslice_fits (by omega) (by rw [hby]; exact hbytes))
      rw [hr] at hn
      cases hn
      intro g' hg'
      cases hg'
      exact .inr rfl
theorem wpList_append_where {P : Program} (w : World) {ops : Array Oper} {rest : List Oper} {o : Oper} {a : Act} {Q : Exit → Act → World → Prop} (hgd : o.guard = none) (s x : Operand) (t : TypeId)
    (ho : o.op = .call { callee := .builtin .append, args := #[s, x], argTypes := #[t, t] })
    (base : Nat) (e : TypeId) (i : TypeInfo) (z : Value) (size bytes : Nat) (ht : P.underlying t = some (.slice e)) (hi : P.info? e = some i) (hz : i.zero = some z)
    (hsize : i.size = size) (hby : i.bytes = bytes) (hzs : z.cells.size = size) (hsz : 0 < size)
    (v : Value) (n : Nat) (xs : List Value) (hs : a.eval s = v) (hown : w.ownsRow base e size v n xs)
    (ad : Addr) (m c : Nat) (news : List Value) (hx : a.eval x = .slice (some ad) m c) (hl : news.length = m * size) (hnews : ∀ j u, news[j]? = some u → w.cell? (ad.add j) = some u) (h1 : ∀ u ∈ news, u.oneCell' = true)
    (h63 : n + m ≤ maxLen) (hbytes : (n + m) * bytes ≤ 140737488355328) (hbase : base ≤ w.heap.size)
    (h : ∀ v' w', w'.ownsRow base e size v' (n + m) (xs ++ news) → w.grownBy w' v.ownBlock → (∀ g, v'.ownBlock = some g → v.ownBlock = some g ∨ g = w.heap.size) → wpList P ops Q rest (a.put o.dst v') w') : wpList P ops Q (o :: rest) a w :=
  wpList_plain hgd fun K hK => by
    obtain ⟨v', w', hr, h2, h3, h4⟩ := run_append_where (P := P) w base t o.type e i z size bytes ht hi hz hsize hby hzs hsz v n xs hown ad m c news hl hnews h1 h63 hbytes hbase
    unfold Oper.wp execOp
    simp only [ho, resolve, invoke, builtin, Sem.run_bind, Sem.run_pure, Result.andThen_ok, List.map_toArray, List.map_cons, List.map_nil, hs, hx, hr]
    exact hK _ _ (h v' w' h2 h3 h4)
section
variable {α : Type} (enc : α → List Value) (k : Nat)
/-- The elements as cells, one behind the other. -/
def fl (l : List α) : List Value := l.flatMap enc
theorem fl_cons (a : α) (l : List α) : fl enc (a :: l) = enc a ++ fl enc l := by unfold fl; rw [List.flatMap_cons]
theorem fl_app (l m : List α) : fl enc (l ++ m) = fl enc l ++ fl enc m := by unfold fl; rw [List.flatMap_append]
theorem fl_one (a : α) : fl enc [a] = enc a := by rw [fl_cons]; show enc a ++ [] = _; rw [List.append_nil]
variable {enc} {k}
theorem fl_len (hk : ∀ a, (enc a).length = k) (l : List α) : (fl enc l).length = l.length * k := by
  induction l with
  | nil => show 0 = _; simp
  | cons a r ih => rw [fl_cons, List.length_append, hk, ih, List.length_cons, Nat.add_mul]; omega
theorem fl_at (hk : ∀ a, (enc a).length = k) {l : List α} {i : Nat} {a : α} (h : l[i]? = some a) (j : Nat) (hj : j < k) : (fl enc l)[i * k + j]? = (enc a)[j]? := by
  induction l generalizing i with
  | nil => simp at h
  | cons b r ih =>
    rw [fl_cons]
    cases i with
    | zero =>
      simp at h; subst h
      rw [Nat.zero_mul, Nat.zero_add, List.getElem?_append_left (by rw [hk]; exact hj)]
    | succ i =>
      simp at h
      rw [List.getElem?_append_right (by rw [hk, Nat.add_mul]; omega), hk, ← ih h]
      congr 1
      rw [Nat.add_mul]; omega
theorem fl_take (hk : ∀ a, (enc a).length = k) (l : List α) (n : Nat) : (fl enc l).take (n * k) = fl enc (l.take n) := by
  induction l generalizing n with
  | nil => simp [fl]
  | cons a r ih =>
    cases n with
    | zero => simp [fl]
    | succ n =>
      rw [fl_cons, List.take_succ_cons, fl_cons, List.take_append, hk]
      rw [List.take_of_length_le (by rw [hk, Nat.add_mul]; omega), show (n + 1) * k - k = n * k by rw [Nat.add_mul]; omega, ih]

/-- The value is a slice of the call's own with these elements. -/
def OwnG (enc : α → List Value) (T : TypeId) (k : Nat) (w : World) (base : Nat) (v : Value) (l : List α) : Prop := w.ownsRow base T k v l.length (fl enc l)
/-- The value is a slice that reads as these elements. -/
def LstG (enc : α → List Value) (w : World) (v : Value) (l : List α) : Prop := ∃ A c, v = .slice A l.length c ∧ l.length ≤ c ∧ (A = none → c = 0) ∧ (0 < l.length → ∃ b o, A = some ⟨b, o, none⟩ ∧ b < w.heap.size ∧ ∀ (j : Nat) x, (fl enc l)[j]? = some x → w.cell? ⟨b, o + j, none⟩ = some x)
variable {T : TypeId}
theorem OwnG.nil (enc : α → List Value) (T : TypeId) (k : Nat) (w : World) (base : Nat) : OwnG enc T k w base (.slice none 0 0) [] := World.ownsRow_nil _ _ _ _
theorem LstG.nil (enc : α → List Value) (w : World) : LstG enc w (.slice none 0 0) [] := ⟨none, 0, rfl, Nat.le_refl _, fun _ => rfl, fun h => absurd h (Nat.lt_irrefl _)⟩
theorem ownK_shape {w : World} {base : Nat} {v : Value} {n : Nat} {xs : List Value} (h : w.ownsRow base T k v n xs) : ∃ A c, v = .slice A n c ∧ n ≤ c ∧ (A = none → c = 0) ∧ (0 < n → ∃ g, A = some ⟨g, 0, none⟩ ∧ base ≤ g ∧ g < w.heap.size ∧ ∀ j u, xs[j]? = some u → w.cell? ⟨g, 0 + j, none⟩ = some u) := by
  rcases h.2 with ⟨rfl, rfl⟩ | ⟨g, cap, cur, rfl, hb, hg, hn, _, _, ht⟩
  · exact ⟨none, 0, rfl, Nat.le_refl _, fun _ => rfl, fun h => absurd h (Nat.lt_irrefl _)⟩
  · refine ⟨some ⟨g, 0, none⟩, cap, rfl, hn, (fun h => by cases h), fun _ => ⟨g, rfl, hb, ?_, ?_⟩⟩
    · rcases Nat.lt_or_ge g w.heap.size with h | h
      · exact h
      · rw [Array.getElem?_eq_none h] at hg; cases hg
    · intro j u hu
      rw [Nat.zero_add, cell_of_row w g j cur T (0, 0) hg]
      rw [← ht, List.getElem?_take] at hu
      split at hu
      · rw [← hu]; simp
      · cases hu
theorem OwnG.lst {w : World} {base : Nat} {v : Value} {l : List α} (h : OwnG enc T k w base v l) : LstG enc w v l := by
  obtain ⟨A, c, hv, hc, hn, hx⟩ := ownK_shape h
  refine ⟨A, c, hv, hc, hn, fun h0 => ?_⟩
  obtain ⟨g, hA, _, hg, hcell⟩ := hx h0
  exact ⟨g, 0, hA, hg, hcell⟩
theorem OwnG.len {w : World} {base : Nat} {v : Value} {l : List α} (h : OwnG enc T k w base v l) : l.length ≤ 9223372036854775807 := by
  rcases h.2 with ⟨_, h0⟩ | ⟨g, cap, cur, _, _, _, hn, hm, _⟩
  · omega
  · unfold maxLen at hm
    omega
theorem LstG.below {w w' : World} {v : Value} {l : List α} (h : LstG enc w v l) (hb : Below w.heap.size w w') : LstG enc w' v l := by
  obtain ⟨A, c, hv, hc, hn, hx⟩ := h
  refine ⟨A, c, hv, hc, hn, fun h0 => ?_⟩
  obtain ⟨b, o, hA, hbl, hcell⟩ := hx h0
  exact ⟨b, o, hA, Nat.lt_of_lt_of_le hbl hb.size, fun j x hj => (hb.cell (p := ⟨b, o + j, none⟩) hbl).trans (hcell j x hj)⟩
theorem ownK_below {w w' : World} {base : Nat} {v : Value} {n : Nat} {xs : List Value} (h : w.ownsRow base T k v n xs) (hb : Below w.heap.size w w') : w'.ownsRow base T k v n xs := by
  refine ⟨h.1, ?_⟩
  rcases h.2 with h0 | ⟨g, cap, cur, hv, hbg, hg, hr⟩
  · exact Or.inl h0
  · have hlt : g < w.heap.size := by
      rcases Nat.lt_or_ge g w.heap.size with h | h
      · exact h
      · rw [Array.getElem?_eq_none h] at hg; cases hg
    exact Or.inr ⟨g, cap, cur, hv, hbg, (hb.block g hlt).trans hg, hr⟩
theorem ownK_keep {w w' : World} {base : Nat} {v : Value} {n : Nat} {xs : List Value} (h : w.ownsRow base T k v n xs) (hk : ∀ j, base ≤ j → j < w.heap.size → w'.heap[j]? = w.heap[j]?) : w'.ownsRow base T k v n xs := by
  refine ⟨h.1, ?_⟩
  rcases h.2 with h0 | ⟨g, cap, cur, hv, hbg, hg, hr⟩
  · exact Or.inl h0
  · have hlt : g < w.heap.size := by
      rcases Nat.lt_or_ge g w.heap.size with h | h
      · exact h
      · rw [Array.getElem?_eq_none h] at hg; cases hg
    exact Or.inr ⟨g, cap, cur, hv, hbg, (hk g hbg hlt).trans hg, hr⟩
theorem OwnG.below {w w' : World} {base : Nat} {v : Value} {l : List α} (h : OwnG enc T k w base v l) (hb : Below w.heap.size w w') : OwnG enc T k w' base v l := ownK_below h hb
theorem OwnG.keep {w w' : World} {base : Nat} {v : Value} {l : List α} (h : OwnG enc T k w base v l) (hk : ∀ j, base ≤ j → j < w.heap.size → w'.heap[j]? = w.heap[j]?) : OwnG enc T k w' base v l := ownK_keep h hk
theorem OwnG.down {w : World} {base base' : Nat} {v : Value} {l : List α} (h : OwnG enc T k w base v l) (hb : base' ≤ base) : OwnG enc T k w base' v l := by
  refine ⟨h.1, ?_⟩
  rcases h.2 with h0 | ⟨g, cap, cur, hv, hbg, hr⟩
  · exact Or.inl h0
  · exact Or.inr ⟨g, cap, cur, hv, Nat.le_trans hb hbg, hr⟩
theorem OwnG.low {w : World} {base : Nat} {v : Value} {l : List α} (h : OwnG enc T k w base v l) : v = .slice none 0 0 ∧ l = [] ∨ ∃ g c, v = .slice (some ⟨g, 0, none⟩) l.length c ∧ base ≤ g ∧ g < w.heap.size ∧ l.length ≤ c := by
  rcases h.2 with ⟨h0, h1⟩ | ⟨g, cap, cur, hv, hbg, hg, hn, _⟩
  · exact .inl ⟨h0, List.length_eq_zero_iff.1 h1⟩
  · refine .inr ⟨g, cap, hv, hbg, ?_, hn⟩
    rcases Nat.lt_or_ge g w.heap.size with h | h
    · exact h
    · rw [Array.getElem?_eq_none h] at hg; cases hg
/-- The part l[:n] of what is owned. -/
theorem OwnG.part (hk : ∀ a, (enc a).length = k) {w : World} {base g c N : Nat} {l : List α} (hN : l.length = N) (h : OwnG enc T k w base (.slice (some ⟨g, 0, none⟩) N c) l) (n : Nat) (hn : n ≤ N) : OwnG enc T k w base (.slice (some ⟨g, 0, none⟩) n c) (l.take n) := by
  subst hN
  have hl : (l.take n).length = n := by rw [List.length_take]; omega
  refine ⟨by rw [fl_len hk], ?_⟩
  rcases h.2 with ⟨h0, _⟩ | ⟨g', cap, cur, hv, hbg, hg, hn', hm, hs, ht⟩
  · simp at h0
  · simp at hv
    obtain ⟨rfl, rfl⟩ := hv
    refine .inr ⟨g, c, cur, by rw [hl], hbg, hg, by rw [hl]; omega, hm, hs, ?_⟩
    rw [hl, ← fl_take hk, ← ht, List.take_take]
    congr 1
    exact (Nat.min_eq_left (Nat.mul_le_mul_right _ hn)).symm
theorem ownK_grown {w w' : World} {base : Nat} {v : Value} {n : Nat} {xs : List Value} (h : w.ownsRow base T k v n xs) (hg : w.grownBy w' v.ownBlock) (hb : base ≤ w.heap.size) : Below base w w' :=
  (Below.refl _ _).grown hg hb fun j hj => (h.lt j hj).1

/-- A row of literals. -/
theorem lstG_lit (w : World) (cs : Array Value) (T : TypeId) (ls : List α) (h : cs.toList = fl enc ls) (n : Nat) (hn : ls.length = n) : LstG enc (w.alloc (.cells cs T (0, 0))) (.slice (some ⟨w.heap.size, 0, none⟩) n n) ls := by
  subst hn
  refine ⟨_, _, rfl, Nat.le_refl _, fun h => absurd h (by simp), fun _ => ⟨w.heap.size, 0, rfl, by simp, fun j x hj => ?_⟩⟩
  rw [Nat.zero_add, cell_of_row _ _ j _ _ _ (heap_alloc_new _ _), ← hj, ← h]
  simp
/-- Appending one element. -/
theorem appG_one (hk : ∀ a, (enc a).length = k) (hone : ∀ a, ∀ u ∈ enc a, u.oneCell' = true) (k0 : 0 < k) {ST : TypeId} {z : Value} {bytes : Nat} (hu : Try.prog.underlying ST = some (.slice T)) (hinfo : (Try.prog.info? T).map (fun i => (i.zero, i.size, i.bytes)) = some (some z, k, bytes)) (hz0 : z.cells.size = k) (hb64 : bytes ≤ 64)
    (w : World) {ops : Array Oper} {rest : List Oper} {o : Oper} {a : Act} {Q : Exit → Act → World → Prop} (hgd : o.guard = none) (s x : Operand)
    (ho : o.op = .call { callee := .builtin .append, args := #[s, x], argTypes := #[ST, ST] }) (base : Nat) (v : Value) (l : List α) (m : α) (hs : a.eval s = v) (hown : OwnG enc T k w base v l)
    (b : Nat) (cells : Array Value) (hbk : w.heap[b]? = some (.cells cells T (0, 0))) (hc : cells.toList = enc m) (hx : a.eval x = .slice (some ⟨b, 0, none⟩) 1 1) (hb : base ≤ w.heap.size)
    (hl : l.length + 1 ≤ 1099511627776) (h : ∀ v' w', OwnG enc T k w' base v' (l ++ [m]) → Below base w w' → w.grownBy w' v.ownBlock → (∀ g, v'.ownBlock = some g → v.ownBlock = some g ∨ g = w.heap.size) → wpList Try.prog ops Q rest (a.put o.dst v') w') : wpList Try.prog ops Q (o :: rest) a w := by
  obtain ⟨i, hi, hz, hsz, hby⟩ := info_parts hinfo
  refine wpList_append_where w hgd s x ST ho base T i z k bytes hu hi hz hsz hby hz0 k0 v l.length (fl enc l) hs hown ⟨b, 0, none⟩ 1 1 (enc m) hx (by rw [hk, Nat.one_mul]) ?_ (hone m) (by unfold maxLen; omega) (Nat.le_trans (Nat.mul_le_mul_left _ hb64) (by omega)) hb ?_
  · intro j u hu
    have hadd : (⟨b, 0, none⟩ : Addr).add j = ⟨b, j, none⟩ := by unfold Addr.add; split <;> simp_all
    rw [hadd, cell_of_row w b j cells _ _ hbk, ← hu, ← hc]
    simp
  · intro v' w' h1 h2 h3
    refine h v' w' ?_ (ownK_grown hown h2 hb) h2 h3
    unfold OwnG
    rw [List.length_append, fl_app, fl_one]
    exact h1
/-- The same as a step of a region that draws its order. -/
theorem stepG_one (hk : ∀ a, (enc a).length = k) (hone : ∀ a, ∀ u ∈ enc a, u.oneCell' = true) (k0 : 0 < k) {ST : TypeId} {z : Value} {bytes : Nat} (hu : Try.prog.underlying ST = some (.slice T)) (hinfo : (Try.prog.info? T).map (fun i => (i.zero, i.size, i.bytes)) = some (some z, k, bytes)) (hz0 : z.cells.size = k) (hb64 : bytes ≤ 64)
    (w : World) {ops : Array Oper} {o : Oper} {a : Act} {K : Act → World → Prop} {Q : Exit → Act → World → Prop} {E : Prop} (hgd : o.guard = none) (s x : Operand)
    (ho : o.op = .call { callee := .builtin .append, args := #[s, x], argTypes := #[ST, ST] }) (base : Nat) (v : Value) (l : List α) (m : α) (hs : a.eval s = v) (hown : OwnG enc T k w base v l)
    (b : Nat) (cells : Array Value) (hbk : w.heap[b]? = some (.cells cells T (0, 0))) (hc : cells.toList = enc m) (hx : a.eval x = .slice (some ⟨b, 0, none⟩) 1 1) (hb : base ≤ w.heap.size)
    (hl : l.length + 1 ≤ 1099511627776) (h : ∀ v' w', OwnG enc T k w' base v' (l ++ [m]) → Below base w w' → w.grownBy w' v.ownBlock → K (a.put o.dst v') w') : if Region.wanted o (yielded ops a.tmps) = true then Oper.wp Try.prog o a w K Q else E := by
  obtain ⟨i, hi, hz, hsz, hby⟩ := info_parts hinfo
  have hw : Region.wanted o (yielded ops a.tmps) = true := by simp [Region.wanted, hgd]
  rw [if_pos hw]
  refine wp_append_own w s x ST ho base T i z k bytes hu hi hz hsz hby hz0 k0 v l.length (fl enc l) hs hown ⟨b, 0, none⟩ 1 1 (enc m) hx (by rw [hk, Nat.one_mul]) ?_ (hone m) (by unfold maxLen; omega) (Nat.le_trans (Nat.mul_le_mul_left _ hb64) (by omega)) hb ?_
  · intro j u hu
    have hadd : (⟨b, 0, none⟩ : Addr).add j = ⟨b, j, none⟩ := by unfold Addr.add; split <;> simp_all
    rw [hadd, cell_of_row w b j cells _ _ hbk, ← hu, ← hc]
    simp
  · intro v' w' h1 h2 _
    refine h v' w' ?_ (ownK_grown hown h2 hb) h2
    unfold OwnG
    rw [List.length_append, fl_app, fl_one]
    exact h1
/-- Appending a slice, a nil one too. -/
theorem appG_list (hk : ∀ a, (enc a).length = k) (hone : ∀ a, ∀ u ∈ enc a, u.oneCell' = true) (k0 : 0 < k) {ST : TypeId} {z : Value} {bytes : Nat} (hu : Try.prog.underlying ST = some (.slice T)) (hinfo : (Try.prog.info? T).map (fun i => (i.zero, i.size, i.bytes)) = some (some z, k, bytes)) (hz0 : z.cells.size = k) (hb64 : bytes ≤ 64)
    (w : World) {ops : Array Oper} {rest : List Oper} {o : Oper} {a : Act} {Q : Exit → Act → World → Prop} (hgd : o.guard = none) (s x : Operand)
    (ho : o.op = .call { callee := .builtin .append, args := #[s, x], argTypes := #[ST, ST] }) (base : Nat) (v : Value) (l m : List α) (hs : a.eval s = v) (hown : OwnG enc T k w base v l)
    (y : Value) (hx : a.eval x = y) (hy : LstG enc w y m) (hb : base ≤ w.heap.size)
    (hl : l.length + m.length ≤ 1099511627776) (h : ∀ v' w', OwnG enc T k w' base v' (l ++ m) → Below base w w' → w.grownBy w' v.ownBlock → (∀ g, v'.ownBlock = some g → v.ownBlock = some g ∨ g = w.heap.size) → wpList Try.prog ops Q rest (a.put o.dst v') w') : wpList Try.prog ops Q (o :: rest) a w := by
  obtain ⟨i, hi, hz, hsz, hby⟩ := info_parts hinfo
  obtain ⟨A, c, rfl, hc, hn, hcell⟩ := hy
  cases A with
  | none =>
    obtain rfl := hn rfl
    have h0 : m = [] := List.length_eq_zero_iff.1 (by omega)
    subst h0
    refine wpList_plain hgd fun K hK => ?_
    have hrun := run_append_owned_none (P := Try.prog) w base ST o.type T i k hu hi v l.length (fl enc l) hown
    unfold Oper.wp
    simp only [List.length_nil] at hx
    simp [execOp, ho, resolve, invoke, builtin, hs, hx, hrun, Result.andThen]
    exact hK _ _ (h v w (by rw [List.append_nil]; exact hown) (Below.refl _ _) ⟨rfl, rfl, rfl, Nat.le_refl _, fun _ _ _ => rfl⟩ (fun _ hg => .inl hg))
  | some ad =>
    have hcells : ∀ (j : Nat) u, (fl enc m)[j]? = some u → w.cell? (ad.add j) = some u := by
      intro j u hu
      have hj := (List.getElem?_eq_some_iff.1 hu).1
      have h0 : 0 < m.length := by
        rcases Nat.eq_zero_or_pos m.length with h | h
        · rw [fl_len hk, h, Nat.zero_mul] at hj; omega
        · exact h
      obtain ⟨b, f, hA, _, hcc⟩ := hcell h0
      obtain rfl := Option.some.inj hA
      have hadd : (⟨b, f, none⟩ : Addr).add j = ⟨b, f + j, none⟩ := by unfold Addr.add; split <;> simp_all
      rw [hadd]
      exact hcc j u hu
    refine wpList_append_where w hgd s x ST ho base T i z k bytes hu hi hz hsz hby hz0 k0 v l.length (fl enc l) hs hown ad m.length c (fl enc m) hx (fl_len hk m) hcells ?_ (by unfold maxLen; omega) (Nat.le_trans (Nat.mul_le_mul_left _ hb64) (by omega)) hb ?_
    · intro u hu
      unfold fl at hu
      obtain ⟨a, _, ha⟩ := List.mem_flatMap.1 hu
      exact hone a u ha
    · intro v' w' h1 h2 h3
      refine h v' w' ?_ (ownK_grown hown h2 hb) h2 h3
      unfold OwnG
      rw [List.length_append, fl_app]
      exact h1
end
end Go.Proofs.Ytkpmmojfnhfflaa
