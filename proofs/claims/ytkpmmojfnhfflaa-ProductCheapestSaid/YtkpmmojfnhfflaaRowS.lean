/-
  Slices of structs of one-cell parts, sliced (l[i:j:m]), and an append to a slice that has no room. Condition: the lengths are below the bounds that each theorem names.
-/
import Derived.Test.YtkpmmojfnhfflaaRow
namespace Go.Proofs.Ytkpmmojfnhfflaa
open Go.RowKit

section
variable {α : Type} {enc : α → List Value} {k : Nat}
theorem fl_drop (hk : ∀ a, (enc a).length = k) (l : List α) (n : Nat) : (fl enc l).drop (n * k) = fl enc (l.drop n) := by
  induction l generalizing n with
  | nil => simp [fl]
  | cons a r ih =>
    cases n with
    | zero => simp
    | succ n =>
      rw [fl_cons, List.drop_succ_cons, ← ih, List.drop_append, List.drop_of_length_le (by rw [hk, Nat.add_mul]; omega), hk, show (n + 1) * k - k = n * k by rw [Nat.add_mul]; omega]
      rfl
theorem LstG.part (hk : ∀ a, (enc a).length = k) {w : World} {A : Option Addr} {c : Nat} {l : List α} (h : LstG enc w (.slice A l.length c) l) (i j m : Nat) (hi : i ≤ j) (hj : j ≤ l.length) (hm : j ≤ m) (hmc : m ≤ c) :
    LstG enc w (sliced A i j m k) ((l.drop i).take (j - i)) := by
  obtain ⟨A', c', hv, hc, hn, hx⟩ := h
  cases hv
  have hl : ((l.drop i).take (j - i)).length = j - i := by rw [List.length_take, List.length_drop]; omega
  refine ⟨if m = i then A else A.map (·.add (i * k)), m - i, by unfold sliced; rw [hl], by omega, fun h0 => ?_, fun h0 => ?_⟩
  · by_cases e : m = i
    · omega
    · rw [if_neg e] at h0
      cases A with
      | none => have := hn rfl; omega
      | some a => cases h0
  · rw [hl] at h0
    obtain ⟨b, o, rfl, hb, hcell⟩ := hx (by omega)
    have hadd : (⟨b, o, none⟩ : Addr).add (i * k) = ⟨b, o + i * k, none⟩ := by unfold Addr.add; split <;> simp_all
    refine ⟨b, o + i * k, by rw [if_neg (by omega)]; simp only [Option.map_some, hadd], hb, fun t x ht => ?_⟩
    rw [← fl_take hk, ← fl_drop hk, List.getElem?_take] at ht
    split at ht
    · rw [List.getElem?_drop] at ht
      rw [Nat.add_assoc]
      exact hcell _ x ht
    · cases ht
theorem run_append_full {P : Program} (w : World) (base : Nat) (t ty e : TypeId) (i : TypeInfo) (z : Value) (size bytes : Nat) (ht : P.underlying t = some (.slice e)) (hi : P.info? e = some i) (hz : i.zero = some z)
    (hsize : i.size = size) (hby : i.bytes = bytes) (hzs : z.cells.size = size)
    (b : Addr) (n : Nat) (xs : List Value) (hxs : xs.length = n * size) (hcs : ∀ j u, xs[j]? = some u → w.cell? (b.add j) = some u)
    (a : Addr) (m c : Nat) (news : List Value) (hl : news.length = m * size) (hnews : ∀ j u, news[j]? = some u → w.cell? (a.add j) = some u) (hm : 0 < m)
    (h63 : n + m ≤ maxLen) (hbytes : (n + m) * bytes ≤ 140737488355328) (hbase : base ≤ w.heap.size) :
    ∃ v' w', (Builtin.append_ #[t, t] ty #[.slice (some b) n n, .slice (some a) m c]).run P w = .ok v' w' ∧ w'.ownsRow base e size v' (n + m) (xs ++ news) ∧ w.grownBy w' none := by
  subst hsize
  subst hby
  have hsmall : n + m ≤ 9223372036854775807 := by unfold maxLen at h63; omega
  have hlen : (xs ++ news).length = (n + m) * i.size := by rw [List.length_append, hxs, hl, Nat.add_mul]
  have hn := run_append_grow (P := P) w t ty e i z ht hi hz b n n xs hxs hcs a m c news hl hnews (by omega) (by omega) (growslice_fits (by omega) hbytes)
  have hge := grownCap_ge w (n + m) n e
  have hcm : grownCap w (n + m) n e ≤ maxLen := grownCap_le_maxLen w (n + m) n e h63
  refine ⟨_, _, hn, ⟨hlen, .inr ⟨w.heap.size, _, _, rfl, hbase, heap_alloc_new w.drew _, hge, hcm, ?_, ?_⟩⟩, ⟨rfl, rfl, rfl, by simp, fun k hk _ => Go.heap_alloc_old w.drew _ hk⟩⟩
  · simp only [Array.size_append, List.size_toArray, size_zeroCells, hzs, hxs, hl, ← Nat.add_mul]
    congr 1
    omega
  · rw [← hlen, Array.toList_append, Array.toList_append]
    exact List.take_left' rfl
variable {T : TypeId}
theorem LstG.reads {w : World} {b : Addr} {n c : Nat} {l : List α} (h : LstG enc w (.slice (some b) n c) l) : ∀ (j : Nat) u, (fl enc l)[j]? = some u → w.cell? (b.add j) = some u := by
  intro j u hu
  obtain ⟨A, c', hv, _, _, hx⟩ := h
  cases hv
  have h0 : 0 < l.length := by
    rcases Nat.eq_zero_or_pos l.length with h | h
    · rw [List.length_eq_zero_iff.1 h] at hu
      simp [fl] at hu
    · exact h
  obtain ⟨g, o, hA, _, hc⟩ := hx h0
  cases hA
  have hadd : (⟨g, o, none⟩ : Addr).add j = ⟨g, o + j, none⟩ := by unfold Addr.add; split <;> simp_all
  rw [hadd]
  exact hc j u hu
/-- Appending one element to a slice that has no room, or to nil: as a step of a region that draws its order. -/
theorem stepG_cut (hk : ∀ a, (enc a).length = k) (hone : ∀ a, ∀ u ∈ enc a, u.oneCell' = true) (k0 : 0 < k) {ST : TypeId} {z : Value} {bytes : Nat} (hu : Try.prog.underlying ST = some (.slice T)) (hinfo : (Try.prog.info? T).map (fun i => (i.zero, i.size, i.bytes)) = some (some z, k, bytes)) (hz0 : z.cells.size = k) (hb64 : bytes ≤ 64)
    (w : World) {ops : Array Oper} {o : Oper} {a : Act} {K : Act → World → Prop} {Q : Exit → Act → World → Prop} {E : Prop} (hgd : o.guard = none) (s x : Operand)
    (ho : o.op = .call { callee := .builtin .append, args := #[s, x], argTypes := #[ST, ST] }) (base : Nat) (A : Option Addr) (n : Nat) (l : List α) (m : α) (hs : a.eval s = .slice A n n) (hlst : LstG enc w (.slice A n n) l)
    (b : Nat) (cells : Array Value) (hbk : w.heap[b]? = some (.cells cells T (0, 0))) (hc : cells.toList = enc m) (hx : a.eval x = .slice (some ⟨b, 0, none⟩) 1 1) (hb : base ≤ w.heap.size)
    (hl : l.length + 1 ≤ 1099511627776) (h : ∀ v' w', OwnG enc T k w' base v' (l ++ [m]) → Below w.heap.size w w' → K (a.put o.dst v') w') : if Region.wanted o (yielded ops a.tmps) = true then Oper.wp Try.prog o a w K Q else E := by
  obtain ⟨i, hi, hz, hsz, hby⟩ := info_parts hinfo
  have hw : Region.wanted o (yielded ops a.tmps) = true := by simp [Region.wanted, hgd]
  rw [if_pos hw]
  have hnl : n = l.length := by obtain ⟨_, _, hv, _⟩ := hlst; cases hv; rfl
  subst hnl
  have hnews : ∀ (j : Nat) u, (enc m)[j]? = some u → w.cell? ((⟨b, 0, none⟩ : Addr).add j) = some u := by
    intro j u hu
    have hadd : (⟨b, 0, none⟩ : Addr).add j = ⟨b, j, none⟩ := by unfold Addr.add; split <;> simp_all
    rw [hadd, cell_of_row w b j cells _ _ hbk, ← hu, ← hc]
    simp
  have hby2 : (l.length + 1) * bytes ≤ 140737488355328 := Nat.le_trans (Nat.mul_le_mul_left _ hb64) (by omega)
  have key : ∃ v' w', (Builtin.append_ #[ST, ST] o.type #[.slice A l.length l.length, .slice (some ⟨b, 0, none⟩) 1 1]).run Try.prog w = .ok v' w' ∧ w'.ownsRow base T k v' (l.length + 1) (fl enc l ++ enc m) ∧ Below w.heap.size w w' := by
    cases A with
    | none =>
      have h0 : l.length = 0 := by obtain ⟨_, c, hv, h1, h2, _⟩ := hlst; cases hv; exact h2 rfl
      obtain rfl := List.length_eq_zero_iff.1 h0
      obtain ⟨v', w', h1, h2, h3, _⟩ := run_append_own (P := Try.prog) w base ST o.type T i z k bytes hu hi hz hsz hby hz0 k0 (.slice none 0 0) 0 [] (World.ownsRow_nil _ _ _ _) ⟨b, 0, none⟩ 1 1 (enc m) (by rw [hk, Nat.one_mul]) hnews (hone m) (by unfold maxLen; omega) (by simpa using hby2) hb
      exact ⟨v', w', h1, h2, ⟨h3.os, h3.tape, h3.output, h3.size, fun j hj => h3.block j hj (by simp [Value.ownBlock])⟩⟩
    | some ad =>
      obtain ⟨v', w', h1, h2, h3⟩ := run_append_full (P := Try.prog) w base ST o.type T i z k bytes hu hi hz hsz hby hz0 ad l.length (fl enc l) (fl_len hk l) hlst.reads ⟨b, 0, none⟩ 1 1 (enc m) (by rw [hk, Nat.one_mul]) hnews (by omega) (by unfold maxLen; omega) hby2 hb
      exact ⟨v', w', h1, h2, ⟨h3.os, h3.tape, h3.output, h3.size, fun j hj => h3.block j hj (by simp)⟩⟩
  obtain ⟨v', w', hr, h2, h3⟩ := key
  have hK : K (a.put o.dst v') w' := h v' w' (by unfold OwnG; rw [List.length_append, fl_app, fl_one]; exact h2) h3
  unfold Oper.wp execOp
  simp only [ho, resolve, invoke, builtin, Sem.run_bind, Sem.run_pure, Result.andThen_ok, List.map_toArray, List.map_cons, List.map_nil, hs, hx, hr]
  exact hK
end
end Go.Proofs.Ytkpmmojfnhfflaa
