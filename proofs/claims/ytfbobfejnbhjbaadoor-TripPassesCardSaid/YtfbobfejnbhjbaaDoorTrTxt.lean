/-
  The code's patternText and events of trips: what each call answers; nothing that existed before the call has changed behind it. Condition: lists of at most 2^35 calls, stops of 64 bits, the table that numerals are made with.
-/
import Derived.Test.YtfbobfejnbhjbaaDoorTrPat
namespace Go.Proofs.YtfbobfejnbhjbaaDoor
open Go.RowKit

set_option maxRecDepth 100000 in
set_option maxHeartbeats 4000000 in
theorem kev_any (s : ByteArray) (r c : Int) (f : Bool) (v : Value) (l : List Cl) (hl : l.length ≤ 34359738368) (w : World) (h : LstC w v l) :
    Calls Tryd.prog 36 #[.agg #[.string s, .int .i64 r, .int .i64 c, .bool f, v]] w fun e w' => ∃ u, e = .returned u ∧ OwnI w' w.heap.size u (evC l) ∧ Below w.heap.size w w' := by
  obtain ⟨w7, hw7⟩ : ∃ W, w.alloc (.cells #[.string s, .int .i64 r, .int .i64 c, .bool f, v] 39 (0, 0)) = W := ⟨_, rfl⟩
  obtain ⟨b7, -, -, -, -, p4, s7⟩ := box_tp hw7
  have B7 := Lib.hid b7
  have H := Lib.hid h
  obtain ⟨A, n, rfl, -, -, -⟩ := h
  clear b7
  go_enter Tryd.func36, Tryd.ntmps36
  go_wp2_with fail
  go_loopw [3, 9] (fun o i wr => ∃ k : Nat, i = .int .i64 k ∧ k ≤ l.length ∧ Hid (OwnI wr w.heap.size o (evC (l.take k))) ∧ Hid (Below w.heap.size w wr)) (fun _ i _ => l.length - (intOf i).toNat)
  case atStart => exact ⟨0, rfl, Nat.zero_le _, Lib.hid (OwnI.nil _ _), B7⟩
  case round =>
    clear p4 hw7
    obtain ⟨k, rfl, hk, HO, HB⟩ := hrel
    by_cases hlt : k < l.length
    · obtain ⟨⟨s, a, d, o, u⟩, hx⟩ := at_lt hlt
      obtain ⟨b, f, rfl, hb, r0, r1, r2, r3, r4⟩ := five_at (H.out.below HB.out) hx
      have gk : (k : Int) < (l.length : Int) := by omega
      obtain ⟨w8, hw8⟩ : ∃ W, wr.alloc (.cells #[.int .i64 s, .int .i64 a, .int .i64 d, .bool o, .bool u] 44 (0, 0)) = W := ⟨_, rfl⟩
      obtain ⟨b8, -, q1, q2, -, -, s8⟩ := box_cc hw8
      have B8 : Hid (Below w.heap.size w w8) := HB.out.trans (b8.mono HB.out.size)
      have O8 := Lib.hid (HO.out.below b8)
      have T := Lib.hid (evC_snoc hx)
      have hn : (evC (l.take k)).length ≤ 68719476736 := by rw [evC_len, List.length_take]; omega
      have z8 := B8.out.size
      clear b8 hb hx HO HB
      go_wp2_with (at_builtin; refine app_ints _ rfl _ _ rfl w.heap.size _ (evC (l.take k)) [a, d] rfl (OwnI.below O8.out ((Below.refl _ _).alloc (Nat.le_refl _) _)) _ rfl (lsti_lit w8 _ [a, d] rfl 2 rfl) (by simp; omega) (by simp; omega) ?_; intro v2 w2 o2 b2; refine Hid.out ?_)
      have O2 : Hid (OwnI w2 w.heap.size v2 (evC (l.take (k + 1)))) := by
        show OwnI _ _ _ _
        rw [T.out]
        exact o2
      have B2 : Hid (Below w.heap.size w w2) := (B8.out.alloc z8 _).trans b2
      clear o2 b2 O8 B8
      refine Lib.hid ?_
      go_wp2_with fail
      go_roundw
      case rel => exact ⟨k + 1, by go_num, by omega, O2, B2⟩
      case measure => simp [intOf]; omega
    · have E : Hid (OwnI wr w.heap.size u3 (evC l)) := by
        have := HO.out
        rw [List.take_of_length_le (by omega)] at this
        exact this
      have d : decide (k < l.length) = false := by rw [decide_eq_false_iff_not]; exact hlt
      clear hlt HO
      go_wp2_with fail
      go_ret
      exact ⟨_, rfl, E.out, HB.out⟩
/-- What an append to a row of bytes leaves: blocks of another type. -/
theorem grown_other {w w' : World} {base : Nat} {v : Value} {l : List UInt8} (o : OwnB w base v l) (hg : w.grownBy w' v.ownBlock) {j : Nat} {cs : Array Value} {T : TypeId} {fr : Nat × Nat} (hj : w.heap[j]? = some (.cells cs T fr)) (hT : T ≠ 5) : w'.heap[j]? = some (.cells cs T fr) := by
  refine (hg.block j (by rcases Nat.lt_or_ge j w.heap.size with h | h; exact h; rw [Array.getElem?_eq_none h] at hj; cases hj) fun e => hT ?_).trans hj
  rcases o.2 with ⟨h0, _⟩ | ⟨g, cap, cur, hv, hbg, hg', hr⟩
  · rw [h0] at e; cases e
  · rw [hv] at e
    cases e
    rw [hj] at hg'
    cases hg'
    rfl
theorem kept_alloc {w : World} {j : Nat} {x o : Obj} (h : w.heap[j]? = some x) : (w.alloc o).heap[j]? = some x := (Go.heap_alloc_old w o (by rcases Nat.lt_or_ge j w.heap.size with h' | h'; exact h'; rw [Array.getElem?_eq_none h'] at h; cases h)).trans h
/-- Appending a new row of bytes; blocks of another type stay. -/
theorem app_bytesK (w : World) {ops : Array Oper} {rest : List Oper} {o : Oper} {a : Act} {Q : Exit → Act → World → Prop} (hgd : o.guard = none) (s x : Operand)
    (ho : o.op = .call { callee := .builtin .append, args := #[s, x], argTypes := #[68, 68] }) (base : Nat) (v : Value) (l m : List UInt8) (hs : a.eval s = v) (hown : OwnB w base v l)
    (k : Nat) (cells : Array Value) (hk : w.heap[k]? = some (.cells cells 5 (0, 0))) (hc : cells.toList = bts m) (hx : a.eval x = .slice (some ⟨k, 0, none⟩) m.length m.length) (hb : base ≤ w.heap.size)
    (hl : l.length + m.length ≤ 140737488355328) (h : ∀ v' w', OwnB w' base v' (l ++ m) → Below base w w' → (∀ (j : Nat) (cs : Array Value) (T : TypeId) (fr : Nat × Nat), w.heap[j]? = some (.cells cs T fr) → T ≠ 5 → w'.heap[j]? = some (.cells cs T fr)) → wpList Tryd.prog ops Q rest (a.put o.dst v') w') : wpList Tryd.prog ops Q (o :: rest) a w := by
  obtain ⟨i, hi, hz, hsz, hby⟩ := info_parts info_u8
  refine wpList_append_own w hgd s x 68 ho base 5 i _ 1 1 Tryd.underlying68 hi hz hsz hby rfl (by decide) v l.length (bts l) hs hown ⟨k, 0, none⟩ m.length m.length (bts m) hx (by simp) ?_ (bts_one m) (by unfold maxLen; omega) (by omega) hb ?_
  · intro j u hu
    have hadd : (⟨k, 0, none⟩ : Addr).add j = ⟨k, j, none⟩ := by unfold Addr.add; split <;> simp_all
    rw [hadd, cell_of_row w k j cells _ _ hk, ← hu, ← hc]
    simp
  · intro v' w' h1 h2 _
    refine h v' w' ?_ (own_grown hown h2 hb) (fun j cs T fr hj hT => grown_other hown h2 hj hT)
    unfold OwnB bts
    rw [List.length_append, List.map_append]
    exact h1
/-- Appending a string's bytes; blocks of another type stay. -/
theorem app_stringK (w : World) {ops : Array Oper} {rest : List Oper} {o : Oper} {a : Act} {Q : Exit → Act → World → Prop} (hgd : o.guard = none) (s x : Operand)
    (ho : o.op = .call { callee := .builtin .append, args := #[s, x], argTypes := #[68, 9] }) (base : Nat) (v : Value) (l : List UInt8) (m : ByteArray) (hs : a.eval s = v) (hown : OwnB w base v l)
    (hx : a.eval x = .string m) (hb : base ≤ w.heap.size)
    (hl : l.length + m.size ≤ 140737488355328) (h : ∀ v' w', OwnB w' base v' (l ++ m.data.toList) → Below base w w' → (∀ (j : Nat) (cs : Array Value) (T : TypeId) (fr : Nat × Nat), w.heap[j]? = some (.cells cs T fr) → T ≠ 5 → w'.heap[j]? = some (.cells cs T fr)) → wpList Tryd.prog ops Q rest (a.put o.dst v') w') : wpList Tryd.prog ops Q (o :: rest) a w := by
  obtain ⟨i, hi, hz, hsz, hby⟩ := info_parts info_u8
  refine Lib.wpList_append_own_string w hgd s x 68 9 ho base 5 i Tryd.underlying68 Tryd.underlying9 hi hz hsz hby v l.length (bts l) hs hown m hx (by unfold maxLen; omega) (by omega) hb ?_
  intro v' w' h1 h2 _
  refine h v' w' ?_ (own_grown hown h2 hb) (fun j cs T fr hj hT => grown_other hown h2 hj hT)
  unfold OwnB bts
  rw [List.length_append, List.map_append, show m.data.toList.length = m.size by simp]
  exact h1
set_option maxRecDepth 100000 in
set_option maxHeartbeats 8000000 in
theorem ktext_any (s : ByteArray) (r c : Int) (f : Bool) (v : Value) (l : List Cl) (hl : l.length ≤ 34359738368) (hs : OkS l) (w : World) (hg : GoodP w) (h : LstC w v l) :
    Calls Tryd.prog 35 #[.agg #[.string s, .int .i64 r, .int .i64 c, .bool f, v]] w fun e w' => e = .returned (.string (str (txP (patV l)))) ∧ Below w.heap.size w w' := by
  obtain ⟨w7, hw7⟩ : ∃ W, w.alloc (.cells #[.string s, .int .i64 r, .int .i64 c, .bool f, v] 39 (0, 0)) = W := ⟨_, rfl⟩
  obtain ⟨b7, -, -, -, -, p4, s7⟩ := box_tp hw7
  have B7 := Lib.hid b7
  have H := Lib.hid h
  have HG := Lib.hid hg
  have HS := Lib.hid hs
  obtain ⟨A, n, rfl, -, -, -⟩ := h
  clear b7 hg hs
  go_enter Tryd.func35, Tryd.ntmps35
  go_wp2_with fail
  go_loopw [3, 9] (fun o i wr => ∃ k : Nat, i = .int .i64 k ∧ k ≤ l.length ∧ Hid (OwnB wr w.heap.size o (txP (patV (l.take k)))) ∧ Hid (Below w.heap.size w wr)) (fun _ i _ => l.length - (intOf i).toNat)
  case atStart => exact ⟨0, rfl, Nat.zero_le _, Lib.hid (OwnB.nil _ _), B7⟩
  case round =>
    clear p4 hw7
    obtain ⟨k, rfl, hk, HO, HB⟩ := hrel
    by_cases hlt : k < l.length
    · obtain ⟨⟨s, a, d, o, u⟩, hx⟩ := at_lt hlt
      obtain ⟨b, f, rfl, hb, r0, r1, r2, r3, r4⟩ := five_at (H.out.below HB.out) hx
      have gk : (k : Int) < (l.length : Int) := by omega
      obtain ⟨w8, hw8⟩ : ∃ W, wr.alloc (.cells #[.int .i64 s, .int .i64 a, .int .i64 d, .bool o, .bool u] 44 (0, 0)) = W := ⟨_, rfl⟩
      obtain ⟨b8, q0, -, -, -, -, s8⟩ := box_cc hw8
      have XB : Hid (w8.heap[wr.heap.size]? = some (boxC s a d o u)) := by show _ = _; rw [← hw8]; exact heap_alloc_new _ _
      have B8 : Hid (Below w.heap.size w w8) := HB.out.trans (b8.mono HB.out.size)
      have O8 : Hid (OwnB w8 w.heap.size u3 (txP (patV (l.take k)))) := own_below HO.out b8
      have T := Lib.hid (txP_snoc hx)
      have hn : (txP (patV (l.take k))).length ≤ 1099511627776 := by have := txP_take HS.out k; omega
      have hb0 := HS.out.at hx
      have IT := Lib.hid (itoa_text s hb0.1 hb0.2 w8 (HG.out.below B8.out))
      have hi := it_len s hb0.1 hb0.2
      have hi2 : (str (Lib.itoa s)).size ≤ 20 := by rw [size_str]; exact hi
      clear b8 hb hx HO HB hb0
      go_wp2_with fail
      refine IT.out.mono ?_
      rintro e w1 ⟨rfl, b1⟩
      have X1 : Hid (w1.heap[wr.heap.size]? = some (boxC s a d o u)) := (b1.block _ s8).trans XB.out
      have B1 : Hid (Below w.heap.size w w1) := B8.out.trans (b1.mono B8.out.size)
      have O1 : Hid (OwnB w1 w.heap.size u3 (txP (patV (l.take k)))) := own_below O8.out b1
      clear b1 q0 B8 O8 XB IT r0 r1 r2 r3 r4 hw8 s8
      go_wp2_with (at_builtin; refine app_stringK _ rfl _ _ rfl w.heap.size _ (txP (patV (l.take k))) (str (Lib.itoa s)) rfl O1.out rfl B1.out.size (by omega) ?_; intro v2 w2 o2 b2 k2; refine Hid.out ?_)
      have O2 : Hid (OwnB w2 w.heap.size v2 (txP (patV (l.take k)) ++ Lib.itoa s)) := o2
      have B2 : Hid (Below w.heap.size w w2) := B1.out.trans b2
      have X2 := Lib.hid (k2 _ _ _ _ X1.out (by decide))
      clear o2 b2 k2 O1 B1 X1
      refine Lib.hid ?_
      obtain ⟨-, -, -, p0, p1⟩ := row_cc X2.out
      generalize hA : txP (patV (l.take k)) ++ Lib.itoa s = acc at *
      have hla : acc.length ≤ 2199023255552 := by rw [← hA, List.length_append]; omega
      clear hA hn hi hi2
      cases o with
      | true =>
        have ha2 : (acc).length ≤ 2199023255652 := by first | omega | (simp only [List.length_append, List.length_singleton]; omega)
        go_wp2_with (at_builtin; refine app_bytesK _ rfl (.tmp 20) (.tmp 21) rfl w.heap.size _ (acc) [98] rfl (own_below O2.out ((Below.refl _ _).alloc (Nat.le_refl _) _)) w2.heap.size _ (heap_alloc_new _ _) rfl rfl (by have := B2.out.size; simp; omega) (by simp only [List.length_singleton]; omega) ?_; intro v3 w3 o3 b3 k3; refine Hid.out ?_)
        have O3 := Lib.hid o3
        have B3 : Hid (Below w.heap.size w w3) := (B2.out.alloc B2.out.size _).trans b3
        have X3 := Lib.hid (k3 _ _ _ _ (kept_alloc X2.out) (by decide))
        clear o3 b3 k3 O2 B2 X2 ha2
        refine Lib.hid ?_
        clear p0 p1
        obtain ⟨-, -, -, -, p1⟩ := row_cc X3.out
        cases u with
        | true =>
          have ha3 : (acc ++ [98]).length ≤ 2199023255652 := by first | omega | (simp only [List.length_append, List.length_singleton]; omega)
          go_wp2_with (at_builtin; refine app_bytesK _ rfl (.tmp 25) (.tmp 26) rfl w.heap.size _ (acc ++ [98]) [97] rfl (own_below O3.out ((Below.refl _ _).alloc (Nat.le_refl _) _)) w3.heap.size _ (heap_alloc_new _ _) rfl rfl (by have := B3.out.size; simp; omega) (by simp only [List.length_singleton]; omega) ?_; intro v4 w4 o4 b4 k4; refine Hid.out ?_)
          have O4 := Lib.hid o4
          have B4 : Hid (Below w.heap.size w w4) := (B3.out.alloc B3.out.size _).trans b4
          have X4 := Lib.hid (k4 _ _ _ _ (kept_alloc X3.out) (by decide))
          clear o4 b4 k4 O3 B3 X3 ha3
          refine Lib.hid ?_
          clear p1
          have ha4 : (acc ++ [98] ++ [97]).length ≤ 2199023255652 := by first | omega | (simp only [List.length_append, List.length_singleton]; omega)
          go_wp2_with (at_builtin; refine app_bytesK _ rfl (.tmp 28) (.tmp 29) rfl w.heap.size _ (acc ++ [98] ++ [97]) [44] rfl (own_below O4.out ((Below.refl _ _).alloc (Nat.le_refl _) _)) w4.heap.size _ (heap_alloc_new _ _) rfl rfl (by have := B4.out.size; simp; omega) (by simp only [List.length_singleton]; omega) ?_; intro v5 w5 o5 b5 k5; refine Hid.out ?_)
          have O5 := Lib.hid o5
          have B5 : Hid (Below w.heap.size w w5) := (B4.out.alloc B4.out.size _).trans b5
          have X5 := Lib.hid (k5 _ _ _ _ (kept_alloc X4.out) (by decide))
          clear o5 b5 k5 O4 B4 X4 ha4
          refine Lib.hid ?_
          have E : Hid (OwnB w5 w.heap.size v5 (txP (patV (l.take (k + 1))))) := by
            show OwnB _ _ _ _
            rw [T.out]
            simpa using O5.out
          clear O5 X5 T
          go_wp2_with fail
          go_roundw
          case rel => exact ⟨k + 1, by go_num, by omega, E, B5⟩
          case measure => simp [intOf]; omega
        | false =>
          have ha3 : (acc ++ [98]).length ≤ 2199023255652 := by first | omega | (simp only [List.length_append, List.length_singleton]; omega)
          go_wp2_with (at_builtin; refine app_bytesK _ rfl (.tmp 28) (.tmp 29) rfl w.heap.size _ (acc ++ [98]) [44] rfl (own_below O3.out ((Below.refl _ _).alloc (Nat.le_refl _) _)) w3.heap.size _ (heap_alloc_new _ _) rfl rfl (by have := B3.out.size; simp; omega) (by simp only [List.length_singleton]; omega) ?_; intro v4 w4 o4 b4 k4; refine Hid.out ?_)
          have O4 := Lib.hid o4
          have B4 : Hid (Below w.heap.size w w4) := (B3.out.alloc B3.out.size _).trans b4
          have X4 := Lib.hid (k4 _ _ _ _ (kept_alloc X3.out) (by decide))
          clear o4 b4 k4 O3 B3 X3 ha3
          refine Lib.hid ?_
          have E : Hid (OwnB w4 w.heap.size v4 (txP (patV (l.take (k + 1))))) := by
            show OwnB _ _ _ _
            rw [T.out]
            simpa using O4.out
          clear O4 X4 T
          go_wp2_with fail
          go_roundw
          case rel => exact ⟨k + 1, by go_num, by omega, E, B4⟩
          case measure => simp [intOf]; omega
      | false =>
        cases u with
        | true =>
          have ha2 : (acc).length ≤ 2199023255652 := by first | omega | (simp only [List.length_append, List.length_singleton]; omega)
          go_wp2_with (at_builtin; refine app_bytesK _ rfl (.tmp 25) (.tmp 26) rfl w.heap.size _ (acc) [97] rfl (own_below O2.out ((Below.refl _ _).alloc (Nat.le_refl _) _)) w2.heap.size _ (heap_alloc_new _ _) rfl rfl (by have := B2.out.size; simp; omega) (by simp only [List.length_singleton]; omega) ?_; intro v3 w3 o3 b3 k3; refine Hid.out ?_)
          have O3 := Lib.hid o3
          have B3 : Hid (Below w.heap.size w w3) := (B2.out.alloc B2.out.size _).trans b3
          have X3 := Lib.hid (k3 _ _ _ _ (kept_alloc X2.out) (by decide))
          clear o3 b3 k3 O2 B2 X2 ha2
          refine Lib.hid ?_
          clear p1
          have ha3 : (acc ++ [97]).length ≤ 2199023255652 := by first | omega | (simp only [List.length_append, List.length_singleton]; omega)
          go_wp2_with (at_builtin; refine app_bytesK _ rfl (.tmp 28) (.tmp 29) rfl w.heap.size _ (acc ++ [97]) [44] rfl (own_below O3.out ((Below.refl _ _).alloc (Nat.le_refl _) _)) w3.heap.size _ (heap_alloc_new _ _) rfl rfl (by have := B3.out.size; simp; omega) (by simp only [List.length_singleton]; omega) ?_; intro v4 w4 o4 b4 k4; refine Hid.out ?_)
          have O4 := Lib.hid o4
          have B4 : Hid (Below w.heap.size w w4) := (B3.out.alloc B3.out.size _).trans b4
          have X4 := Lib.hid (k4 _ _ _ _ (kept_alloc X3.out) (by decide))
          clear o4 b4 k4 O3 B3 X3 ha3
          refine Lib.hid ?_
          have E : Hid (OwnB w4 w.heap.size v4 (txP (patV (l.take (k + 1))))) := by
            show OwnB _ _ _ _
            rw [T.out]
            simpa using O4.out
          clear O4 X4 T
          go_wp2_with fail
          go_roundw
          case rel => exact ⟨k + 1, by go_num, by omega, E, B4⟩
          case measure => simp [intOf]; omega
        | false =>
          have ha2 : (acc).length ≤ 2199023255652 := by first | omega | (simp only [List.length_append, List.length_singleton]; omega)
          go_wp2_with (at_builtin; refine app_bytesK _ rfl (.tmp 28) (.tmp 29) rfl w.heap.size _ (acc) [44] rfl (own_below O2.out ((Below.refl _ _).alloc (Nat.le_refl _) _)) w2.heap.size _ (heap_alloc_new _ _) rfl rfl (by have := B2.out.size; simp; omega) (by simp only [List.length_singleton]; omega) ?_; intro v3 w3 o3 b3 k3; refine Hid.out ?_)
          have O3 := Lib.hid o3
          have B3 : Hid (Below w.heap.size w w3) := (B2.out.alloc B2.out.size _).trans b3
          have X3 := Lib.hid (k3 _ _ _ _ (kept_alloc X2.out) (by decide))
          clear o3 b3 k3 O2 B2 X2 ha2
          refine Lib.hid ?_
          have E : Hid (OwnB w3 w.heap.size v3 (txP (patV (l.take (k + 1))))) := by
            show OwnB _ _ _ _
            rw [T.out]
            simpa using O3.out
          clear O3 X3 T
          go_wp2_with fail
          go_roundw
          case rel => exact ⟨k + 1, by go_num, by omega, E, B3⟩
          case measure => simp [intOf]; omega
    · have E : Hid (OwnB wr w.heap.size u3 (txP (patV l))) := by
        have := HO.out
        rw [List.take_of_length_le (by omega)] at this
        exact this
      have d : decide (k < l.length) = false := by rw [decide_eq_false_iff_not]; exact hlt
      have CV := own_conv E.out
      clear hlt HO
      go_wp2_with fail
      go_ret
      exact ⟨rfl, HB.out⟩
end Go.Proofs.YtfbobfejnbhjbaaDoor
