/-
  The laws TripGroups, TripConnects, TripPasses: each answers true for every input; nothing that existed before the call has changed behind it. Condition: the table that numerals are made with; lengths of 63 bits.
-/
import Derived.Test.YtfbobfejnbhjbaaDoorTrLaw
namespace Go.Proofs.YtfbobfejnbhjbaaDoor
open Go.RowKit

theorem ixF_split {α : Type} (p : α → Bool) : ∀ (a b : List α) (k : Nat), ixF p k (a ++ b) = ixF p k a ++ ixF p (k + a.length) b
  | [], b, k => rfl
  | x :: a, b, k => by
    have ih := ixF_split p a b (k + 1)
    rw [List.cons_append]
    have e : k + 1 + a.length = k + (x :: a).length := by rw [List.length_cons]; omega
    show (if p x then (k : Int) :: ixF p (k + 1) (a ++ b) else ixF p (k + 1) (a ++ b)) = (if p x then (k : Int) :: ixF p (k + 1) a else ixF p (k + 1) a) ++ ixF p (k + (x :: a).length) b
    rw [ih, e]
    split <;> rfl
theorem ix_nth {α : Type} {p : α → Bool} {l : List α} {i : Nat} {x : α} (h : l[i]? = some x) (hp : p x = true) : (ixs p l)[(ixs p (l.take i)).length]? = some (i : Int) := by
  have h1 : ixs p l = ixs p (l.take (i + 1)) ++ ixF p (0 + (l.take (i + 1)).length) (l.drop (i + 1)) := by
    conv => lhs; rw [← List.take_append_drop (i + 1) l]
    exact ixF_split p _ _ 0
  rw [h1, ix_hit h hp, List.append_assoc, List.getElem?_append_right (Nat.le_refl _), Nat.sub_self]
  rfl
theorem ix_val {α : Type} {p : α → Bool} {l : List α} {i : Nat} {z : Int} (h : (ixs p l)[i]? = some z) : ∃ (j : Nat) (x : α), z = (j : Int) ∧ l[j]? = some x ∧ p x = true := by
  have F : ∀ (l : List α) (k i : Nat), (ixF p k l)[i]? = some z → ∃ (j : Nat) (x : α), z = ((k + j : Nat) : Int) ∧ l[j]? = some x ∧ p x = true := by
    intro l
    induction l with
    | nil => intro k i h; simp [ixF] at h
    | cons y r ih =>
      intro k i h
      unfold ixF at h
      by_cases hp : p y = true
      · rw [if_pos hp] at h
        cases i with
        | zero =>
          simp at h
          exact ⟨0, y, by rw [← h]; rfl, rfl, hp⟩
        | succ i =>
          rw [List.getElem?_cons_succ] at h
          obtain ⟨j, x, h1, h2, h3⟩ := ih (k + 1) i h
          exact ⟨j + 1, x, by rw [h1]; congr 1; omega, h2, h3⟩
      · rw [if_neg hp] at h
        obtain ⟨j, x, h1, h2, h3⟩ := ih (k + 1) i h
        exact ⟨j + 1, x, by rw [h1]; congr 1; omega, h2, h3⟩
  obtain ⟨j, x, h1, h2, h3⟩ := F l 0 i h
  exact ⟨j, x, by rw [Nat.zero_add] at h1; exact h1, h2, h3⟩
set_option maxRecDepth 100000 in
set_option maxHeartbeats 16000000 in
theorem groups_law (v : Value) (l : List Tp) (hl : l.length ≤ 9223372036854775807) (_ : OkTs l) (w : World) (hg : GoodP w) (h : LstTp w v l) : Calls Tryd.prog 6 #[v] w fun e w' => e = .returned (.bool true) ∧ Below w.heap.size w w' := by
  have H := Lib.hid h
  have G0 := Lib.hid hg
  have TB := Lib.hid (table_any v l hl 40 w H.out)
  clear hg
  obtain ⟨⟨A, n, rfl, -, -, -⟩, -⟩ := h
  by_cases ht : tabT 40 l = false
  · rw [ht] at TB
    clear ht hl
    go_enter Tryd.func6, Tryd.ntmps6
    go_wp2_with fail
    refine TB.out.mono ?_
    rintro e w1 ⟨rfl, b1⟩
    have B1 : Hid (Below w.heap.size w w1) := b1
    have G1 := Lib.hid (G0.out.below b1)
    clear b1 TB G0 H
    go_wp2_with fail
    refine (ex_any _ G1.out).mono ?_
    rintro e x9 ⟨rfl, y9⟩
    have B9 : Hid (Below w.heap.size w x9) := B1.out.trans (y9.mono B1.out.size)
    clear y9 
    go_wp2_with fail
    go_ret
    exact ⟨rfl, B9.out⟩
  rw [Bool.not_eq_false] at ht
  have hn := tab_len ht
  have HC := Lib.hid (tab_small ht)
  rw [ht] at TB
  have hn40 : l.length ≤ 40 := by omega
  clear ht hn
  go_enter Tryd.func6, Tryd.ntmps6
  go_wp2_with fail
  refine TB.out.mono ?_
  rintro e w1 ⟨rfl, b1⟩
  have B1 : Hid (Below w.heap.size w w1) := b1
  have G1 := Lib.hid (G0.out.below b1)
  have H1 := Lib.hid (H.out.below b1)
  clear b1 TB G0 H
  go_wp2_with fail
  refine (kgrp_any (.slice A l.length n) l (by omega) (fun x hx => Nat.le_trans (HC.out x hx) (by decide)) w1 G1.out H1.out).mono ?_
  rintro e w2 ⟨u, rfl, lg, b2⟩
  have B2 : Hid (Below w.heap.size w w2) := B1.out.trans (b2.mono B1.out.size)
  have G2 := Lib.hid (G1.out.below b2)
  have H2 := Lib.hid (H1.out.below b2)
  have L2 := Lib.hid lg
  obtain ⟨AG, cg, rfl⟩ := lg.len
  obtain ⟨N, hN⟩ : ∃ N, (grp (l.map ptT)).length = N := ⟨_, rfl⟩
  have HN := Lib.hid hN
  have hNl : N ≤ 40 := by
    rw [← hN, grp_len]
    exact Nat.le_trans (uq_le _) (by rw [List.length_map]; omega)
  rw [hN] at L2 ⊢
  clear hN b2 lg B1 G1 H1 HC
  go_wp2_with fail
  go_loopw [4, 5] (fun m i wr => ∃ k : Nat, m = .int .i64 (((uq ((l.map ptT).take k)).length : Nat) : Int) ∧ i = .int .i64 k ∧ k ≤ l.length ∧ Hid (Below w2.heap.size w2 wr)) (fun _ i _ => l.length - (intOf i).toNat)
  case atStart => exact ⟨0, rfl, rfl, Nat.zero_le _, Lib.hid (Below.refl _ _)⟩
  case round =>
    obtain ⟨k, rfl, rfl, hk, HB⟩ := hrel
    by_cases hlt : k < l.length
    · obtain ⟨x, hx⟩ := at_lt hlt
      have KX := Lib.hid (pt_at hx)
      have gk : (k : Int) < (l.length : Int) := by omega
      have C := Lib.hid (rgrp_any (.slice A l.length n) l (by omega) k hlt wr (H2.out.below HB.out))
      clear hx
      by_cases hm : ptT x ∈ (l.map ptT).take k
      · have S := Lib.hid (rg_skip KX.out hm)
        rw [rg_old KX.out hm] at C
        clear hm
        go_wp2_with fail
        refine C.out.mono ?_
        rintro e w3 ⟨u, rfl, li, b3⟩
        have B3 : Hid (Below w2.heap.size w2 w3) := HB.out.trans (b3.mono HB.out.size)
        obtain ⟨A3, c3, rfl, -, -, -⟩ := li
        simp only [List.length_nil]
        clear b3 C HB
        go_wp2_with fail
        go_roundw
        case rel => exact ⟨k + 1, by rw [S.out], by go_num, by omega, B3⟩
        case measure => simp [intOf]; omega
      · obtain ⟨r1, r2, r3⟩ := rg_at KX.out hm
        have R1 := Lib.hid r1
        have R3 := Lib.hid r3
        have hmN : (uq ((l.map ptT).take k)).length < N := by rw [← HN.out]; exact (List.getElem?_eq_some_iff.1 r1).1
        obtain ⟨m, hm'⟩ : ∃ m, (uq ((l.map ptT).take k)).length = m := ⟨_, rfl⟩
        rw [hm'] at R1 R3 hmN ⊢
        obtain ⟨rg, hrg⟩ : ∃ rg, rGrp (l.map ptT) k = rg := ⟨_, rfl⟩
        have hrl : rg.length ≤ 40 := by
          rw [← hrg, rg_new KX.out hm]
          exact Nat.le_trans (ix_le _ _) (by rw [List.length_map]; omega)
        rw [hrg] at C R1 r2
        have e0 := beq_false (a := (rg.length : Int)) (b := 0) (by omega)
        have dN : decide ((N : Int) ≤ (m : Int)) = false := decide_eq_false (by omega)
        have dN' : decide (N ≤ m) = false := decide_eq_false (by omega)
        clear hm r1 r2 r3 hm' hrg
        go_wp2_with fail
        refine C.out.mono ?_
        rintro e w3 ⟨u, rfl, li, b3⟩
        have B3 : Hid (Below w2.heap.size w2 w3) := HB.out.trans (b3.mono HB.out.size)
        have LI := Lib.hid li
        obtain ⟨A3, c3, rfl, -, -, -⟩ := li
        obtain ⟨-, b, o, t, rfl, -, q0, lt⟩ := (L2.out.below B3.out).at R1.out
        have LT := Lib.hid lt
        obtain ⟨A4, c4, hv, -, -, -⟩ := _root_.id lt
        rw [hv] at q0 LT
        have SM := Lib.hid (Calls.below (lsame_any (.slice A4 rg.length c4) (.slice A3 rg.length c3) rg rg (by omega) w3 LT.out LI.out))
        rw [show decide (rg = rg) = true from decide_eq_true rfl] at SM
        have gm : (m : Int) < (N : Int) := by omega
        clear b3 C HB lt hv LI LT
        go_wp2_with fail
        refine SM.out.mono ?_
        rintro e w4 ⟨rfl, b4⟩
        have B4 : Hid (Below w2.heap.size w2 w4) := B3.out.trans (b4.mono B3.out.size)
        clear b4 B3 SM q0
        go_wp2_with fail
        go_roundw
        case rel => exact ⟨k + 1, by rw [R3.out]; go_num, by go_num, by omega, B4⟩
        case measure => simp [intOf]; omega
    · have d : decide (k < l.length) = false := by rw [decide_eq_false_iff_not]; exact hlt
      have E := uq_done (ks := l.map ptT) (i := k) (by rw [List.length_map]; omega)
      rw [HN.out] at E
      rw [E]
      have t1 := beq_true (a := (N : Int)) rfl
      have B5 : Hid (Below w.heap.size w wr) := B2.out.trans (HB.out.mono B2.out.size)
      have G5 := Lib.hid (G2.out.below HB.out)
      clear hlt E HB B2 G2 H2 L2
      go_wp2_with fail
      refine (ex_any _ G5.out).mono ?_
      rintro e x9 ⟨rfl, y9⟩
      have B9 : Hid (Below w.heap.size w x9) := B5.out.trans (y9.mono B5.out.size)
      clear y9 
      go_wp2_with fail
      go_ret
      exact ⟨rfl, B9.out⟩
set_option maxRecDepth 100000 in
set_option maxHeartbeats 16000000 in
theorem connects_law (v : Value) (l : List Tp) (hl : l.length ≤ 9223372036854775807) (_ : OkTs l) (st to : Int) (w : World) (hg : GoodP w) (h : LstTp w v l) : Calls Tryd.prog 8 #[v, .int .i64 st, .int .i64 to] w fun e w' => e = .returned (.bool true) ∧ Below w.heap.size w w' := by
  have H := Lib.hid h
  have G0 := Lib.hid hg
  have TB := Lib.hid (table_any v l hl 40 w H.out)
  clear hg
  obtain ⟨⟨A, n, rfl, -, -, -⟩, -⟩ := h
  by_cases ht : tabT 40 l = false
  · rw [ht] at TB
    clear ht hl
    go_enter Tryd.func8, Tryd.ntmps8
    go_wp2_with fail
    refine TB.out.mono ?_
    rintro e w1 ⟨rfl, b1⟩
    have B1 : Hid (Below w.heap.size w w1) := b1
    have G1 := Lib.hid (G0.out.below b1)
    clear b1 TB G0 H
    go_wp2_with fail
    refine (ex_any _ G1.out).mono ?_
    rintro e x9 ⟨rfl, y9⟩
    have B9 : Hid (Below w.heap.size w x9) := B1.out.trans (y9.mono B1.out.size)
    clear y9 
    go_wp2_with fail
    go_ret
    exact ⟨rfl, B9.out⟩
  rw [Bool.not_eq_false] at ht
  have hn := tab_len ht
  have HC := Lib.hid (tab_small ht)
  rw [ht] at TB
  have hn40 : l.length ≤ 40 := by omega
  clear ht hn
  go_enter Tryd.func8, Tryd.ntmps8
  go_wp2_with fail
  refine TB.out.mono ?_
  rintro e w1 ⟨rfl, b1⟩
  have B1 : Hid (Below w.heap.size w w1) := b1
  have G1 := Lib.hid (G0.out.below b1)
  have H1 := Lib.hid (H.out.below b1)
  clear b1 TB G0 H
  go_wp2_with fail
  refine (kbtw_any (.slice A l.length n) l (by omega) st to w1 H1.out).mono ?_
  rintro e w2 ⟨u, rfl, og, b2⟩
  have B2 : Hid (Below w.heap.size w w2) := B1.out.trans (b2.mono B1.out.size)
  have G2 := Lib.hid (G1.out.below b2)
  have H2 := Lib.hid (H1.out.below b2)
  have L2 := Lib.hid (OwnI.lst og)
  obtain ⟨AG, cg, rfl⟩ := own_shape' og
  obtain ⟨N, hN⟩ : ∃ N, (ixs (cnT st to) l).length = N := ⟨_, rfl⟩
  have HN := Lib.hid hN
  have hNl : N ≤ 40 := by
    rw [← hN]
    exact Nat.le_trans (ix_le _ _) hn40
  rw [hN] at L2 ⊢
  clear hN b2 og B1 G1 H1
  go_wp2_with fail
  go_loopw [8, 9] (fun m i wr => ∃ k : Nat, m = .int .i64 (((ixs (cnT st to) (l.take k)).length : Nat) : Int) ∧ i = .int .i64 k ∧ k ≤ l.length ∧ Hid (Below w2.heap.size w2 wr)) (fun _ i _ => l.length - (intOf i).toNat)
  case atStart => exact ⟨0, rfl, rfl, Nat.zero_le _, Lib.hid (Below.refl _ _)⟩
  case round =>
    obtain ⟨k, rfl, rfl, hk, HB⟩ := hrel
    by_cases hlt : k < l.length
    · obtain ⟨⟨ix, r, c, f, v, cl⟩, hx⟩ := at_lt hlt
      obtain ⟨nm, hnm⟩ : ∃ nm, str ix = nm := ⟨_, rfl⟩
      obtain ⟨b, o, B, m', rfl, rfl, hb, r0, r1, r2, r3, r4, lc, lcl, -⟩ := trip_at (H2.out.below HB.out) hx hnm
      have hcl : cl.length ≤ 40 := HC.out _ (List.mem_iff_getElem?.2 ⟨k, hx⟩)
      have gk : (k : Int) < (l.length : Int) := by omega
      have C := Lib.hid (rcon_any nm r c f (.slice B cl.length m') cl (by omega) st to wr lc)
      cases hc : conT st to cl with
      | false =>
        have S := Lib.hid (ix_miss (p := cnT st to) hx hc)
        rw [hc] at C
        clear hx hnm hb lc lcl hc hcl
        go_wp2_with fail
        refine C.out.mono ?_
        rintro e w3 ⟨rfl, b3⟩
        have B3 : Hid (Below w2.heap.size w2 w3) := HB.out.trans (b3.mono HB.out.size)
        clear b3 C HB r0 r1 r2 r3 r4
        go_wp2_with fail
        go_roundw
        case rel => exact ⟨k + 1, by rw [S.out], by go_num, by omega, B3⟩
        case measure => simp [intOf]; omega
      | true =>
        have S := Lib.hid (ix_hit (p := cnT st to) hx hc)
        have R1 := Lib.hid (ix_nth (p := cnT st to) hx hc)
        rw [hc] at C
        have hmN : (ixs (cnT st to) (l.take k)).length < N := by rw [← HN.out]; exact (List.getElem?_eq_some_iff.1 R1.out).1
        have SL : Hid ((ixs (cnT st to) (l.take (k + 1))).length = (ixs (cnT st to) (l.take k)).length + 1) := by show _ = _; rw [S.out, List.length_append]; rfl
        obtain ⟨m, hm'⟩ : ∃ m, (ixs (cnT st to) (l.take k)).length = m := ⟨_, rfl⟩
        rw [hm'] at R1 hmN SL ⊢
        have dN : decide ((N : Int) ≤ (m : Int)) = false := decide_eq_false (by omega)
        have dN' : decide (N ≤ m) = false := decide_eq_false (by omega)
        have gm : (m : Int) < (N : Int) := by omega
        have te := neq_false (a := (k : Int)) (b := (k : Int)) rfl
        clear hx hnm hb lc lcl hc hcl hm' S
        go_wp2_with fail
        refine C.out.mono ?_
        rintro e w3 ⟨rfl, b3⟩
        have B3 : Hid (Below w2.heap.size w2 w3) := HB.out.trans (b3.mono HB.out.size)
        obtain ⟨b', o', rfl, hb', hcell⟩ : ∃ b o, AG = some ⟨b, o, none⟩ ∧ b < w3.heap.size ∧ ∀ (j : Nat) z, (ints (ixs (cnT st to) l))[j]? = some z → w3.cell? ⟨b, o + j, none⟩ = some z := by
          obtain ⟨A1, c1, e1, -, -, h1⟩ := L2.out.below B3.out
          cases e1
          exact h1 (by rw [HN.out]; omega)
        have q0 := hcell m _ (ints_at _ m _ R1.out)
        clear b3 C HB r0 r1 r2 r3 r4 hb' hcell R1
        go_wp2_with fail
        go_roundw
        case rel => exact ⟨k + 1, by rw [SL.out]; go_num, by go_num, by omega, B3⟩
        case measure => simp [intOf]; omega
    · have d : decide (k < l.length) = false := by rw [decide_eq_false_iff_not]; exact hlt
      rw [List.take_of_length_le (by omega), HN.out]
      have t1 := beq_true (a := (N : Int)) rfl
      have B5 : Hid (Below w.heap.size w wr) := B2.out.trans (HB.out.mono B2.out.size)
      have G5 := Lib.hid (G2.out.below HB.out)
      clear hlt HB B2 G2 H2 L2
      go_wp2_with fail
      refine (ex_any _ G5.out).mono ?_
      rintro e x9 ⟨rfl, y9⟩
      have B9 : Hid (Below w.heap.size w x9) := B5.out.trans (y9.mono B5.out.size)
      clear y9 
      go_wp2_with fail
      go_ret
      exact ⟨rfl, B9.out⟩
set_option maxRecDepth 100000 in
set_option maxHeartbeats 16000000 in
theorem passes_law (v : Value) (l : List Tp) (hl : l.length ≤ 9223372036854775807) (_ : OkTs l) (st to : Int) (w : World) (hg : GoodP w) (h : LstTp w v l) : Calls Tryd.prog 11 #[v, .int .i64 st, .int .i64 to] w fun e w' => e = .returned (.bool true) ∧ Below w.heap.size w w' := by
  have H := Lib.hid h
  have G0 := Lib.hid hg
  have TB := Lib.hid (table_any v l hl 40 w H.out)
  clear hg
  obtain ⟨⟨A, n, rfl, -, -, -⟩, -⟩ := h
  by_cases ht : tabT 40 l = false
  · rw [ht] at TB
    clear ht hl
    go_enter Tryd.func11, Tryd.ntmps11
    go_wp2_with fail
    refine TB.out.mono ?_
    rintro e w1 ⟨rfl, b1⟩
    have B1 : Hid (Below w.heap.size w w1) := b1
    have G1 := Lib.hid (G0.out.below b1)
    clear b1 TB G0 H
    go_wp2_with fail
    refine (ex_any _ G1.out).mono ?_
    rintro e x9 ⟨rfl, y9⟩
    have B9 : Hid (Below w.heap.size w x9) := B1.out.trans (y9.mono B1.out.size)
    clear y9 
    go_wp2_with fail
    go_ret
    exact ⟨rfl, B9.out⟩
  rw [Bool.not_eq_false] at ht
  have hn := tab_len ht
  have HC := Lib.hid (tab_small ht)
  rw [ht] at TB
  have hn40 : l.length ≤ 40 := by omega
  clear ht hn
  go_enter Tryd.func11, Tryd.ntmps11
  go_wp2_with fail
  refine TB.out.mono ?_
  rintro e w1 ⟨rfl, b1⟩
  have B1 : Hid (Below w.heap.size w w1) := b1
  have G1 := Lib.hid (G0.out.below b1)
  have H1 := Lib.hid (H.out.below b1)
  clear b1 TB G0 H
  go_wp2_with fail
  refine (kbtw_any (.slice A l.length n) l (by omega) st to w1 H1.out).mono ?_
  rintro e w2 ⟨u, rfl, og, b2⟩
  have B2 : Hid (Below w.heap.size w w2) := B1.out.trans (b2.mono B1.out.size)
  have G2 := Lib.hid (G1.out.below b2)
  have H2 := Lib.hid (H1.out.below b2)
  have L2 := Lib.hid (OwnI.lst og)
  obtain ⟨AG, cg, rfl⟩ := own_shape' og
  obtain ⟨N, hN⟩ : ∃ N, (ixs (cnT st to) l).length = N := ⟨_, rfl⟩
  have HN := Lib.hid hN
  have hNl : N ≤ 40 := by
    rw [← hN]
    exact Nat.le_trans (ix_le _ _) hn40
  rw [hN] at L2 ⊢
  clear hN b2 og B1 G1 H1
  go_wp2_with fail
  go_loopw [8] (fun i wr => ∃ k : Nat, i = .int .i64 k ∧ k ≤ N ∧ Hid (Below w2.heap.size w2 wr)) (fun i _ => N - (intOf i).toNat)
  case atStart => exact ⟨0, rfl, Nat.zero_le _, Lib.hid (Below.refl _ _)⟩
  case round =>
    obtain ⟨k, rfl, hk, HB⟩ := hrel
    by_cases hlt : k < N
    · obtain ⟨z, hz⟩ := at_lt (l := ixs (cnT st to) l) (k := k) (by rw [HN.out]; exact hlt)
      obtain ⟨j, ⟨ix, r, c, f, v, cl⟩, rfl, hx, hc⟩ := ix_val hz
      obtain ⟨nm, hnm⟩ : ∃ nm, str ix = nm := ⟨_, rfl⟩
      obtain ⟨b, o, B, m', rfl, rfl, hb, r0, r1, r2, r3, r4, lc, lcl, -⟩ := trip_at (H2.out.below HB.out) hx hnm
      have hcl : cl.length ≤ 40 := HC.out _ (List.mem_iff_getElem?.2 ⟨j, hx⟩)
      have hj := (List.getElem?_eq_some_iff.1 hx).1
      obtain ⟨b', o', rfl, hb', hcell⟩ : ∃ b o, AG = some ⟨b, o, none⟩ ∧ b < wr.heap.size ∧ ∀ (j : Nat) z, (ints (ixs (cnT st to) l))[j]? = some z → wr.cell? ⟨b, o + j, none⟩ = some z := by
        obtain ⟨A1, c1, e1, -, -, h1⟩ := L2.out.below HB.out
        cases e1
        exact h1 (by rw [HN.out]; omega)
      have q0 := hcell k _ (ints_at _ k _ hz)
      have gk : (k : Int) < (N : Int) := by omega
      have gj : (j : Int) < (l.length : Int) := by omega
      have d0 : decide ((j : Int) < 0) = false := by rw [decide_eq_false_iff_not]; omega
      have d1 : decide ((l.length : Int) ≤ (j : Int)) = false := by rw [decide_eq_false_iff_not]; omega
      have d1' : decide (l.length ≤ j) = false := by rw [decide_eq_false_iff_not]; omega
      have C := Lib.hid (kpat_any nm r c f (.slice B cl.length m') cl (by omega) wr lc)
      have PS := Lib.hid (con_pas (show conT st to cl = true from hc))
      have PP := Lib.hid (fun u W hW => pass_any u (stpC cl) (by rw [stp_len]; omega) st to W hW)
      rw [PS.out] at PP
      clear hx hnm hb hb' hcell lc lcl hc hcl hz hj PS
      go_wp2_with fail
      refine C.out.mono ?_
      rintro e w3 ⟨u, rfl, o3, b3⟩
      have B3 : Hid (Below w2.heap.size w2 w3) := HB.out.trans (b3.mono HB.out.size)
      have I3 := Lib.hid (OwnI.lst o3)
      clear b3 C HB r0 r1 r2 r3 r4 o3 q0
      go_wp2_with fail
      refine (PP.out _ _ I3.out).mono ?_
      rintro e w' ⟨rfl, rfl⟩
      go_wp2_with fail
      go_roundw
      case rel => exact ⟨k + 1, by go_num, by omega, B3⟩
      case measure => simp [intOf]; omega
    · have d : decide (k < N) = false := by rw [decide_eq_false_iff_not]; exact hlt
      have B5 : Hid (Below w.heap.size w wr) := B2.out.trans (HB.out.mono B2.out.size)
      have G5 := Lib.hid (G2.out.below HB.out)
      clear hlt HB B2 G2 H2 L2
      go_wp2_with fail
      refine (ex_any _ G5.out).mono ?_
      rintro e x9 ⟨rfl, y9⟩
      have B9 : Hid (Below w.heap.size w x9) := B5.out.trans (y9.mono B5.out.size)
      clear y9 
      go_wp2_with fail
      go_ret
      exact ⟨rfl, B9.out⟩
end Go.Proofs.YtfbobfejnbhjbaaDoor
