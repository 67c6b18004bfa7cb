/-
  The laws on a table without the reference: that Find inverts Name, that Sorted rises, that prefixes give sections: each call answers true; nothing that existed before the call has changed behind it. Condition: none.
-/
import Derived.Test.YtfmajfmimgcfnaaILaw2
namespace Go.Proofs.Ytfmajfmimgcfnaa
open Go.RowKit

/-! ### rises -/
theorem rises_next {ls : List (List UInt8)} {o : List Nat} (h : Rises ls o) {k x y : Nat} (hx : o[k]? = some x) (hy : o[k + 1]? = some y) : cmpL (nameAt ls x) (nameAt ls y) = -1 := by
  unfold Rises at h
  rw [List.pairwise_iff_getElem] at h
  obtain ⟨i1, e1⟩ := List.getElem?_eq_some_iff.1 hx
  obtain ⟨i2, e2⟩ := List.getElem?_eq_some_iff.1 hy
  have := h k (k + 1) i1 i2 (by omega)
  rw [e1, e2] at this
  exact this
set_option maxHeartbeats 4000000 in
theorem rises_any (w : World) (base : Nat) (t : Value) (ls : List (List UInt8)) (h : Tab w base t ls) (v : Value) (o : List Nat) (hr : Rises ls o) (ho : ∀ x ∈ o, x < ls.length) (hl : o.length ≤ 1000) (hv : LstI w v (intN o)) :
    Calls Try.prog 30 #[t, v] w fun e w' => e = .returned (.bool true) ∧ w = w' := by
  have N := Lib.hid (fun k (x : List UInt8) (hx : ls[k]? = some x) => name_tab w base t ls h k x hx)
  have HR := Lib.hid hr
  have HO := Lib.hid ho
  obtain ⟨A, c, rfl, _, _, hcell⟩ := hv
  rw [intN_len] at hcell ⊢
  have HC := Lib.hid hcell
  obtain ⟨tb, mb, nv, rfl, -⟩ := h
  clear hr ho hcell
  go_enter Try.func30, Try.ntmps30
  go_wp2_with fail
  go_loop [5] (fun i => ∃ k : Nat, i = .int .i64 k ∧ k ≤ o.length) (fun i => o.length - (intOf i).toNat)
  case atStart => exact ⟨0, rfl, Nat.zero_le _⟩
  case round =>
    obtain ⟨k, rfl, hk⟩ := hrel
    by_cases hlt : k < o.length
    · obtain ⟨b, f, rfl, hb, hc⟩ := HC.out (by omega)
      obtain ⟨x, hx⟩ := at_lt hlt
      have hxl := HO.out x (List.mem_iff_getElem?.2 ⟨k, hx⟩)
      have m1 := hc k _ (ints_at _ k _ (intN_at hx))
      have N1 := Lib.hid (N.out x _ (name_at hxl))
      obtain ⟨s1, e1, _, t1⟩ := as_str (nameAt ls x)
      rw [t1] at N1
      have gk : (k : Int) < (o.length : Int) := by omega
      cases k with
      | zero =>
        rw [Nat.add_zero] at m1
        clear hx hxl e1 t1 hc HC HO HR N
        go_wp2_with fail
        refine (N1.out).mono ?_
        rintro e w' ⟨rfl, rfl⟩
        go_wp2_with fail
        go_round
        case rel => exact ⟨1, by go_num, by omega⟩
        case measure => simp [intOf]; omega
      | succ k =>
        obtain ⟨y, hy⟩ := at_lt (l := o) (k := k) (by omega)
        have hyl := HO.out y (List.mem_iff_getElem?.2 ⟨k, hy⟩)
        have m2 := hc k _ (ints_at _ k _ (intN_at hy))
        have N2 := Lib.hid (N.out y _ (name_at hyl))
        obtain ⟨s2, e2, _, t2⟩ := as_str (nameAt ls y)
        rw [t2] at N2
        have C := Lib.hid (compare_any s2 s1 w)
        rw [e1, e2, rises_next HR.out hy hx] at C
        have q : ((k : Int) + 1 == 0) = false := beq_false (by omega)
        have gk0 : (k : Int) < (o.length : Int) := by omega
        clear hx hxl e1 t1 hy hyl e2 t2 hc HC HO HR N
        go_wp2_with fail
        refine (N1.out).mono ?_
        rintro e w' ⟨rfl, rfl⟩
        go_wp2_with fail
        refine (N2.out).mono ?_
        rintro e w' ⟨rfl, rfl⟩
        go_wp2_with fail
        refine (C.out).mono ?_
        rintro e w' ⟨rfl, rfl⟩
        go_wp2_with fail
        go_round
        case rel => exact ⟨k + 2, by go_num, by omega⟩
        case measure => simp [intOf]; omega
    · have d : decide (k < o.length) = false := by rw [decide_eq_false_iff_not]; exact hlt
      clear hlt HC HO HR N
      go_wp2_with fail
      go_ret
      exact ⟨rfl, rfl⟩

/-! ### section -/
set_option maxHeartbeats 4000000 in
theorem section_any (w : World) (u v : Value) (a b : List Int) (ha : a.length ≤ 1000) (hu : LstI w u a) (hv : LstI w v b) (i0 : Nat) (h1 : i0 + b.length ≤ a.length) (h2 : (a.drop i0).take b.length = b) : Calls Try.prog 31 #[u, v] w fun e w' => e = .returned (.bool true) ∧ ∃ m, w' = w.drewN m := by
  have HU := Lib.hid hu
  have HV := Lib.hid hv
  have H2 := Lib.hid h2
  obtain ⟨A, c, rfl, -⟩ := hu
  obtain ⟨B, d, rfl, -⟩ := hv
  clear h2
  go_enter Try.func31, Try.ntmps31
  go_wp2_with fail
  go_loopw [5] (fun i wr => ∃ k : Nat, i = .int .i64 k ∧ k ≤ i0 ∧ Hid (∃ n, wr = w.drewN n)) (fun i _ => i0 + 1 - (intOf i).toNat)
  case atStart => exact ⟨0, rfl, Nat.zero_le _, Lib.hid ⟨0, rfl⟩⟩
  case round =>
    obtain ⟨k, rfl, hk, hn⟩ := hrel
    obtain ⟨x, hx, lx⟩ := ints_mid (HU.out.below (drew_below hn.out)) k (k + b.length) (by omega) (by omega) k ((k : Int) + (b.length : Int)) rfl (by omega)
    rw [show k + b.length - k = b.length by omega] at lx
    have E := Lib.hid (same_any x _ _ b (by rw [List.length_take]; omega) wr lx (HV.out.below (drew_below hn.out)))
    have gk : (k : Int) + (b.length : Int) ≤ (a.length : Int) := by omega
    have wk : wrap64 ((k : Int) + (b.length : Int)) = (k : Int) + (b.length : Int) := by unfold wrap64; omega
    clear lx
    cases he : decide ((a.drop k).take b.length = b) with
    | true =>
      rw [he] at E
      clear he
      go_wp2_with fail
      refine (E.out).mono ?_
      rintro e w2 ⟨rfl, m, rfl⟩
      have hn2 := drew_on hn m
      clear E hn
      go_wp2_with fail
      go_ret
      exact ⟨rfl, hn2.out⟩
    | false =>
      rw [he] at E
      have hne : k < i0 := by
        rcases Nat.lt_or_ge k i0 with hlt | hge
        · exact hlt
        · obtain rfl : k = i0 := by omega
          rw [H2.out] at he
          simp at he
      clear he
      go_wp2_with fail
      refine (E.out).mono ?_
      rintro e w2 ⟨rfl, m, rfl⟩
      have hn2 := drew_on hn m
      clear E hn
      go_wp2_with fail
      go_roundw
      case rel => exact ⟨k + 1, by go_num, by omega, hn2⟩
      case measure => simp [intOf]; omega
theorem sec_ints {ls : List (List UInt8)} (hg : Good5 ls) (p q : List UInt8) : ∃ i, i + (intN (secL ls (p ++ q))).length ≤ (intN (secL ls p)).length ∧ ((intN (secL ls p)).drop i).take (intN (secL ls (p ++ q))).length = intN (secL ls (p ++ q)) := by
  obtain ⟨i, h1, h2⟩ := sec_run hg p q
  refine ⟨i, by rw [intN_len, intN_len]; exact h1, ?_⟩
  rw [intN_len]
  have := congrArg intN h2
  unfold intN at *
  rw [List.map_take, List.map_drop] at this
  exact this
set_option maxHeartbeats 4000000 in
theorem narrows_law (v : Value) (l : List (List UInt8)) (hl : l.length ≤ 9223372036854775807) (p q : ByteArray) (w : World) (h : Lst w v l) : Calls Try.prog 11 #[v, .string p, .string q] w fun e w' => e = .returned (.bool true) ∧ Below w.heap.size w w' := by
  have S := Lib.hid (small_any v l hl w h)
  cases hs : smallL l with
  | false =>
    rw [hs] at S
    clear h hs
    go_enter Try.func11, Try.ntmps11
    go_wp2_with fail
    refine (S.out).mono ?_
    rintro e w' ⟨rfl, rfl⟩
    go_wp2_with fail
    refine (example_holds _).mono ?_
    rintro e w1 ⟨rfl, b1⟩
    go_wp2_with fail
    go_ret
    exact ⟨rfl, b1⟩
  | true =>
    rw [hs] at S
    obtain ⟨q1, q2⟩ := small_bounds hs
    clear hs
    by_cases hp : 512 < p.size
    · have g : (512 : Int) < (p.size : Int) := by omega
      clear h hp q1 q2
      go_enter Try.func11, Try.ntmps11
      go_wp2_with fail
      refine (S.out).mono ?_
      rintro e w' ⟨rfl, rfl⟩
      go_wp2_with fail
      refine (example_holds _).mono ?_
      rintro e w1 ⟨rfl, b1⟩
      go_wp2_with fail
      go_ret
      exact ⟨rfl, b1⟩
    have g : decide ((512 : Int) < (p.size : Int)) = false := by simp; omega
    by_cases hq : 512 < q.size
    · have g : (512 : Int) < (q.size : Int) := by omega
      clear h hq hp q1 q2
      go_enter Try.func11, Try.ntmps11
      go_wp2_with fail
      refine (S.out).mono ?_
      rintro e w' ⟨rfl, rfl⟩
      go_wp2_with fail
      refine (example_holds _).mono ?_
      rintro e w1 ⟨rfl, b1⟩
      go_wp2_with fail
      go_ret
      exact ⟨rfl, b1⟩
    have g' : decide ((512 : Int) < (q.size : Int)) = false := by simp; omega
    have hpq : p.size + q.size ≤ 1024 := by omega
    clear hq hp
    by_cases hg : Good5 l
    · have M := Lib.hid (new_good v l q1 q2 hg w h)
      have P := Lib.hid (fun W base t (hW : Tab W base t l) (p : ByteArray) => prefix_any W base t l hW hg q1 p)
      have Q := Lib.hid (fun W base t (hW : Tab W base t l) => sorted_any W base t l hW hg q1)
      have LEN : Hid (∀ p, (intN (secL l p)).length ≤ 1000) := fun p => by
        have := sec_len l p
        rw [intN_len]
        omega
      have Z1 := Lib.hid (sec_ints hg [] p.data.toList)
      have Z2 := Lib.hid (sec_ints hg p.data.toList q.data.toList)
      have PQ : Hid ((p ++ q).data.toList = p.data.toList ++ q.data.toList) := by
        show _ = _
        simp
      clear h hg q1 q2
      go_enter Try.func11, Try.ntmps11
      go_wp2_with fail
      refine (S.out).mono ?_
      rintro e w' ⟨rfl, rfl⟩
      go_wp2_with fail
      refine (M.out).mono ?_
      rintro e w1 ⟨t, rfl, tab, b1⟩
      have T1 := Lib.hid tab
      have B1 := Lib.hid b1
      obtain ⟨tb, mb, nv, rfl, -⟩ := tab
      clear b1 M S
      go_wp2_with fail
      refine (Q.out w1 _ _ T1.out).mono ?_
      rintro e w2 ⟨x1, rfl, l1, b2⟩
      have L1 := Lib.hid l1
      have T2 := Lib.hid (T1.out.below b2)
      have B2 := Lib.hid (B1.out.trans (b2.mono B1.out.size))
      clear l1 b2 T1 B1 Q
      go_wp2_with fail
      refine (P.out w2 _ _ T2.out p).mono ?_
      rintro e w3 ⟨x2, rfl, l2, b3⟩
      obtain ⟨i0, z1, z2⟩ := Z1.out
      rw [List.nil_append] at z1 z2
      have E := Lib.hid (Calls.below (section_any w3 x1 x2 _ _ (LEN.out _) (L1.out.below b3) l2 i0 z1 z2))
      have T3 := Lib.hid (T2.out.below b3)
      have B3 := Lib.hid (B2.out.trans (b3.mono B2.out.size))
      clear l2 b3 L1 T2 B2 z1 z2 Z1
      go_wp2_with fail
      refine (E.out).mono ?_
      rintro e w4 ⟨rfl, b4⟩
      have T4 := Lib.hid (T3.out.below b4)
      have B4 := Lib.hid (B3.out.trans (b4.mono B3.out.size))
      clear E b4 T3 B3
      go_wp2_with fail
      refine (P.out w4 _ _ T4.out p).mono ?_
      rintro e w5 ⟨x3, rfl, l3, b5⟩
      have L3 := Lib.hid l3
      have T5 := Lib.hid (T4.out.below b5)
      have B5 := Lib.hid (B4.out.trans (b5.mono B4.out.size))
      clear l3 b5 T4 B4
      go_wp2_with fail
      refine (P.out w5 _ _ T5.out (p ++ q)).mono ?_
      rintro e w6 ⟨x4, rfl, l4, b6⟩
      rw [PQ.out] at l4
      obtain ⟨i1, z1, z2⟩ := Z2.out
      have E := Lib.hid (Calls.below (section_any w6 x3 x4 _ _ (LEN.out _) (L3.out.below b6) l4 i1 z1 z2))
      have B6 := Lib.hid (B5.out.trans (b6.mono B5.out.size))
      clear l4 b6 L3 B5 T5 P z1 z2 Z2
      go_wp2_with fail
      refine (E.out).mono ?_
      rintro e w7 ⟨rfl, b7⟩
      have B7 := B6.out.trans (b7.mono B6.out.size)
      clear E b7 B6
      go_wp2_with fail
      refine (rel (W := w) (example_holds _) B7).mono ?_
      rintro e w8 ⟨rfl, b8⟩
      clear B7
      go_wp2_with fail
      go_ret
      exact ⟨rfl, b8⟩
    · have M := Lib.hid (new_bad v l q1 q2 hg w h)
      unfold Good5 at hg
      generalize (uniqR l).1 = i at M
      generalize (uniqR l).2 = e at M hg
      have ge : (e != 0) = true := bne_true hg
      clear h hg q1 q2
      go_enter Try.func11, Try.ntmps11
      go_wp2_with fail
      refine (S.out).mono ?_
      rintro e w' ⟨rfl, rfl⟩
      go_wp2_with fail
      refine (M.out).mono ?_
      rintro e w1 ⟨rfl, b1⟩
      go_wp2_with fail
      refine (rel (W := w) (example_holds _) b1).mono ?_
      rintro e w2 ⟨rfl, b2⟩
      clear b1
      go_wp2_with fail
      go_ret
      exact ⟨rfl, b2⟩
end Go.Proofs.Ytfmajfmimgcfnaa
