/-
  The laws on New, Find, Name and Len, and on Sorted and Prefix against the reference: each call answers true; nothing that existed before the call has changed behind it. Condition: none.
-/
import Derived.Test.YtfmajfmimgcfnaaILaw
namespace Go.Proofs.Ytfmajfmimgcfnaa
open Go.RowKit

theorem idx_at {l : List (List UInt8)} {x : List UInt8} (h : x ∈ l) : idxOf l x = l.idxOf x := by unfold idxOf; rw [if_pos h]
set_option maxHeartbeats 4000000 in
theorem sections_law (v : Value) (l : List (List UInt8)) (hl : l.length ≤ 9223372036854775807) (p : ByteArray) (w : World) (h : Lst w v l) : Calls Try.prog 7 #[v, .string p] w fun e w' => e = .returned (.bool true) ∧ Below w.heap.size w w' := by
  have S := Lib.hid (small_any v l hl w h)
  cases hs : smallL l with
  | false =>
    rw [hs] at S
    clear h hs
    go_enter Try.func7, Try.ntmps7
    go_wp2_with fail
    refine (S.out).mono ?_
    rintro e w' ⟨rfl, rfl⟩
    go_wp2_with fail
    refine (example_holds _).mono ?_
    rintro e w1 ⟨rfl, b1⟩
    go_wp2_with fail
    go_ret
    exact ⟨rfl, b1⟩
  | true =>
    rw [hs] at S
    obtain ⟨q1, q2⟩ := small_bounds hs
    clear hs
    by_cases hp : 1024 < p.size
    · have g : (1024 : Int) < (p.size : Int) := by omega
      clear h hp q1 q2
      go_enter Try.func7, Try.ntmps7
      go_wp2_with fail
      refine (S.out).mono ?_
      rintro e w' ⟨rfl, rfl⟩
      go_wp2_with fail
      refine (example_holds _).mono ?_
      rintro e w1 ⟨rfl, b1⟩
      go_wp2_with fail
      go_ret
      exact ⟨rfl, b1⟩
    have g : decide ((1024 : Int) < (p.size : Int)) = false := by simp; omega
    clear hp
    by_cases hg : Good5 l
    · have M := Lib.hid (made_good v l q1 q2 hg w h)
      have H := Lib.hid h
      have R := Lib.hid (fun (p : ByteArray) W (hW : Lst W v l) => rprefix_any v l q1 q2 hg p W hW)
      have P := Lib.hid (fun W base t (hW : Tab W base t l) (p : ByteArray) => prefix_any W base t l hW hg q1 p)
      have Q := Lib.hid (fun W base t (hW : Tab W base t l) => sorted_any W base t l hW hg q1)
      have LEN : Hid (∀ p, (intN (secL l p)).length ≤ 1099511627776) := fun p => by
        have := sec_len l p
        rw [intN_len]
        omega
      clear h hg q1 q2
      go_enter Try.func7, Try.ntmps7
      go_wp2_with fail
      refine (S.out).mono ?_
      rintro e w' ⟨rfl, rfl⟩
      go_wp2_with fail
      refine (M.out).mono ?_
      rintro e w1 ⟨t, rfl, tab, b1⟩
      have T1 := Lib.hid tab
      have B1 := Lib.hid b1
      obtain ⟨tb, mb, nv, rfl, -⟩ := tab
      clear b1 M S
      go_wp2_with fail
      refine (Q.out w1 _ _ T1.out).mono ?_
      rintro e w2 ⟨x1, rfl, l1, b2⟩
      have L1 := Lib.hid l1
      have T2 := Lib.hid (T1.out.below b2)
      have B2 := Lib.hid (B1.out.trans (b2.mono B1.out.size))
      clear l1 b2 T1 B1 Q
      go_wp2_with fail
      refine (R.out ⟨#[]⟩ w2 (H.out.below B2.out)).mono ?_
      rintro e w3 ⟨x2, rfl, l2, b3⟩
      have E := Lib.hid (Calls.below (same_any x1 x2 _ _ (LEN.out _) w3 (L1.out.below b3) l2))
      have T3 := Lib.hid (T2.out.below b3)
      have B3 := Lib.hid (B2.out.trans (b3.mono B2.out.size))
      rw [show (⟨#[]⟩ : ByteArray).data.toList = [] by rfl, decide_eq_true rfl] at E
      clear l2 b3 L1 T2 B2
      go_wp2_with fail
      refine (E.out).mono ?_
      rintro e w4 ⟨rfl, b4⟩
      have T4 := Lib.hid (T3.out.below b4)
      have B4 := Lib.hid (B3.out.trans (b4.mono B3.out.size))
      clear E b4 T3 B3
      go_wp2_with fail
      refine (P.out w4 _ _ T4.out p).mono ?_
      rintro e w5 ⟨x3, rfl, l3, b5⟩
      have L3 := Lib.hid l3
      have B5 := Lib.hid (B4.out.trans (b5.mono B4.out.size))
      clear l3 b5 T4 B4 P
      go_wp2_with fail
      refine (R.out p w5 (H.out.below B5.out)).mono ?_
      rintro e w6 ⟨x4, rfl, l4, b6⟩
      have E := Lib.hid (Calls.below (same_any x3 x4 _ _ (LEN.out _) w6 (L3.out.below b6) l4))
      have B6 := Lib.hid (B5.out.trans (b6.mono B5.out.size))
      rw [decide_eq_true rfl] at E
      clear l4 b6 L3 B5 R
      go_wp2_with fail
      refine (E.out).mono ?_
      rintro e w7 ⟨rfl, b7⟩
      have B7 := B6.out.trans (b7.mono B6.out.size)
      clear E b7 B6
      go_wp2_with fail
      refine (rel (W := w) (example_holds _) B7).mono ?_
      rintro e w8 ⟨rfl, b8⟩
      clear B7
      go_wp2_with fail
      go_ret
      exact ⟨rfl, b8⟩
    · have M := Lib.hid (made_bad v l q1 q2 hg w h)
      clear h hg q1 q2
      go_enter Try.func7, Try.ntmps7
      go_wp2_with fail
      refine (S.out).mono ?_
      rintro e w' ⟨rfl, rfl⟩
      go_wp2_with fail
      refine (M.out).mono ?_
      rintro e w1 ⟨rfl, b1⟩
      go_wp2_with fail
      refine (rel (W := w) (example_holds _) b1).mono ?_
      rintro e w2 ⟨rfl, b2⟩
      clear b1
      go_wp2_with fail
      go_ret
      exact ⟨rfl, b2⟩
set_option maxHeartbeats 4000000 in
theorem finds_law (v : Value) (l : List (List UInt8)) (hl : l.length ≤ 9223372036854775807) (s : ByteArray) (i : Int) (w : World) (h : Lst w v l) : Calls Try.prog 6 #[v, .string s, .int .i64 i] w fun e w' => e = .returned (.bool true) ∧ Below w.heap.size w w' := by
  have S := Lib.hid (small_any v l hl w h)
  cases hs : smallL l with
  | false =>
    rw [hs] at S
    clear h hs
    go_enter Try.func6, Try.ntmps6
    go_wp2_with fail
    refine (S.out).mono ?_
    rintro e w' ⟨rfl, rfl⟩
    go_wp2_with fail
    refine (example_holds _).mono ?_
    rintro e w1 ⟨rfl, b1⟩
    go_wp2_with fail
    go_ret
    exact ⟨rfl, b1⟩
  | true =>
    rw [hs] at S
    obtain ⟨q1, q2⟩ := small_bounds hs
    clear hs
    by_cases hp : 1024 < s.size
    · have g : (1024 : Int) < (s.size : Int) := by omega
      clear h hp q1 q2
      go_enter Try.func6, Try.ntmps6
      go_wp2_with fail
      refine (S.out).mono ?_
      rintro e w' ⟨rfl, rfl⟩
      go_wp2_with fail
      refine (example_holds _).mono ?_
      rintro e w1 ⟨rfl, b1⟩
      go_wp2_with fail
      go_ret
      exact ⟨rfl, b1⟩
    have g : decide ((1024 : Int) < (s.size : Int)) = false := by simp; omega
    have hsz : s.size ≤ 1099511627776 := by omega
    clear hp
    by_cases hg : Good5 l
    · have M := Lib.hid (made_good v l q1 q2 hg w h)
      have H := Lib.hid h
      have F := Lib.hid (fun W base t (hW : Tab W base t l) => find_tab W base t l hW s hsz)
      have R := Lib.hid (fun W (hW : Lst W v l) => rfind_any v l (by omega) s W hW)
      have LT := Lib.hid (fun W base t (hW : Tab W base t l) => len_tab W base t l hW)
      have gl : ((l.length : Int) == (l.length : Int)) = true := beq_true rfl
      obtain ⟨A, c, rfl, _, hcell⟩ := h
      have HC := Lib.hid hcell
      have hways : (∃ n : Nat, findR l s.data.toList = n ∧ idxOf l s.data.toList = n ∧ decide (s.data.toList ∈ l) = true) ∨ (findR l s.data.toList = -1 ∧ idxOf l s.data.toList = 0 ∧ decide (s.data.toList ∈ l) = false) := by
        by_cases hm : s.data.toList ∈ l
        · exact Or.inl ⟨l.idxOf s.data.toList, by unfold findR; rw [if_pos hm], idx_at hm, decide_eq_true hm⟩
        · exact Or.inr ⟨find_miss _ _ hm, by unfold idxOf; rw [if_neg hm], decide_eq_false hm⟩
      generalize findR l s.data.toList = f at R hways
      generalize idxOf l s.data.toList = m at F hways
      generalize decide (s.data.toList ∈ l) = b at F hways
      by_cases hi : 0 ≤ i ∧ i < (l.length : Int)
      · obtain ⟨k, rfl⟩ : ∃ k : Nat, i = k := ⟨i.toNat, by omega⟩
        have hk : k < l.length := by omega
        obtain ⟨x, hx⟩ := at_lt hk
        have NT := Lib.hid (fun W base t (hW : Tab W base t l) => name_tab W base t l hW k x hx)
        obtain ⟨b1x, o1, rfl, hb1, hc1⟩ := HC.out (by omega)
        have HCK := Lib.hid (hc1 k _ (sts_at l k x hx))
        have g1 : (0 : Int) ≤ (k : Int) := by omega
        have g2 : (k : Int) < (l.length : Int) := by omega
        generalize str x = y at NT HCK
        have gy : (y.toList == y.toList) = true := bytes_eq rfl
        have gy2 : (y.toList != y.toList) = false := by rw [bne, gy]; rfl
        clear hcell HC hi hx hc1 hg q2
        rcases hways with ⟨n, rfl, rfl, rfl⟩ | ⟨rfl, rfl, rfl⟩
        · have gn : ((m : Int) != (m : Int)) = false := neq_false rfl
          have gn2 : (m != m) = false := by simp
          have gm : (0 : Int) ≤ (m : Int) := by omega
          go_enter Try.func6, Try.ntmps6
          go_wp2_with fail
          refine (S.out).mono ?_
          rintro e w' ⟨rfl, rfl⟩
          go_wp2_with fail
          refine (M.out).mono ?_
          rintro e w1 ⟨t, rfl, tab, b1⟩
          have T1 := Lib.hid tab
          have mc := (b1.cell (p := ⟨b1x, o1 + k, none⟩) hb1).trans HCK.out
          have B1 := Lib.hid b1
          have FW := Lib.hid (F.out w1 _ _ T1.out)
          have RW := Lib.hid (R.out w1 (H.out.below b1))
          have NW := Lib.hid (NT.out w1 _ _ T1.out)
          have LW := Lib.hid (LT.out w1 _ _ T1.out)
          obtain ⟨tb, mb, nv, rfl, -⟩ := tab
          clear b1 M S F R NT LT
          go_wp2_with fail
          refine (FW.out).mono ?_
          rintro e w' ⟨rfl, rfl⟩
          go_wp2_with fail
          refine (RW.out).mono ?_
          rintro e w' ⟨rfl, rfl⟩
          go_wp2_with fail
          refine (NW.out).mono ?_
          rintro e w' ⟨rfl, rfl⟩
          go_wp2_with fail
          refine (LW.out).mono ?_
          rintro e w' ⟨rfl, rfl⟩
          go_wp2_with fail
          refine (rel (W := w) (example_holds _) B1.out).mono ?_
          rintro e w2 ⟨rfl, b2⟩
          go_wp2_with fail
          go_ret
          exact ⟨rfl, b2⟩
        · go_enter Try.func6, Try.ntmps6
          go_wp2_with fail
          refine (S.out).mono ?_
          rintro e w' ⟨rfl, rfl⟩
          go_wp2_with fail
          refine (M.out).mono ?_
          rintro e w1 ⟨t, rfl, tab, b1⟩
          have T1 := Lib.hid tab
          have mc := (b1.cell (p := ⟨b1x, o1 + k, none⟩) hb1).trans HCK.out
          have B1 := Lib.hid b1
          have FW := Lib.hid (F.out w1 _ _ T1.out)
          have RW := Lib.hid (R.out w1 (H.out.below b1))
          have NW := Lib.hid (NT.out w1 _ _ T1.out)
          have LW := Lib.hid (LT.out w1 _ _ T1.out)
          obtain ⟨tb, mb, nv, rfl, -⟩ := tab
          clear b1 M S F R NT LT
          go_wp2_with fail
          refine (FW.out).mono ?_
          rintro e w' ⟨rfl, rfl⟩
          go_wp2_with fail
          refine (RW.out).mono ?_
          rintro e w' ⟨rfl, rfl⟩
          go_wp2_with fail
          refine (NW.out).mono ?_
          rintro e w' ⟨rfl, rfl⟩
          go_wp2_with fail
          refine (LW.out).mono ?_
          rintro e w' ⟨rfl, rfl⟩
          go_wp2_with fail
          refine (rel (W := w) (example_holds _) B1.out).mono ?_
          rintro e w2 ⟨rfl, b2⟩
          go_wp2_with fail
          go_ret
          exact ⟨rfl, b2⟩
      · have NT := Lib.hid (fun W base t (hW : Tab W base t l) => name_no W base t l hW i (by omega))
        clear hcell HC hg q2
        rcases hways with ⟨n, rfl, rfl, rfl⟩ | ⟨rfl, rfl, rfl⟩
        · have gn : ((m : Int) != (m : Int)) = false := neq_false rfl
          have gn2 : (m != m) = false := by simp
          have gm : (0 : Int) ≤ (m : Int) := by omega
          by_cases h0 : 0 ≤ i
          · have g2 : decide (i < (l.length : Int)) = false := by rw [decide_eq_false_iff_not]; omega
            clear hi
            go_enter Try.func6, Try.ntmps6
            go_wp2_with fail
            refine (S.out).mono ?_
            rintro e w' ⟨rfl, rfl⟩
            go_wp2_with fail
            refine (M.out).mono ?_
            rintro e w1 ⟨t, rfl, tab, b1⟩
            have T1 := Lib.hid tab
            have B1 := Lib.hid b1
            have FW := Lib.hid (F.out w1 _ _ T1.out)
            have RW := Lib.hid (R.out w1 (H.out.below b1))
            have NW := Lib.hid (NT.out w1 _ _ T1.out)
            have LW := Lib.hid (LT.out w1 _ _ T1.out)
            obtain ⟨tb, mb, nv, rfl, -⟩ := tab
            clear b1 M S F R NT LT
            go_wp2_with fail
            refine (FW.out).mono ?_
            rintro e w' ⟨rfl, rfl⟩
            go_wp2_with fail
            refine (RW.out).mono ?_
            rintro e w' ⟨rfl, rfl⟩
            go_wp2_with fail
            refine (NW.out).mono ?_
            rintro e w' ⟨rfl, rfl⟩
            go_wp2_with fail
            refine (LW.out).mono ?_
            rintro e w' ⟨rfl, rfl⟩
            go_wp2_with fail
            refine (rel (W := w) (example_holds _) B1.out).mono ?_
            rintro e w2 ⟨rfl, b2⟩
            go_wp2_with fail
            go_ret
            exact ⟨rfl, b2⟩
          · have g1 : decide ((0 : Int) ≤ i) = false := by rw [decide_eq_false_iff_not]; omega
            clear hi h0
            go_enter Try.func6, Try.ntmps6
            go_wp2_with fail
            refine (S.out).mono ?_
            rintro e w' ⟨rfl, rfl⟩
            go_wp2_with fail
            refine (M.out).mono ?_
            rintro e w1 ⟨t, rfl, tab, b1⟩
            have T1 := Lib.hid tab
            have B1 := Lib.hid b1
            have FW := Lib.hid (F.out w1 _ _ T1.out)
            have RW := Lib.hid (R.out w1 (H.out.below b1))
            have NW := Lib.hid (NT.out w1 _ _ T1.out)
            have LW := Lib.hid (LT.out w1 _ _ T1.out)
            obtain ⟨tb, mb, nv, rfl, -⟩ := tab
            clear b1 M S F R NT LT
            go_wp2_with fail
            refine (FW.out).mono ?_
            rintro e w' ⟨rfl, rfl⟩
            go_wp2_with fail
            refine (RW.out).mono ?_
            rintro e w' ⟨rfl, rfl⟩
            go_wp2_with fail
            refine (NW.out).mono ?_
            rintro e w' ⟨rfl, rfl⟩
            go_wp2_with fail
            refine (LW.out).mono ?_
            rintro e w' ⟨rfl, rfl⟩
            go_wp2_with fail
            refine (rel (W := w) (example_holds _) B1.out).mono ?_
            rintro e w2 ⟨rfl, b2⟩
            go_wp2_with fail
            go_ret
            exact ⟨rfl, b2⟩
        · by_cases h0 : 0 ≤ i
          · have g2 : decide (i < (l.length : Int)) = false := by rw [decide_eq_false_iff_not]; omega
            clear hi
            go_enter Try.func6, Try.ntmps6
            go_wp2_with fail
            refine (S.out).mono ?_
            rintro e w' ⟨rfl, rfl⟩
            go_wp2_with fail
            refine (M.out).mono ?_
            rintro e w1 ⟨t, rfl, tab, b1⟩
            have T1 := Lib.hid tab
            have B1 := Lib.hid b1
            have FW := Lib.hid (F.out w1 _ _ T1.out)
            have RW := Lib.hid (R.out w1 (H.out.below b1))
            have NW := Lib.hid (NT.out w1 _ _ T1.out)
            have LW := Lib.hid (LT.out w1 _ _ T1.out)
            obtain ⟨tb, mb, nv, rfl, -⟩ := tab
            clear b1 M S F R NT LT
            go_wp2_with fail
            refine (FW.out).mono ?_
            rintro e w' ⟨rfl, rfl⟩
            go_wp2_with fail
            refine (RW.out).mono ?_
            rintro e w' ⟨rfl, rfl⟩
            go_wp2_with fail
            refine (NW.out).mono ?_
            rintro e w' ⟨rfl, rfl⟩
            go_wp2_with fail
            refine (LW.out).mono ?_
            rintro e w' ⟨rfl, rfl⟩
            go_wp2_with fail
            refine (rel (W := w) (example_holds _) B1.out).mono ?_
            rintro e w2 ⟨rfl, b2⟩
            go_wp2_with fail
            go_ret
            exact ⟨rfl, b2⟩
          · have g1 : decide ((0 : Int) ≤ i) = false := by rw [decide_eq_false_iff_not]; omega
            clear hi h0
            go_enter Try.func6, Try.ntmps6
            go_wp2_with fail
            refine (S.out).mono ?_
            rintro e w' ⟨rfl, rfl⟩
            go_wp2_with fail
            refine (M.out).mono ?_
            rintro e w1 ⟨t, rfl, tab, b1⟩
            have T1 := Lib.hid tab
            have B1 := Lib.hid b1
            have FW := Lib.hid (F.out w1 _ _ T1.out)
            have RW := Lib.hid (R.out w1 (H.out.below b1))
            have NW := Lib.hid (NT.out w1 _ _ T1.out)
            have LW := Lib.hid (LT.out w1 _ _ T1.out)
            obtain ⟨tb, mb, nv, rfl, -⟩ := tab
            clear b1 M S F R NT LT
            go_wp2_with fail
            refine (FW.out).mono ?_
            rintro e w' ⟨rfl, rfl⟩
            go_wp2_with fail
            refine (RW.out).mono ?_
            rintro e w' ⟨rfl, rfl⟩
            go_wp2_with fail
            refine (NW.out).mono ?_
            rintro e w' ⟨rfl, rfl⟩
            go_wp2_with fail
            refine (LW.out).mono ?_
            rintro e w' ⟨rfl, rfl⟩
            go_wp2_with fail
            refine (rel (W := w) (example_holds _) B1.out).mono ?_
            rintro e w2 ⟨rfl, b2⟩
            go_wp2_with fail
            go_ret
            exact ⟨rfl, b2⟩
    · have M := Lib.hid (made_bad v l q1 q2 hg w h)
      clear h hg q1 q2
      go_enter Try.func6, Try.ntmps6
      go_wp2_with fail
      refine (S.out).mono ?_
      rintro e w' ⟨rfl, rfl⟩
      go_wp2_with fail
      refine (M.out).mono ?_
      rintro e w1 ⟨rfl, b1⟩
      go_wp2_with fail
      refine (rel (W := w) (example_holds _) b1).mono ?_
      rintro e w2 ⟨rfl, b2⟩
      clear b1
      go_wp2_with fail
      go_ret
      exact ⟨rfl, b2⟩
end Go.Proofs.Ytfmajfmimgcfnaa
