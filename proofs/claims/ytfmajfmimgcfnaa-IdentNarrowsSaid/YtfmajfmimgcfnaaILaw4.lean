/-
  The law on a table without the reference: Find inverts Name, and Sorted rises: the call answers true; nothing that existed before the call has changed behind it. Condition: none.
-/
import Derived.Test.YtfmajfmimgcfnaaILaw3
namespace Go.Proofs.Ytfmajfmimgcfnaa
open Go.RowKit

theorem idx_good {l : List (List UInt8)} (hg : Good5 l) {k : Nat} {x : List UInt8} (h : l[k]? = some x) : idxOf l x = k ∧ x ∈ l := by
  have hm : x ∈ l := List.mem_iff_getElem?.2 ⟨k, h⟩
  exact ⟨by rw [idx_at hm]; exact good_diff hg (idx_get hm) h, hm⟩
set_option maxHeartbeats 8000000 in
theorem table_law (v : Value) (l : List (List UInt8)) (hl : l.length ≤ 9223372036854775807) (s : ByteArray) (w : World) (h : Lst w v l) : Calls Try.prog 9 #[v, .string s] w fun e w' => e = .returned (.bool true) ∧ Below w.heap.size w w' := by
  have S := Lib.hid (small_any v l hl w h)
  cases hs : smallL l with
  | false =>
    rw [hs] at S
    clear h hs
    go_enter Try.func9, Try.ntmps9
    go_wp2_with fail
    refine (S.out).mono ?_
    rintro e w' ⟨rfl, rfl⟩
    go_wp2_with fail
    refine (example_holds _).mono ?_
    rintro e w1 ⟨rfl, b1⟩
    go_wp2_with fail
    go_ret
    exact ⟨rfl, b1⟩
  | true =>
    rw [hs] at S
    obtain ⟨q1, q2⟩ := small_bounds hs
    clear hs
    by_cases hp : 1024 < s.size
    · have g : (1024 : Int) < (s.size : Int) := by omega
      clear h hp q1 q2
      go_enter Try.func9, Try.ntmps9
      go_wp2_with fail
      refine (S.out).mono ?_
      rintro e w' ⟨rfl, rfl⟩
      go_wp2_with fail
      refine (example_holds _).mono ?_
      rintro e w1 ⟨rfl, b1⟩
      go_wp2_with fail
      go_ret
      exact ⟨rfl, b1⟩
    have g : decide ((1024 : Int) < (s.size : Int)) = false := by simp; omega
    have hsz : s.size ≤ 1099511627776 := by omega
    clear hp
    by_cases hg : Good5 l
    · have M := Lib.hid (new_good v l q1 q2 hg w h)
      have HG := Lib.hid hg
      have HS := Lib.hid q2
      obtain ⟨A, c, rfl, _, hcell⟩ := h
      have HC := Lib.hid hcell
      clear hcell hg q2
      go_enter Try.func9, Try.ntmps9
      go_wp2_with fail
      refine (S.out).mono ?_
      rintro e w' ⟨rfl, rfl⟩
      go_wp2_with fail
      refine (M.out).mono ?_
      rintro e w1 ⟨t, rfl, tab, b1⟩
      have T1 := Lib.hid tab
      have B1 := Lib.hid b1
      obtain ⟨tb, mb, nv, rfl, -⟩ := tab
      clear b1 M S
      go_wp2_with fail
      go_loop [8] (fun i => ∃ k : Nat, i = .int .i64 k ∧ k ≤ l.length) (fun i => l.length - (intOf i).toNat)
      case atStart => exact ⟨0, rfl, Nat.zero_le _⟩
      case round =>
        obtain ⟨k, rfl, hk⟩ := hrel
        by_cases hlt : k < l.length
        · obtain ⟨b, f, rfl, hb, hc⟩ := HC.out (by omega)
          obtain ⟨x, hx⟩ := at_lt hlt
          have m1 := (B1.out.cell (p := ⟨b, f + k, none⟩) hb).trans (hc k _ (sts_at l k x hx))
          have N1 := Lib.hid (name_tab w1 _ _ l T1.out k x hx)
          have hxl := HS.out k x hx
          obtain ⟨y, ey, zy, ty⟩ := as_str x
          have F1 := Lib.hid (find_tab w1 _ _ l T1.out y (by omega))
          obtain ⟨i1, i2⟩ := idx_good HG.out hx
          rw [ey, i1, decide_eq_true i2] at F1
          rw [ty] at N1 m1
          have gk : (k : Int) < (l.length : Int) := by omega
          have gy : (y.toList == y.toList) = true := bytes_eq rfl
          have gy2 : (y.toList != y.toList) = false := by rw [bne, gy]; rfl
          have gn : ((k : Int) != (k : Int)) = false := neq_false rfl
          have gn2 : (k != k) = false := by simp
          clear hx hxl ey zy ty i1 i2 hc HC HG HS T1
          go_wp2_with fail
          refine (N1.out).mono ?_
          rintro e w' ⟨rfl, rfl⟩
          go_wp2_with fail
          refine (F1.out).mono ?_
          rintro e w' ⟨rfl, rfl⟩
          go_wp2_with fail
          go_round
          case rel => exact ⟨k + 1, by go_num, by omega⟩
          case measure => simp [intOf]; omega
        · have d : decide (k < l.length) = false := by rw [decide_eq_false_iff_not]; exact hlt
          have F := Lib.hid (find_tab w1 _ _ l T1.out s hsz)
          have Q := Lib.hid (fun W base t (hW : Tab W base t l) => sorted_any W base t l hW HG.out q1)
          have R := Lib.hid (fun W base t x (hW : Tab W base t l) (hx : LstI W x (intN (secL l []))) => rises_any W base t l hW x (secL l []) (sec_section HG.out []).1 (fun i hi => sec_lt hi) (by rw [sec_all]; exact q1) hx)
          have LEN : Hid ((intN (secL l [])).length = l.length) := by
            show _ = _
            rw [intN_len, sec_all]
          have gl : ((l.length : Int) == (l.length : Int)) = true := beq_true rfl
          have gl2 : (l.length == l.length) = true := by simp
          have hways : (∃ (n : Nat), idxOf l s.data.toList = n ∧ decide (s.data.toList ∈ l) = true ∧ l[n]? = some s.data.toList) ∨ (idxOf l s.data.toList = 0 ∧ decide (s.data.toList ∈ l) = false) := by
            by_cases hm : s.data.toList ∈ l
            · exact Or.inl ⟨l.idxOf s.data.toList, idx_at hm, decide_eq_true hm, idx_get hm⟩
            · exact Or.inr ⟨by unfold idxOf; rw [if_neg hm], decide_eq_false hm⟩
          have gs : (s.toList == s.toList) = true := bytes_eq rfl
          have gs2 : (s.toList != s.toList) = false := by rw [bne, gs]; rfl
          clear hlt HC HS HG
          rcases hways with ⟨n, h1, h2, h3⟩ | ⟨h1, h2⟩
          · have N := Lib.hid (name_tab w1 _ _ l T1.out n _ h3)
            rw [str_list] at N
            rw [h1, h2] at F
            clear h1 h2 h3
            go_wp2_with fail
            refine (F.out).mono ?_
            rintro e w' ⟨rfl, rfl⟩
            go_wp2_with fail
            refine (N.out).mono ?_
            rintro e w' ⟨rfl, rfl⟩
            clear F N
            go_wp2_with fail
            refine (Q.out w1 _ _ T1.out).mono ?_
            rintro e w2 ⟨x1, rfl, l1, b2⟩
            have RR := Lib.hid (R.out w2 _ _ x1 (T1.out.below b2) l1)
            have T2 := Lib.hid (T1.out.below b2)
            have B2 := Lib.hid (B1.out.trans (b2.mono B1.out.size))
            clear l1 b2 T1 B1 R
            go_wp2_with fail
            refine (RR.out).mono ?_
            rintro e w' ⟨rfl, rfl⟩
            go_wp2_with fail
            refine (Q.out w2 _ _ T2.out).mono ?_
            rintro e w3 ⟨x2, rfl, l2, b3⟩
            have B3 := B2.out.trans (b3.mono B2.out.size)
            obtain ⟨A2, c2, rfl, -⟩ := l2
            rw [LEN.out]
            clear b3 T2 B2 Q RR LEN
            go_wp2_with fail
            refine (rel (W := w) (example_holds _) B3).mono ?_
            rintro e w4 ⟨rfl, b4⟩
            clear B3
            go_wp2_with fail
            go_ret
            exact ⟨rfl, b4⟩
          · rw [h1, h2] at F
            clear h1 h2
            by_cases h0 : 0 < l.length
            · obtain ⟨x, hx⟩ := at_lt h0
              have N := Lib.hid (name_tab w1 _ _ l T1.out 0 x hx)
              generalize str x = y at N
              clear hx h0
              go_wp2_with fail
              refine (F.out).mono ?_
              rintro e w' ⟨rfl, rfl⟩
              go_wp2_with fail
              refine (N.out).mono ?_
              rintro e w' ⟨rfl, rfl⟩
              clear F N
              go_wp2_with fail
              refine (Q.out w1 _ _ T1.out).mono ?_
              rintro e w2 ⟨x1, rfl, l1, b2⟩
              have RR := Lib.hid (R.out w2 _ _ x1 (T1.out.below b2) l1)
              have T2 := Lib.hid (T1.out.below b2)
              have B2 := Lib.hid (B1.out.trans (b2.mono B1.out.size))
              clear l1 b2 T1 B1 R
              go_wp2_with fail
              refine (RR.out).mono ?_
              rintro e w' ⟨rfl, rfl⟩
              go_wp2_with fail
              refine (Q.out w2 _ _ T2.out).mono ?_
              rintro e w3 ⟨x2, rfl, l2, b3⟩
              have B3 := B2.out.trans (b3.mono B2.out.size)
              obtain ⟨A2, c2, rfl, -⟩ := l2
              rw [LEN.out]
              clear b3 T2 B2 Q RR LEN
              go_wp2_with fail
              refine (rel (W := w) (example_holds _) B3).mono ?_
              rintro e w4 ⟨rfl, b4⟩
              clear B3
              go_wp2_with fail
              go_ret
              exact ⟨rfl, b4⟩
            · have N := Lib.hid (name_no w1 _ _ l T1.out ((0 : Nat) : Int) (Or.inr (by omega)))
              clear h0
              go_wp2_with fail
              refine (F.out).mono ?_
              rintro e w' ⟨rfl, rfl⟩
              go_wp2_with fail
              refine (N.out).mono ?_
              rintro e w' ⟨rfl, rfl⟩
              clear F N
              go_wp2_with fail
              refine (Q.out w1 _ _ T1.out).mono ?_
              rintro e w2 ⟨x1, rfl, l1, b2⟩
              have RR := Lib.hid (R.out w2 _ _ x1 (T1.out.below b2) l1)
              have T2 := Lib.hid (T1.out.below b2)
              have B2 := Lib.hid (B1.out.trans (b2.mono B1.out.size))
              clear l1 b2 T1 B1 R
              go_wp2_with fail
              refine (RR.out).mono ?_
              rintro e w' ⟨rfl, rfl⟩
              go_wp2_with fail
              refine (Q.out w2 _ _ T2.out).mono ?_
              rintro e w3 ⟨x2, rfl, l2, b3⟩
              have B3 := B2.out.trans (b3.mono B2.out.size)
              obtain ⟨A2, c2, rfl, -⟩ := l2
              rw [LEN.out]
              clear b3 T2 B2 Q RR LEN
              go_wp2_with fail
              refine (rel (W := w) (example_holds _) B3).mono ?_
              rintro e w4 ⟨rfl, b4⟩
              clear B3
              go_wp2_with fail
              go_ret
              exact ⟨rfl, b4⟩
    · have M := Lib.hid (new_bad v l q1 q2 hg w h)
      unfold Good5 at hg
      generalize (uniqR l).1 = i at M
      generalize (uniqR l).2 = e at M hg
      have ge : (e != 0) = true := bne_true hg
      clear h hg q1 q2
      go_enter Try.func9, Try.ntmps9
      go_wp2_with fail
      refine (S.out).mono ?_
      rintro e w' ⟨rfl, rfl⟩
      go_wp2_with fail
      refine (M.out).mono ?_
      rintro e w1 ⟨rfl, b1⟩
      go_wp2_with fail
      refine (rel (W := w) (example_holds _) b1).mono ?_
      rintro e w2 ⟨rfl, b2⟩
      clear b1
      go_wp2_with fail
      go_ret
      exact ⟨rfl, b2⟩
end Go.Proofs.Ytfmajfmimgcfnaa
