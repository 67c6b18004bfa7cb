/-
  The law HeapStrings: true for every input, nothing that existed has changed. Condition: none.
-/
import Derived.Test.YtnmomkldlajimaaSLaw
namespace Go.Proofs.Ytnmomkldlajimaa.S
open Go.RowKit

set_option maxRecDepth 100000 in
set_option maxHeartbeats 4000000 in
theorem strings_core (v : Value) (l : List Pr) (w : World) (h : LstP w v l) : Calls Try.prog 8 #[v] w fun e w' => e = .returned (.bool true) ∧ Below w.heap.size w w' := by
  have hh := h
  obtain ⟨A, c, rfl, -⟩ := hh
  have H : Hid (LstP w (.slice A l.length c) l) := h
  clear h
  by_cases h2 : (200 : Int) < (l.length : Int)
  · clear H
    go_enter Try.func8, Try.ntmps8
    go_wp2_with fail
    refine (ex_any _).mono ?_
    rintro e w1 ⟨rfl, b1⟩
    go_wp2_with fail
    go_ret
    exact ⟨rfl, b1⟩
  · have h5 : l.length ≤ 200 := by omega
    have d2 : decide ((200 : Int) < (l.length : Int)) = false := decide_eq_false h2
    clear h2
    go_enter Try.func8, Try.ntmps8
    go_wp2_with fail
    go_loopw [14] (fun u wr => ∃ k : Nat, u = .int .i64 (k : Int) ∧ k ≤ l.length ∧ w = wr) (fun u _ => l.length - (intOf u).toNat)
    case atStart => exact ⟨0, rfl, Nat.zero_le _, rfl⟩
    case round =>
      obtain ⟨k, rfl, hk, rfl⟩ := hrel
      by_cases hlt : k < l.length
      · obtain ⟨x, hx⟩ := at_lt hlt
        obtain ⟨b, o, c', hv, hb, x0⟩ := LstG.one H.out hx
        cases hv
        have gk : (k : Int) < (l.length : Int) := by omega
        clear hx
        by_cases hs : (256 : Int) < (x.size : Int)
        · go_wp2_with fail
          refine (ex_any w).mono ?_
          rintro e w2 ⟨rfl, b2⟩
          clear x0
          go_wp2_with fail
          go_ret
          exact ⟨rfl, b2⟩
        · have ds : decide ((256 : Int) < (x.size : Int)) = false := decide_eq_false hs
          clear hs
          go_wp2_with fail
          go_roundw
          case rel => exact ⟨k + 1, by go_num, by omega, trivial⟩
          case measure => simp [intOf]; omega
      · have hkl : k = l.length := by omega
        subst hkl
        have dd : decide (l.length < l.length) = false := by simp
        clear hlt
        go_wp2_with fail
        refine (sort_any fun_str _ l (by omega) w H.out).mono ?_
        rintro e w1 ⟨v1, rfl, o1, b1⟩
        have hsl : (sortH lStr l).length = l.length := sort_len _ _
        obtain ⟨A1, c1, hv1, -⟩ := ownK_shape o1
        rw [hsl] at hv1
        subst hv1
        have O1 := Lib.hid (OwnG.lst o1)
        have H1 := Lib.hid (H.out.below b1)
        have B1 := Lib.hid b1
        have HS := Lib.hid hsl
        have q : ((l.length : Int) != (l.length : Int)) = false := neq_false rfl
        clear o1 b1 hsl
        go_wp2_with fail
        go_loopw [32] (fun u wr => ∃ k : Nat, u = .int .i64 (k : Int) ∧ k ≤ l.length ∧ w1 = wr) (fun u _ => l.length - (intOf u).toNat)
        case atStart => exact ⟨0, rfl, Nat.zero_le _, rfl⟩
        case round =>
          obtain ⟨k, rfl, hk, rfl⟩ := hrel
          by_cases hlt : k < l.length
          · obtain ⟨x, hx⟩ := at_lt (l := sortH lStr l) (k := k) (by rw [HS.out]; exact hlt)
            obtain ⟨b, o, d, hv, hb, x0⟩ := LstG.one O1.out hx
            injection hv with hA hB hC
            subst hA
            subst hC
            have T1 := Lib.hid (times_any _ (sortH lStr l) x (by rw [HS.out]; omega) w1 O1.out)
            have T2 := Lib.hid (times_any _ l x (by omega) w1 H1.out)
            rw [cnt_perm (sort_perm lStr l) x] at T1
            obtain ⟨z, hz⟩ : ∃ z, cnt l x = z := ⟨_, rfl⟩
            rw [hz] at T1 T2
            have qz : ((z : Int) != (z : Int)) = false := neq_false rfl
            have gk : (k : Int) < (l.length : Int) := by omega
            clear hB hz
            by_cases k0 : 0 < k
            · obtain ⟨y, hy⟩ := at_lt (l := sortH lStr l) (k := k - 1) (by rw [HS.out]; omega)
              obtain ⟨b', o', d', hv', hb', y0⟩ := LstG.one O1.out hy
              injection hv' with hA' hB' hC'
              cases hA'
              clear hB' hC'
              have hsp := sorted_next l hy (by rw [Nat.sub_add_cancel k0]; exact hx)
              obtain ⟨j, hj⟩ : ∃ j, k - 1 = j := ⟨_, rfl⟩
              rw [hj] at y0
              have e1 : (k : Int) - 1 = (j : Int) := by omega
              have gj : (j : Int) < (l.length : Int) := by omega
              have g1 : (1 : Int) ≤ (k : Int) := by omega
              clear hx hy hj
              rcases hsp with hsp | hsp
              all_goals
                go_wp2_with fail
                refine T1.out.mono ?_
                rintro e w' ⟨rfl, rfl⟩
                go_wp2_with fail
                refine T2.out.mono ?_
                rintro e w' ⟨rfl, rfl⟩
                clear x0 y0 T1 T2 hsp e1
                go_wp2_with fail
                go_roundw
                case rel => exact ⟨k + 1, by go_num, by omega, trivial⟩
                case measure => simp [intOf]; omega
            · have d0 : decide (0 < k) = false := decide_eq_false k0
              clear hx k0
              go_wp2_with fail
              refine T1.out.mono ?_
              rintro e w' ⟨rfl, rfl⟩
              go_wp2_with fail
              refine T2.out.mono ?_
              rintro e w' ⟨rfl, rfl⟩
              clear x0 T1 T2
              go_wp2_with fail
              go_roundw
              case rel => exact ⟨k + 1, by go_num, by omega, trivial⟩
              case measure => simp [intOf]; omega
          · have hkl : k = l.length := by omega
            subst hkl
            have dd2 : decide (l.length < l.length) = false := by simp
            clear hlt q
            go_wp2_with fail
            refine (rel (W := w) (ex_any w1) B1.out).mono ?_
            rintro e w7 ⟨rfl, b7⟩
            go_wp2_with fail
            go_ret
            exact ⟨rfl, b7⟩
theorem strings_law (v : Value) (l : List (List UInt8)) (_ : l.length ≤ 9223372036854775807) (w : World) (h : Lst w v l) : Calls Try.prog 8 #[v] w fun e w' => e = .returned (.bool true) ∧ Below w.heap.size w w' := strings_core v (l.map str) w (lst_lstP h)
end Go.Proofs.Ytnmomkldlajimaa.S
namespace Go.Proofs.Ytnmomkldlajimaa
open Go.RowKit
theorem strings_row (v : Value) (l : List (List UInt8)) (hn : l.length ≤ 9223372036854775807) (w : World) (h : Lst w v l) : Calls Try.prog 8 #[v] w fun e w' => e = .returned (.bool true) ∧ Below w.heap.size w w' := S.strings_law v l hn w h
end Go.Proofs.Ytnmomkldlajimaa
