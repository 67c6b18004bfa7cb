/-
  The program's isNode and check of graphs: what each call answers; nothing that existed before the call has changed behind it. Condition: lists of fewer than 2^63 edges and nodes.
-/
import Derived.Test.YtahbgafjljfndaaRChk
namespace Go.Proofs.Ytahbgafjljfndaa
open Go.RowKit

/-- The node is one of n. -/
def isN (n x : Int) : Bool := decide (0 ≤ x ∧ x < n)
theorem isNode_any (n x : Int) (w : World) : Calls Try.prog 33 #[.int .i64 n, .int .i64 x] w fun e w' => e = .returned (.bool (isN n x)) ∧ w = w' := by
  by_cases h1 : 0 ≤ x
  · by_cases h2 : x < n
    · have R : Hid (isN n x = true) := decide_eq_true ⟨h1, h2⟩
      go_enter Try.func33, Try.ntmps33
      go_wp2_with fail
      go_ret
      exact ⟨ret_bool (by rw [R.out]), rfl⟩
    · have R : Hid (isN n x = false) := decide_eq_false fun h => h2 h.2
      have d2 : decide (x < n) = false := decide_eq_false h2
      clear h2
      go_enter Try.func33, Try.ntmps33
      go_wp2_with fail
      go_ret
      exact ⟨ret_bool (by rw [R.out]), rfl⟩
  · have R : Hid (isN n x = false) := decide_eq_false fun h => h1 h.1
    have d1 : decide (0 ≤ x) = false := decide_eq_false h1
    clear h1
    go_enter Try.func33, Try.ntmps33
    go_wp2_with fail
    go_ret
    exact ⟨ret_bool (by rw [R.out]), rfl⟩
theorem isN_false {n x : Int} (h : isN n x = false) : x < 0 ∨ n ≤ x := by
  unfold isN at h
  have := of_decide_eq_false h
  omega
theorem isN_true {n x : Int} (h : isN n x = true) : 0 ≤ x ∧ x < n := of_decide_eq_true h
/-- What check answers. -/
def chkK (n : Int) (l : List Er) (m : List Int) : Int := if chkR n l = 0 then chkN n m else chkR n l
theorem chkK_bad {n : Int} {l : List Er} {m : List Int} (h : chkR n l ≠ 0) : chkK n l m = chkR n l := by unfold chkK; rw [if_neg h]
theorem chkK_ok {n : Int} {l : List Er} {m : List Int} (h : chkR n l = 0) : chkK n l m = chkN n m := by unfold chkK; rw [if_pos h]
set_option maxRecDepth 100000 in
set_option maxHeartbeats 4000000 in
theorem check_any (n : Int) (v u : Value) (l : List Er) (m : List Int) (hl : l.length ≤ 9223372036854775807) (hm : m.length ≤ 4096) (w : World) (h : LstR w v l) (hu : LstI w u m) : Calls Try.prog 23 #[.int .i64 n, v, u] w fun e w' => e = .returned (.int .i64 (chkK n l m)) ∧ Below w.heap.size w w' := by
  have H := Lib.hid h
  have U := Lib.hid hu
  obtain ⟨A, c, rfl, -, -, -⟩ := h
  obtain ⟨A2, c2, rfl, -, -, -⟩ := hu
  by_cases h1 : n < 0
  · have R : Hid (chkK n l m = 2) := by rw [chkK_bad (by rw [chk_far (.inl h1)]; decide), chk_far (.inl h1)]; rfl
    go_enter Try.func23, Try.ntmps23
    go_wp2_with fail
    go_ret
    exact ⟨ret_int R.out.symm, Below.refl _ _⟩
  have d1 : decide (n < 0) = false := decide_eq_false h1
  by_cases h2 : 64 < n
  · have R : Hid (chkK n l m = 2) := by rw [chkK_bad (by rw [chk_far (.inr h2)]; decide), chk_far (.inr h2)]; rfl
    clear h1
    go_enter Try.func23, Try.ntmps23
    go_wp2_with fail
    go_ret
    exact ⟨ret_int R.out.symm, Below.refl _ _⟩
  have d2 : decide (64 < n) = false := decide_eq_false h2
  have h12 : ¬ (n < 0 ∨ 64 < n) := by omega
  by_cases h3 : 4096 < l.length
  · have R : Hid (chkK n l m = 5) := by rw [chkK_bad (by rw [chk_many h12 h3]; decide), chk_many h12 h3]; rfl
    have g : (4096 : Int) < (l.length : Int) := by omega
    clear h1 h2 h12 h3
    go_enter Try.func23, Try.ntmps23
    go_wp2_with fail
    go_ret
    exact ⟨ret_int R.out.symm, Below.refl _ _⟩
  have d3 : decide ((4096 : Int) < (l.length : Int)) = false := by rw [decide_eq_false_iff_not]; omega
  have R := Lib.hid (chk_list h12 h3)
  have hl2 : l.length ≤ 4096 := by omega
  have n0 : (0 : Int) ≤ n := by omega
  have n1 : n ≤ 64 := by omega
  have IS := Lib.hid (fun x W => isNode_any n x W)
  clear h1 h2 h12 h3
  go_enter Try.func23, Try.ntmps23
  go_wp2_with fail
  go_loopw [22] (fun i wr => ∃ k : Nat, i = .int .i64 k ∧ k ≤ l.length ∧ Hid (chkL n l = chkL n (l.drop k)) ∧ Hid (Below w.heap.size w wr)) (fun i _ => l.length - (intOf i).toNat)
  case atStart => exact ⟨0, rfl, Nat.zero_le _, Lib.hid rfl, Lib.hid (Below.refl _ _)⟩
  case round =>
    clear d1 d2 d3
    obtain ⟨k, rfl, hk, hr, HB⟩ := hrel
    by_cases hlt : k < l.length
    · obtain ⟨e, he⟩ := at_lt hlt
      obtain ⟨b, o, rfl, hb, m0, m1, m2⟩ := three_at er_len H.out he rfl
      obtain ⟨x, y, z⟩ := e
      simp only at m0 m1 m2
      have r0 := (HB.out.cell (p := ⟨b, o + k * 3, none⟩) hb).trans m0
      have r1 := (HB.out.cell (p := ⟨b, o + k * 3 + 1, none⟩) hb).trans m1
      have r2 := (HB.out.cell (p := ⟨b, o + k * 3 + 2, none⟩) hb).trans m2
      have hd := hr.out.trans (chkL_drop (n := n) he)
      have gk : (k : Int) < (l.length : Int) := by omega
      have hz := HB.out.size
      have B1 : Hid (∀ o, Below w.heap.size w (wr.alloc o)) := fun o => HB.out.alloc hz o
      clear he hr m0 m1 m2 HB
      have X := Lib.hid (fun W => IS.out x W)
      have Y := Lib.hid (fun W => IS.out y W)
      cases hx : isN n x with
      | false =>
        have E : Hid (chkK n l m = 9) := by
          have a := isN_false hx
          have : chkL n l = 9 := by rw [hd, chkE_node (by show x < 0 ∨ n ≤ x ∨ y < 0 ∨ n ≤ y; omega)]; rfl
          rw [chkK_bad (by rw [R.out, this]; decide), R.out, this]; rfl
        rw [hx] at X
        clear hd hx Y IS
        go_wp2_with fail
        refine (X.out _).mono ?_
        rintro e w' ⟨rfl, rfl⟩
        go_wp2_with fail
        go_ret
        exact ⟨ret_int E.out.symm, B1.out _⟩
      | true =>
        rw [hx] at X
        cases hy : isN n y with
        | false =>
          have E : Hid (chkK n l m = 9) := by
            have a := isN_false hy
            have : chkL n l = 9 := by rw [hd, chkE_node (by show x < 0 ∨ n ≤ x ∨ y < 0 ∨ n ≤ y; omega)]; rfl
            rw [chkK_bad (by rw [R.out, this]; decide), R.out, this]; rfl
          rw [hy] at Y
          clear hd hx hy IS
          go_wp2_with fail
          refine (X.out _).mono ?_
          rintro e w' ⟨rfl, rfl⟩
          go_wp2_with fail
          refine (Y.out _).mono ?_
          rintro e w' ⟨rfl, rfl⟩
          go_wp2_with fail
          go_ret
          exact ⟨ret_int E.out.symm, B1.out _⟩
        | true =>
          rw [hy] at Y
          have a5 : ¬ (x < 0 ∨ n ≤ x ∨ y < 0 ∨ n ≤ y) := by have := isN_true hx; have := isN_true hy; omega
          clear hx hy IS
          by_cases a6 : z < 0
          · have E : Hid (chkK n l m = 2) := by
              have : chkL n l = 2 := by rw [hd, chkE_low a5 (.inl a6)]; rfl
              rw [chkK_bad (by rw [R.out, this]; decide), R.out, this]; rfl
            clear hd a5
            go_wp2_with fail
            refine (X.out _).mono ?_
            rintro e w' ⟨rfl, rfl⟩
            go_wp2_with fail
            refine (Y.out _).mono ?_
            rintro e w' ⟨rfl, rfl⟩
            go_wp2_with fail
            go_ret
            exact ⟨ret_int E.out.symm, B1.out _⟩
          have f6 : decide (z < 0) = false := decide_eq_false a6
          by_cases a7 : 1073741824 < z
          · have E : Hid (chkK n l m = 2) := by
              have : chkL n l = 2 := by rw [hd, chkE_low a5 (.inr a7)]; rfl
              rw [chkK_bad (by rw [R.out, this]; decide), R.out, this]; rfl
            clear hd a5 a6
            go_wp2_with fail
            refine (X.out _).mono ?_
            rintro e w' ⟨rfl, rfl⟩
            go_wp2_with fail
            refine (Y.out _).mono ?_
            rintro e w' ⟨rfl, rfl⟩
            go_wp2_with fail
            go_ret
            exact ⟨ret_int E.out.symm, B1.out _⟩
          have f7 : decide (1073741824 < z) = false := decide_eq_false a7
          have E : Hid (chkL n l = chkL n (l.drop (k + 1))) := by
            show _ = _
            rw [hd, chkE_none a5 (by show ¬ (z < 0 ∨ 1073741824 < z); omega), if_pos rfl]
          clear hd a5 a6 a7
          go_wp2_with fail
          refine (X.out _).mono ?_
          rintro e w' ⟨rfl, rfl⟩
          go_wp2_with fail
          refine (Y.out _).mono ?_
          rintro e w' ⟨rfl, rfl⟩
          go_wp2_with fail
          go_roundw
          case rel => exact ⟨k + 1, by go_num, by omega, E, Lib.hid (B1.out _)⟩
          case measure => simp [intOf]; omega
    · have E : Hid (chkK n l m = chkN n m) := by
        rw [chkK_ok (by rw [R.out, hr.out, List.drop_of_length_le (by omega)]; rfl)]; rfl
      have d : decide (k < l.length) = false := by rw [decide_eq_false_iff_not]; exact hlt
      clear hlt hr
      go_wp2_with fail
      go_loopw [49] (fun i wr' => ∃ q : Nat, i = .int .i64 q ∧ q ≤ m.length ∧ Hid (chkN n m = chkN n (m.drop q)) ∧ wr = wr') (fun i _ => m.length - (intOf i).toNat)
      case atStart => exact ⟨0, rfl, Nat.zero_le _, Lib.hid rfl, rfl⟩
      case round =>
        obtain ⟨q, rfl, hq, hr, rfl⟩ := hrel
        by_cases hlt : q < m.length
        · obtain ⟨x, hx⟩ := at_lt hlt
          obtain ⟨b, o, rfl, hb, m0⟩ := int_cell U.out hx
          have r0 := (HB.out.cell (p := ⟨b, o + q, none⟩) hb).trans m0
          have hd := hr.out.trans (chkN_drop (n := n) hx)
          have gk : (q : Int) < (m.length : Int) := by omega
          clear hx hr m0
          have X := Lib.hid (fun W => IS.out x W)
          cases hx : isN n x with
          | false =>
            rw [hx] at X
            have F : Hid (chkK n l m = 9) := by rw [E.out, hd, if_pos (isN_false hx)]; rfl
            clear hd hx
            go_wp2_with fail
            refine (X.out _).mono ?_
            rintro e w' ⟨rfl, rfl⟩
            go_wp2_with fail
            go_ret
            exact ⟨ret_int F.out.symm, HB.out⟩
          | true =>
            rw [hx] at X
            have F : Hid (chkN n m = chkN n (m.drop (q + 1))) := by
              show _ = _
              rw [hd, if_neg (by have := isN_true hx; omega)]
            clear hd hx
            go_wp2_with fail
            refine (X.out _).mono ?_
            rintro e w' ⟨rfl, rfl⟩
            go_wp2_with fail
            go_roundw
            case rel => exact ⟨q + 1, by go_num, by omega, F, trivial⟩
            case measure => simp [intOf]; omega
        · have F : Hid (chkK n l m = 0) := by rw [E.out, hr.out, List.drop_of_length_le (by omega)]; rfl
          have d : decide (q < m.length) = false := by rw [decide_eq_false_iff_not]; exact hlt
          clear hlt hr
          go_wp2_with fail
          go_ret
          exact ⟨ret_int F.out.symm, HB.out⟩
end Go.Proofs.Ytahbgafjljfndaa
