/-
  The laws ShortestDistances, ShortestComponents, ShortestPaths, ShortestMatrix: each answers true for every input; nothing that existed before the call has changed behind it. Condition: ends of 64 bits.
-/
import Derived.Test.YtahbgafjljfndaaTEx
namespace Go.Proofs.Ytahbgafjljfndaa
open Go.RowKit

/-- What an edge among the arguments may be. -/
def OkR (l : List Er) : Prop := ∀ e ∈ l, ((-9223372036854775808 ≤ e.1 ∧ e.1 ≤ 9223372036854775807) ∧ (-9223372036854775808 ≤ e.2.1 ∧ e.2.1 ≤ 9223372036854775807) ∧ -9223372036854775808 ≤ e.2.2 ∧ e.2.2 ≤ 9223372036854775807)
theorem ansD_len (n : Int) (l : List Er) (a : Int) : (ansD n l a).length ≤ 64 := by
  unfold ansD
  split
  · next h =>
    obtain ⟨N, L, g⟩ := chkR_ok (chkK_zero h).1
    rw [distL_length, g.down.2]
    exact g.le
  · simp
theorem ansC_len (n : Int) (l : List Er) : (ansC n l).length ≤ 64 := by
  unfold ansC
  split
  · next h =>
    obtain ⟨N, L, g⟩ := chkR_ok h
    rw [compL_length, firstL_length, g.down.2]
    exact g.le
  · simp
theorem ansP_len (n : Int) (l : List Er) (a b : Int) : (ansP n l a b).1.length ≤ 128 := by
  unfold ansP
  split
  · split
    · simp
    · simp only [pathR, List.length_map, List.length_range]
      omega
  · simp
set_option maxRecDepth 100000 in
set_option maxHeartbeats 4000000 in
theorem dist_law (n : Int) (v : Value) (l : List Er) (hl : l.length ≤ 9223372036854775807) (_ : OkR l) (a : Int) (w : World) (h : LstR w v l) : Calls Try.prog 3 #[.int .i64 n, v, .int .i64 a] w fun e w' => e = .returned (.bool true) ∧ Below w.heap.size w w' := by
  have LG := Lib.hid (large_any n v l hl w h)
  have H := Lib.hid h
  clear h
  cases hb : largeB n l.length with
  | true =>
    rw [hb] at LG
    clear hb hl
    go_enter Try.func3, Try.ntmps3
    go_wp2_with fail
    refine LG.out.mono ?_
    rintro e w' ⟨rfl, rfl⟩
    go_wp2_with fail
    refine (ex_any w).mono ?_
    rintro e w1 ⟨rfl, b1⟩
    go_wp2_with fail
    go_ret
    exact ⟨rfl, b1⟩
  | false =>
    rw [hb] at LG
    have h5 := largeB_not hb
    have hal := ansD_len n l a
    clear hb
    go_enter Try.func3, Try.ntmps3
    go_wp2_with fail
    refine LG.out.mono ?_
    rintro e w' ⟨rfl, rfl⟩
    clear LG
    go_wp2_with fail
    refine (to_any v l (by omega) w H.out).mono ?_
    rintro e w1 ⟨u1, rfl, l1, b1⟩
    have B1 := Lib.hid b1
    have L1 := Lib.hid l1
    clear b1 l1
    go_wp2_with fail
    refine (kdist_any n a u1 l hl w1 L1.out).mono ?_
    rintro e w2 ⟨u2, rfl, o2, b2⟩
    have B2 : Hid (Below w.heap.size w w2) := B1.out.trans (b2.mono B1.out.size)
    have D2 : Hid (LstI w2 u2 (ansD n l a)) := OwnI.lst o2
    clear o2 b2 B1 L1
    go_wp2_with fail
    refine (rdist_any n a v l hl w2 (H.out.below B2.out)).mono ?_
    rintro e w3 ⟨u3, rfl, o3, b3⟩
    have B3 : Hid (Below w.heap.size w w3) := B2.out.trans (b3.mono B2.out.size)
    have D3 := Lib.hid (D2.out.below b3)
    have E3 : Hid (LstI w3 u3 (ansD n l a)) := OwnI.lst o3
    clear o3 b3 B2 D2
    generalize ansD n l a = ls at hal D3 E3
    generalize chkK n l [a] = q
    have t := beq_true (a := q) rfl
    go_wp2_with fail
    refine (Calls.below (same_any u2 u3 ls ls (by omega) w3 D3.out E3.out)).mono ?_
    rintro e w4 ⟨rfl, b4⟩
    have B4 : Hid (Below w.heap.size w w4) := B3.out.trans (b4.mono B3.out.size)
    have r : decide (ls = ls) = true := decide_eq_true rfl
    rw [r]
    clear b4 B3 D3 E3 r
    go_wp2_with fail
    refine (ex_any w4).mono ?_
    rintro e w5 ⟨rfl, b5⟩
    have B5 := Lib.hid (B4.out.trans (b5.mono B4.out.size))
    clear b5 B4
    go_wp2_with fail
    go_ret
    exact ⟨rfl, B5.out⟩
set_option maxRecDepth 100000 in
set_option maxHeartbeats 4000000 in
theorem comp_law (n : Int) (v : Value) (l : List Er) (hl : l.length ≤ 9223372036854775807) (_ : OkR l) (w : World) (h : LstR w v l) : Calls Try.prog 6 #[.int .i64 n, v] w fun e w' => e = .returned (.bool true) ∧ Below w.heap.size w w' := by
  have LG := Lib.hid (large_any n v l hl w h)
  have H := Lib.hid h
  clear h
  cases hb : largeB n l.length with
  | true =>
    rw [hb] at LG
    clear hb hl
    go_enter Try.func6, Try.ntmps6
    go_wp2_with fail
    refine LG.out.mono ?_
    rintro e w' ⟨rfl, rfl⟩
    go_wp2_with fail
    refine (ex_any w).mono ?_
    rintro e w1 ⟨rfl, b1⟩
    go_wp2_with fail
    go_ret
    exact ⟨rfl, b1⟩
  | false =>
    rw [hb] at LG
    have h5 := largeB_not hb
    have hal := ansC_len n l
    clear hb
    go_enter Try.func6, Try.ntmps6
    go_wp2_with fail
    refine LG.out.mono ?_
    rintro e w' ⟨rfl, rfl⟩
    clear LG
    go_wp2_with fail
    refine (to_any v l (by omega) w H.out).mono ?_
    rintro e w1 ⟨u1, rfl, l1, b1⟩
    have B1 := Lib.hid b1
    have L1 := Lib.hid l1
    clear b1 l1
    go_wp2_with fail
    refine (kcomp_any n u1 l hl w1 L1.out).mono ?_
    rintro e w2 ⟨u2, rfl, o2, b2⟩
    have B2 : Hid (Below w.heap.size w w2) := B1.out.trans (b2.mono B1.out.size)
    have D2 : Hid (LstI w2 u2 (ansC n l)) := OwnI.lst o2
    clear o2 b2 B1 L1
    go_wp2_with fail
    refine (rcomp_any n v l hl w2 (H.out.below B2.out)).mono ?_
    rintro e w3 ⟨u3, rfl, o3, b3⟩
    have B3 : Hid (Below w.heap.size w w3) := B2.out.trans (b3.mono B2.out.size)
    have D3 := Lib.hid (D2.out.below b3)
    have E3 : Hid (LstI w3 u3 (ansC n l)) := OwnI.lst o3
    clear o3 b3 B2 D2
    generalize ansC n l = ls at hal D3 E3
    generalize chkR n l = q
    have t := beq_true (a := q) rfl
    go_wp2_with fail
    refine (Calls.below (same_any u2 u3 ls ls (by omega) w3 D3.out E3.out)).mono ?_
    rintro e w4 ⟨rfl, b4⟩
    have B4 : Hid (Below w.heap.size w w4) := B3.out.trans (b4.mono B3.out.size)
    have r : decide (ls = ls) = true := decide_eq_true rfl
    rw [r]
    clear b4 B3 D3 E3 r
    go_wp2_with fail
    refine (ex_any w4).mono ?_
    rintro e w5 ⟨rfl, b5⟩
    have B5 := Lib.hid (B4.out.trans (b5.mono B4.out.size))
    clear b5 B4
    go_wp2_with fail
    go_ret
    exact ⟨rfl, B5.out⟩
set_option maxRecDepth 100000 in
set_option maxHeartbeats 4000000 in
theorem path_law (n : Int) (v : Value) (l : List Er) (hl : l.length ≤ 9223372036854775807) (_ : OkR l) (a : Int) (h1 : -9223372036854775808 ≤ a) (h2 : a ≤ 9223372036854775807) (w : World) (h : LstR w v l) : Calls Try.prog 5 #[.int .i64 n, v, .int .i64 a] w fun e w' => e = .returned (.bool true) ∧ Below w.heap.size w w' := by
  have LG := Lib.hid (large_any n v l hl w h)
  have H := Lib.hid h
  clear h
  cases hb : largeB n l.length with
  | true =>
    rw [hb] at LG
    clear hb hl
    go_enter Try.func5, Try.ntmps5
    go_wp2_with fail
    refine LG.out.mono ?_
    rintro e w' ⟨rfl, rfl⟩
    go_wp2_with fail
    refine (ex_any w).mono ?_
    rintro e w1 ⟨rfl, b1⟩
    go_wp2_with fail
    go_ret
    exact ⟨rfl, b1⟩
  | false =>
    rw [hb] at LG
    have h5 := largeB_not hb
    clear hb
    go_enter Try.func5, Try.ntmps5
    go_wp2_with fail
    refine LG.out.mono ?_
    rintro e w' ⟨rfl, rfl⟩
    clear LG
    go_wp2_with fail
    refine (to_any v l (by omega) w H.out).mono ?_
    rintro e w1 ⟨u1, rfl, l1, b1⟩
    have B1 := Lib.hid b1
    have L1 := Lib.hid l1
    clear b1 l1
    go_wp2_with fail
    generalize a.tdiv 100 = x
    generalize a.tmod 100 = y
    have hal := ansP_len n l x y
    refine (kpath_any n x y u1 l hl w1 L1.out).mono ?_
    rintro e w2 ⟨u2, rfl, o2, b2⟩
    have B2 : Hid (Below w.heap.size w w2) := B1.out.trans (b2.mono B1.out.size)
    have D2 : Hid (LstI w2 u2 (ansP n l x y).1) := OwnI.lst o2
    clear o2 b2 B1 L1
    go_wp2_with fail
    refine (rpath_any n x y v l hl w2 (H.out.below B2.out)).mono ?_
    rintro e w3 ⟨u3, rfl, o3, b3⟩
    have B3 : Hid (Below w.heap.size w w3) := B2.out.trans (b3.mono B2.out.size)
    have D3 := Lib.hid (D2.out.below b3)
    have E3 : Hid (LstI w3 u3 (ansP n l x y).1) := OwnI.lst o3
    clear o3 b3 B2 D2
    generalize (ansP n l x y).1 = ls at hal D3 E3
    generalize (ansP n l x y).2.1 = p
    generalize (ansP n l x y).2.2 = q
    have t := beq_true (a := q) rfl
    have t2 := beq_true (a := p) rfl
    go_wp2_with fail
    refine (Calls.below (same_any u2 u3 ls ls (by omega) w3 D3.out E3.out)).mono ?_
    rintro e w4 ⟨rfl, b4⟩
    have B4 : Hid (Below w.heap.size w w4) := B3.out.trans (b4.mono B3.out.size)
    have r : decide (ls = ls) = true := decide_eq_true rfl
    rw [r]
    clear b4 B3 D3 E3 r
    go_wp2_with fail
    refine (ex_any w4).mono ?_
    rintro e w5 ⟨rfl, b5⟩
    have B5 := Lib.hid (B4.out.trans (b5.mono B4.out.size))
    clear b5 B4
    go_wp2_with fail
    go_ret
    exact ⟨rfl, B5.out⟩
theorem ansA_len (n : Int) (l : List Er) : (ansA n l).length ≤ 64 := by
  unfold ansA
  split
  · next h =>
    obtain ⟨N, L, g⟩ := chkR_ok h
    rw [List.length_map, List.length_range, g.down.2]
    exact g.le
  · simp
theorem ansA_el {n : Int} {l : List Er} {i : Nat} {d : List Int} (h : (ansA n l)[i]? = some d) : d.length ≤ 64 := by
  unfold ansA at h
  split at h
  · next h0 =>
    obtain ⟨N, L, g⟩ := chkR_ok h0
    rw [g.down.1, g.down.2, List.getElem?_map] at h
    cases hr : (List.range N)[i]? with
    | none => rw [hr] at h; cases h
    | some r =>
      rw [hr] at h
      have := Option.some.inj h
      rw [← this, distL_length]
      exact g.le
  · simp at h
set_option maxRecDepth 100000 in
set_option maxHeartbeats 4000000 in
theorem matrix_law (n : Int) (v : Value) (l : List Er) (hl : l.length ≤ 9223372036854775807) (_ : OkR l) (w : World) (h : LstR w v l) : Calls Try.prog 4 #[.int .i64 n, v] w fun e w' => e = .returned (.bool true) ∧ Below w.heap.size w w' := by
  have LG := Lib.hid (large_any n v l hl w h)
  have H := Lib.hid h
  clear h
  cases hb : largeB n l.length with
  | true =>
    rw [hb] at LG
    clear hb hl
    go_enter Try.func4, Try.ntmps4
    go_wp2_with fail
    refine LG.out.mono ?_
    rintro e w' ⟨rfl, rfl⟩
    go_wp2_with fail
    refine (ex_any w).mono ?_
    rintro e w1 ⟨rfl, b1⟩
    go_wp2_with fail
    go_ret
    exact ⟨rfl, b1⟩
  | false =>
    rw [hb] at LG
    have h5 := largeB_not hb
    have hal := ansA_len n l
    have HEL := Lib.hid (fun i d (h : (ansA n l)[i]? = some d) => ansA_el h)
    clear hb
    go_enter Try.func4, Try.ntmps4
    go_wp2_with fail
    refine LG.out.mono ?_
    rintro e w' ⟨rfl, rfl⟩
    clear LG
    go_wp2_with fail
    refine (to_any v l (by omega) w H.out).mono ?_
    rintro e w1 ⟨u1, rfl, l1, b1⟩
    have B1 := Lib.hid b1
    have L1 := Lib.hid l1
    clear b1 l1
    go_wp2_with fail
    refine (kall_any n u1 l hl w1 L1.out).mono ?_
    rintro e w2 ⟨u2, rfl, o2, b2⟩
    have B2 : Hid (Below w.heap.size w w2) := B1.out.trans (b2.mono B1.out.size)
    have D2 := Lib.hid o2
    clear o2 b2 B1 L1
    go_wp2_with fail
    refine (rall_any n v l hl w2 (H.out.below B2.out)).mono ?_
    rintro e w3 ⟨u3, rfl, o3, b3⟩
    have B3 : Hid (Below w.heap.size w w3) := B2.out.trans (b3.mono B2.out.size)
    have D3 := Lib.hid (D2.out.below b3)
    have E3 := Lib.hid o3
    clear o3 b3 B2 D2
    generalize ansA n l = ls at hal D3 E3 HEL
    generalize chkR n l = q
    have t := neq_false (a := q) rfl
    obtain ⟨A2, c2, rfl⟩ := D3.out.len
    obtain ⟨A3, c3, rfl⟩ := E3.out.len
    have t2 := neq_false (a := (ls.length : Int)) rfl
    go_wp2_with fail
    clear t t2
    go_loopw [9] (fun i wr => ∃ k : Nat, i = .int .i64 k ∧ k ≤ ls.length ∧ Hid (Below w3.heap.size w3 wr)) (fun i _ => ls.length - (intOf i).toNat)
    case atStart => exact ⟨0, rfl, Nat.zero_le _, Lib.hid (Below.refl _ _)⟩
    case round =>
      obtain ⟨k, rfl, hk, HB⟩ := hrel
      by_cases hlt : k < ls.length
      · obtain ⟨d, hd⟩ := at_lt hlt
        have hdl := HEL.out k d hd
        obtain ⟨-, b1, o1, t1, rfl, hb1, m1, i1⟩ := (D3.out.below HB.out).at hd
        obtain ⟨-, b2, o2, t2, rfl, hb2, m2, i2⟩ := (E3.out.below HB.out).at hd
        have M1 := fun d' os => Go.cell_regrown m1 d' os
        have M2 := fun d' os => Go.cell_regrown m2 d' os
        have C := Lib.hid (fun d' os => Calls.regrown_of (w := wr) (d := d') (os := os) (Calls.below (same_any (svV t1) (svV t2) d d (by omega) _ (i1.below (below_regrown wr d' os)) (i2.below (below_regrown wr d' os)))))
        have r : decide (d = d) = true := decide_eq_true rfl
        rw [r] at C
        have gk : (k : Int) < (ls.length : Int) := by omega
        clear m1 m2 i1 i2 hd hb1 hb2 r
        go_wp2_with fail
        refine wp_region_quiet_below (by kernel_rfl) (by kernel_rfl) ?_
        repeat (go_big_quiet_step (with_reducible exact C.out _ _))
        refine wpQuiet_nil ?_
        intro w4 hw4
        have B4 := Lib.hid (regrown_below HB.out hw4)
        clear hw4 HB M1 M2 C
        go_wp2_with fail
        go_roundw
        case rel => exact ⟨k + 1, by go_num, by omega, B4⟩
        case measure => simp [intOf]; omega
      · have d0 : decide (k < ls.length) = false := by rw [decide_eq_false_iff_not]; exact hlt
        have B9 : Hid (Below w.heap.size w wr) := B3.out.trans (HB.out.mono B3.out.size)
        clear hlt HB B3 D3 E3
        go_wp2_with fail
        refine (ex_any wr).mono ?_
        rintro e w5 ⟨rfl, b5⟩
        have B5 := Lib.hid (B9.out.trans (b5.mono B9.out.size))
        clear b5 B9
        go_wp2_with fail
        go_ret
        exact ⟨rfl, B5.out⟩
end Go.Proofs.Ytahbgafjljfndaa
