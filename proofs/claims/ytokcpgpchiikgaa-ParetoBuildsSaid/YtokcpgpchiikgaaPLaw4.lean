/-
  The law ParetoBuilds: true for every input, nothing that existed has changed. Condition: none.
-/
import Derived.Test.YtokcpgpchiikgaaPLaw3
namespace Go.Proofs.Ytokcpgpchiikgaa
open Go.RowKit

theorem frV_rev (l : List Vec) : frV l.reverse = frV l := frV_congr fun _ => List.mem_reverse
theorem up_next {l : List Vec} {k : Nat} {y : Vec} (h : l[k]? = some y) : frV (frV (l.take k) ++ [y]) = frV (l.take (k + 1)) := by
  rw [frV_left, take_at l k y h]
theorem down_next {l : List Vec} {k : Nat} {y : Vec} (h : l[l.length - 1 - k]? = some y) (hk : k < l.length) : frV (frV (l.reverse.take k) ++ [y]) = frV (l.reverse.take (k + 1)) := by
  rw [frV_left, rev_next h hk]
theorem three (a b c : List Vec) : frV (a ++ frV (b ++ c)) = frV (frV (a ++ b) ++ c) := by
  rw [frV_right, frV_left, List.append_assoc]
theorem insert_is (v : Value) (l : List Vec) (x : Vec) {r : List Vec} (hr : frV (l ++ [x]) = r) (hl : l.length ≤ 900000) (w : World) (h : LstV w v l) :
    Calls Try.prog 21 #[v, .agg #[.int .i64 x.1, .int .i64 x.2.1, .int .i64 x.2.2.1, .int .i64 x.2.2.2]] w fun e w' => ∃ v' q, e = .returned (.tuple #[v', .bool q]) ∧ LstV w' v' r ∧ Below w.heap.size w w' := by
  subst hr
  exact (insert_any v l x hl w h).mono fun _ _ ⟨v', he, hx⟩ => ⟨v', _, he, hx⟩
set_option maxRecDepth 100000 in
set_option maxHeartbeats 32000000 in
theorem builds_law (va : Value) (a : List Vec) (_ : a.length ≤ 9223372036854775807) (vb : Value) (b : List Vec) (_ : b.length ≤ 9223372036854775807) (vc' : Value) (c : List Vec) (_ : c.length ≤ 9223372036854775807) (w : World) (hA : LstV w va a) (hB : LstV w vb b) (hC : LstV w vc' c) : Calls Try.prog 8 #[va, vb, vc'] w fun e w' => e = .returned (.bool true) ∧ Below w.heap.size w w' := by
  have hh := hA
  obtain ⟨A, ca, rfl, -⟩ := hh
  have hh := hB
  obtain ⟨B, cb, rfl, -⟩ := hh
  have hh := hC
  obtain ⟨C, cc, rfl, -⟩ := hh
  have La := Lib.hid hA
  have Lb := Lib.hid hB
  have Lc := Lib.hid hC
  clear hA hB hC
  by_cases h1 : (40 : Int) < (a.length : Int)
  · clear La Lb Lc
    go_enter Try.func8, Try.ntmps8
    go_wp2_with fail
    refine (ex_any _).mono ?_
    rintro e w1 ⟨rfl, b1⟩
    have BB := Lib.hid (b1)
    clear b1
    go_wp2_with fail
    go_ret
    exact ⟨rfl, BB.out⟩
  have ha : a.length ≤ 40 := by omega
  have d1 : decide ((40 : Int) < (a.length : Int)) = false := decide_eq_false h1
  clear h1
  by_cases h2 : (40 : Int) < (b.length : Int)
  · clear La Lb Lc
    go_enter Try.func8, Try.ntmps8
    go_wp2_with fail
    refine (ex_any _).mono ?_
    rintro e w1 ⟨rfl, b1⟩
    have BB := Lib.hid (b1)
    clear b1
    go_wp2_with fail
    go_ret
    exact ⟨rfl, BB.out⟩
  have hb : b.length ≤ 40 := by omega
  have d2 : decide ((40 : Int) < (b.length : Int)) = false := decide_eq_false h2
  clear h2
  by_cases h3 : (40 : Int) < (c.length : Int)
  · clear La Lb Lc
    go_enter Try.func8, Try.ntmps8
    go_wp2_with fail
    refine (ex_any _).mono ?_
    rintro e w1 ⟨rfl, b1⟩
    have BB := Lib.hid (b1)
    clear b1
    go_wp2_with fail
    go_ret
    exact ⟨rfl, BB.out⟩
  have hc : c.length ≤ 40 := by omega
  have d3 : decide ((40 : Int) < (c.length : Int)) = false := decide_eq_false h3
  clear h3
  have hab := frV_len (a ++ b)
  rw [List.length_append] at hab
  have hbc := frV_len (b ++ c)
  rw [List.length_append] at hbc
  have hall := frV_len (frV (a ++ b) ++ c)
  rw [List.length_append] at hall
  have M1 := Lib.hid (fun va vb w h k => merge_any va vb a b (by omega) (by omega) w h k)
  have M2 := Lib.hid (fun va vb w h k => merge_any va vb b a (by omega) (by omega) w h k)
  rw [frV_comm] at M2
  have M3 := Lib.hid (fun va vb w h k => merge_any va vb (frV (a ++ b)) c (by omega) (by omega) w h k)
  have M4 := Lib.hid (fun va vb w h k => merge_any va vb b c (by omega) (by omega) w h k)
  have M5 := Lib.hid (fun va vb w h k => merge_any va vb a (frV (b ++ c)) (by omega) (by omega) w h k)
  rw [three] at M5
  have FA := Lib.hid (fun v w h => front_any v a (by omega) w h)
  have hfa := frV_len a
  generalize frV (frV (a ++ b) ++ c) = ABC at M3 M5 hall
  generalize frV (a ++ b) = AB at M1 M2 M3 hab hall
  generalize frV (b ++ c) = BC at M4 M5 hbc
  go_enter Try.func8, Try.ntmps8
  go_wp2_with fail
  refine (from_any _ a (by omega) w La.out).mono ?_
  rintro e w1 ⟨v_x, rfl, l_x, b1⟩
  have Lb := Lib.hid (Lb.out.below b1)
  have Lc := Lib.hid (Lc.out.below b1)
  have Lx := Lib.hid l_x
  have BB1 := Lib.hid (b1)
  clear l_x b1 La
  go_wp2_with fail
  refine (from_any _ b (by omega) w1 Lb.out).mono ?_
  rintro e w2 ⟨v_y, rfl, l_y, b2⟩
  have Lc := Lib.hid (Lc.out.below b2)
  have Lx := Lib.hid (Lx.out.below b2)
  have Ly := Lib.hid l_y
  have BB2 := Lib.hid (BB1.out.trans (b2.mono BB1.out.size))
  clear l_y b2 BB1 Lb
  go_wp2_with fail
  refine (from_any _ c (by omega) w2 Lc.out).mono ?_
  rintro e w3 ⟨v_z, rfl, l_z, b3⟩
  have Lx := Lib.hid (Lx.out.below b3)
  have Ly := Lib.hid (Ly.out.below b3)
  have Lz := Lib.hid l_z
  have BB3 := Lib.hid (BB2.out.trans (b3.mono BB2.out.size))
  clear l_z b3 BB2 Lc
  have hh := Lx.out
  obtain ⟨X, cx, rfl, -⟩ := hh
  go_wp2_with fail
  go_loopw [10, 11, 12] (fun u d i wr => ∃ k : Nat, i = .int .i64 (k : Int) ∧ k ≤ a.length ∧ Hid (LstV wr u (frV (a.take k))) ∧ Hid (LstV wr d (frV (a.reverse.take k))) ∧ Hid (Below w3.heap.size w3 wr)) (fun _ _ i _ => a.length - (intOf i).toNat)
  case atStart => exact ⟨0, rfl, Nat.zero_le _, Lib.hid (LstG.nil _ _), Lib.hid (LstG.nil _ _), Lib.hid (Below.refl _ _)⟩
  case round =>
    obtain ⟨k, rfl, hk, HU, HD, HB⟩ := hrel
    by_cases hlt : k < a.length
    · obtain ⟨p, hp⟩ := at_lt hlt
      obtain ⟨j, hj⟩ : ∃ j, j = a.length - 1 - k := ⟨_, rfl⟩
      obtain ⟨q, hq⟩ := (at_lt (by omega) : ∃ q, a[j]? = some q)
      have gk : (k : Int) < (a.length : Int) := by omega
      have gj : (j : Int) < (a.length : Int) := by omega
      have hj' : (a.length : Int) - 1 - (k : Int) = (j : Int) := by omega
      have IU := Lib.hid (fun v w h => insert_is v _ p (up_next hp) (by have := frV_len (a.take k); rw [List.length_take] at this; omega) w h)
      have ID := Lib.hid (fun v w h => insert_is v _ q (down_next (k := k) (by rw [← hj]; exact hq) hlt) (by have := frV_len (a.reverse.take k); rw [List.length_take, List.length_reverse] at this; omega) w h)
      obtain ⟨bk, o, hbo, hbk, m0, m1, m2, m3⟩ := v_at (Lx.out.below HB.out) hp
      subst hbo
      have HQ := Lib.hid hq
      generalize frV (a.take k) = U at HU IU
      generalize frV (a.reverse.take k) = D at HD ID
      clear hp hq hj hbk
      go_wp2_with fail
      refine (IU.out _ wr HU.out).mono ?_
      rintro e w4 ⟨vu, qu, rfl, lu, b4⟩
      have LU := Lib.hid lu
      have LD := Lib.hid (HD.out.below b4)
      have B4 := Lib.hid (HB.out.trans (b4.mono HB.out.size))
      obtain ⟨bk', o', hbo', hbk', n0, n1, n2, n3⟩ := v_at (Lx.out.below B4.out) HQ.out
      cases hbo'
      clear lu b4 HU HD HB IU m0 m1 m2 m3 hbk'
      go_wp2_with fail
      refine (ID.out _ w4 LD.out).mono ?_
      rintro e w5 ⟨vd, qd, rfl, ld, b5⟩
      have LU := Lib.hid (LU.out.below b5)
      have LE := Lib.hid ld
      have B5 := Lib.hid (B4.out.trans (b5.mono B4.out.size))
      clear ld b5 LD B4 ID n0 n1 n2 n3
      go_wp2_with fail
      go_roundw
      case rel => exact ⟨k + 1, by go_num, by omega, LU, LE, B5⟩
      case measure => simp [intOf]; omega
    · have d : decide (k < a.length) = false := by rw [decide_eq_false_iff_not]; exact hlt
      have LU : Hid (LstV wr u10 (frV a)) := by
        have := HU.out
        rw [List.take_of_length_le (by omega)] at this
        exact this
      have LD : Hid (LstV wr u11 (frV a)) := by
        have := HD.out
        rw [List.take_of_length_le (by rw [List.length_reverse]; omega), frV_rev] at this
        exact this
      have Lx := Lib.hid (Lx.out.below HB.out)
      have Ly := Lib.hid (Ly.out.below HB.out)
      have Lz := Lib.hid (Lz.out.below HB.out)
      have BB0 := Lib.hid (BB3.out.trans (HB.out.mono BB3.out.size))
      generalize frV a = FF at LU LD FA hfa
      clear hlt HU HD HB BB3
      go_wp2_with fail
      refine (FA.out _ wr Lx.out).mono ?_
      rintro e v1 ⟨v_f0, rfl, l_f0, b1⟩
      have Lx := Lib.hid (Lx.out.below b1)
      have Ly := Lib.hid (Ly.out.below b1)
      have Lz := Lib.hid (Lz.out.below b1)
      have LU := Lib.hid (LU.out.below b1)
      have LD := Lib.hid (LD.out.below b1)
      have Lf0 := Lib.hid l_f0
      have BB1 := Lib.hid (BB0.out.trans (b1.mono BB0.out.size))
      clear l_f0 b1 BB0
      go_wp2_with fail
      refine (to_any _ FF (by omega) v1 Lf0.out).mono ?_
      rintro e v2 ⟨v_f, rfl, l_f, b2⟩
      have Lx := Lib.hid (Lx.out.below b2)
      have Ly := Lib.hid (Ly.out.below b2)
      have Lz := Lib.hid (Lz.out.below b2)
      have LU := Lib.hid (LU.out.below b2)
      have LD := Lib.hid (LD.out.below b2)
      have Lf := Lib.hid l_f
      have BB2 := Lib.hid (BB1.out.trans (b2.mono BB1.out.size))
      clear l_f b2 BB1 Lf0
      go_wp2_with fail
      refine (to_any _ FF (by omega) v2 LU.out).mono ?_
      rintro e v3 ⟨v_u, rfl, l_u, b3⟩
      have Lx := Lib.hid (Lx.out.below b3)
      have Ly := Lib.hid (Ly.out.below b3)
      have Lz := Lib.hid (Lz.out.below b3)
      have LD := Lib.hid (LD.out.below b3)
      have Lf := Lib.hid (Lf.out.below b3)
      have Lu := Lib.hid l_u
      have BB3 := Lib.hid (BB2.out.trans (b3.mono BB2.out.size))
      clear l_u b3 BB2 LU
      go_wp2_with fail
      refine (ex_same _ _ FF (by omega) v3 Lu.out Lf.out).mono ?_
      rintro e v4 ⟨rfl, b4⟩
      have Lx := Lib.hid (Lx.out.below b4)
      have Ly := Lib.hid (Ly.out.below b4)
      have Lz := Lib.hid (Lz.out.below b4)
      have LD := Lib.hid (LD.out.below b4)
      have Lf := Lib.hid (Lf.out.below b4)
      have BB4 := Lib.hid (BB3.out.trans (b4.mono BB3.out.size))
      clear b4 BB3 Lu
      go_wp2_with fail
      refine (to_any _ FF (by omega) v4 LD.out).mono ?_
      rintro e v5 ⟨v_d, rfl, l_d, b5⟩
      have Lx := Lib.hid (Lx.out.below b5)
      have Ly := Lib.hid (Ly.out.below b5)
      have Lz := Lib.hid (Lz.out.below b5)
      have Lf := Lib.hid (Lf.out.below b5)
      have Ld := Lib.hid l_d
      have BB5 := Lib.hid (BB4.out.trans (b5.mono BB4.out.size))
      clear l_d b5 BB4 LD
      go_wp2_with fail
      refine (ex_same _ _ FF (by omega) v5 Ld.out Lf.out).mono ?_
      rintro e v6 ⟨rfl, b6⟩
      have Lx := Lib.hid (Lx.out.below b6)
      have Ly := Lib.hid (Ly.out.below b6)
      have Lz := Lib.hid (Lz.out.below b6)
      have BB6 := Lib.hid (BB5.out.trans (b6.mono BB5.out.size))
      clear b6 BB5 Ld Lf
      go_wp2_with fail
      refine (M1.out _ _ v6 Lx.out Ly.out).mono ?_
      rintro e v7 ⟨v_m, rfl, l_m, b7⟩
      have Lx := Lib.hid (Lx.out.below b7)
      have Ly := Lib.hid (Ly.out.below b7)
      have Lz := Lib.hid (Lz.out.below b7)
      have Lm := Lib.hid l_m
      have BB7 := Lib.hid (BB6.out.trans (b7.mono BB6.out.size))
      clear l_m b7 BB6
      go_wp2_with fail
      refine (to_any _ AB (by omega) v7 Lm.out).mono ?_
      rintro e v8 ⟨v_n, rfl, l_n, b8⟩
      have Lx := Lib.hid (Lx.out.below b8)
      have Ly := Lib.hid (Ly.out.below b8)
      have Lz := Lib.hid (Lz.out.below b8)
      have Ln := Lib.hid l_n
      have BB8 := Lib.hid (BB7.out.trans (b8.mono BB7.out.size))
      clear l_n b8 BB7 Lm
      go_wp2_with fail
      refine (M2.out _ _ v8 Ly.out Lx.out).mono ?_
      rintro e v9 ⟨v_m, rfl, l_m, b9⟩
      have Lx := Lib.hid (Lx.out.below b9)
      have Ly := Lib.hid (Ly.out.below b9)
      have Lz := Lib.hid (Lz.out.below b9)
      have Ln := Lib.hid (Ln.out.below b9)
      have Lm := Lib.hid l_m
      have BB9 := Lib.hid (BB8.out.trans (b9.mono BB8.out.size))
      clear l_m b9 BB8
      go_wp2_with fail
      refine (to_any _ AB (by omega) v9 Lm.out).mono ?_
      rintro e v10 ⟨v_o, rfl, l_o, b10⟩
      have Lx := Lib.hid (Lx.out.below b10)
      have Ly := Lib.hid (Ly.out.below b10)
      have Lz := Lib.hid (Lz.out.below b10)
      have Ln := Lib.hid (Ln.out.below b10)
      have Lo := Lib.hid l_o
      have BB10 := Lib.hid (BB9.out.trans (b10.mono BB9.out.size))
      clear l_o b10 BB9 Lm
      go_wp2_with fail
      refine (ex_same _ _ AB (by omega) v10 Ln.out Lo.out).mono ?_
      rintro e v11 ⟨rfl, b11⟩
      have Lx := Lib.hid (Lx.out.below b11)
      have Ly := Lib.hid (Ly.out.below b11)
      have Lz := Lib.hid (Lz.out.below b11)
      have BB11 := Lib.hid (BB10.out.trans (b11.mono BB10.out.size))
      clear b11 BB10 Ln Lo
      go_wp2_with fail
      refine (M1.out _ _ v11 Lx.out Ly.out).mono ?_
      rintro e v12 ⟨v_m, rfl, l_m, b12⟩
      have Lx := Lib.hid (Lx.out.below b12)
      have Ly := Lib.hid (Ly.out.below b12)
      have Lz := Lib.hid (Lz.out.below b12)
      have Lm := Lib.hid l_m
      have BB12 := Lib.hid (BB11.out.trans (b12.mono BB11.out.size))
      clear l_m b12 BB11
      go_wp2_with fail
      refine (M3.out _ _ v12 Lm.out Lz.out).mono ?_
      rintro e v13 ⟨v_n, rfl, l_n, b13⟩
      have Lx := Lib.hid (Lx.out.below b13)
      have Ly := Lib.hid (Ly.out.below b13)
      have Lz := Lib.hid (Lz.out.below b13)
      have Ln := Lib.hid l_n
      have BB13 := Lib.hid (BB12.out.trans (b13.mono BB12.out.size))
      clear l_n b13 BB12 Lm
      go_wp2_with fail
      refine (to_any _ ABC (by omega) v13 Ln.out).mono ?_
      rintro e v14 ⟨v_o, rfl, l_o, b14⟩
      have Lx := Lib.hid (Lx.out.below b14)
      have Ly := Lib.hid (Ly.out.below b14)
      have Lz := Lib.hid (Lz.out.below b14)
      have Lo := Lib.hid l_o
      have BB14 := Lib.hid (BB13.out.trans (b14.mono BB13.out.size))
      clear l_o b14 BB13 Ln
      go_wp2_with fail
      refine (M4.out _ _ v14 Ly.out Lz.out).mono ?_
      rintro e v15 ⟨v_m, rfl, l_m, b15⟩
      have Lx := Lib.hid (Lx.out.below b15)
      have Lo := Lib.hid (Lo.out.below b15)
      have Lm := Lib.hid l_m
      have BB15 := Lib.hid (BB14.out.trans (b15.mono BB14.out.size))
      clear l_m b15 BB14 Ly Lz
      go_wp2_with fail
      refine (M5.out _ _ v15 Lx.out Lm.out).mono ?_
      rintro e v16 ⟨v_n, rfl, l_n, b16⟩
      have Lo := Lib.hid (Lo.out.below b16)
      have Ln := Lib.hid l_n
      have BB16 := Lib.hid (BB15.out.trans (b16.mono BB15.out.size))
      clear l_n b16 BB15 Lm Lx
      go_wp2_with fail
      refine (to_any _ ABC (by omega) v16 Ln.out).mono ?_
      rintro e v17 ⟨v_p, rfl, l_p, b17⟩
      have Lo := Lib.hid (Lo.out.below b17)
      have Lp := Lib.hid l_p
      have BB17 := Lib.hid (BB16.out.trans (b17.mono BB16.out.size))
      clear l_p b17 BB16 Ln
      go_wp2_with fail
      refine (ex_same _ _ ABC (by omega) v17 Lo.out Lp.out).mono ?_
      rintro e v18 ⟨rfl, b18⟩
      have BB18 := Lib.hid (BB17.out.trans (b18.mono BB17.out.size))
      clear b18 BB17 Lo Lp
      go_wp2_with fail
      refine (ex_any v18).mono ?_
      rintro e v19 ⟨rfl, b19⟩
      have BB19 := Lib.hid (BB18.out.trans (b19.mono BB18.out.size))
      clear b19 BB18
      go_wp2_with fail
      go_ret
      exact ⟨rfl, BB19.out⟩
end Go.Proofs.Ytokcpgpchiikgaa
