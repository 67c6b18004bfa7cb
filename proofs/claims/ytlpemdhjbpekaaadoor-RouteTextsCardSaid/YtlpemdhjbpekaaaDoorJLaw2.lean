/-
  The law RouteModes: it answers true for every input; nothing that existed before the call has changed behind it. Condition: the tables as their initialisers lay them; lengths of 63 bits.
-/
import Derived.Test.YtlpemdhjbpekaaaDoorJLaw
namespace Go.Proofs.YtlpemdhjbpekaaaDoor
open Go.RowKit

/-- An int of a list. -/
theorem int_of_lst {w : World} {A : Option Addr} {n c : Nat} {l : List Int} (h : LstI w (.slice A n c) l) {i : Nat} {x : Int} (hs : l[i]? = some x) : ∃ b o, A = some ⟨b, o, none⟩ ∧ w.cell? ⟨b, o + i, none⟩ = some (.int .i64 x) := by
  obtain ⟨A', c', hv, _, _, hx⟩ := h
  cases hv
  have hi := (List.getElem?_eq_some_iff.1 hs).1
  obtain ⟨b, o, rfl, hb, hcell⟩ := hx (by omega)
  exact ⟨b, o, rfl, hcell i _ (ints_at l i x hs)⟩
theorem modes_low (l : List Rt) : decide (diffB (modR l) (belN 8) = 0) = true := by
  rw [bel_in (modR_lt l)]
  exact decide_eq_true (modR_lt l)
theorem lens_sum {n : Nat} (h1 : 1 ≤ n) (h2 : n ≤ 254) (l : List Rt) : (withR (n : Int) l).length + (withR (255 - (n : Int)) l).length = (withR 0 l).length := with_sum (by omega) (by omega) l
set_option maxRecDepth 100000 in
set_option maxHeartbeats 8000000 in
theorem modes_law (v : Value) (l : List Rt) (hl : l.length ≤ 9223372036854775807) (_ : OkR l) (n : Int) (w : World) (hg : GoodR w) (h : LstR w v l) : Calls Tryd.prog 7 #[v, .int .i64 n] w fun e w' => e = .returned (.bool true) ∧ Below w.heap.size w w' := by
  have H := Lib.hid h
  have HG := Lib.hid hg
  obtain ⟨A, c, rfl, -, -, -⟩ := h
  clear hg
  by_cases hbad : 100 < l.length ∨ n < 1 ∨ 254 < n
  · have hways : (100 < l.length) ∨ (¬ 100 < l.length ∧ n < 1) ∨ (¬ 100 < l.length ∧ ¬ n < 1 ∧ 254 < n) := by omega
    rcases hways with h1 | ⟨h1, h2⟩ | ⟨h1, h2, h3⟩
    · have g : (100 : Int) < (l.length : Int) := by omega
      clear h1 hbad
      go_enter Tryd.func7, Tryd.ntmps7
      go_wp2_with fail
      refine (ex_any w HG.out).mono ?_
      rintro e w2 ⟨rfl, b2⟩
      have B2 := Lib.hid b2
      clear b2
      go_wp2_with fail
      go_ret
      exact ⟨rfl, B2.out⟩
    · have g : decide ((100 : Int) < (l.length : Int)) = false := by rw [decide_eq_false_iff_not]; omega
      clear h1 hbad
      go_enter Tryd.func7, Tryd.ntmps7
      go_wp2_with fail
      refine (ex_any w HG.out).mono ?_
      rintro e w2 ⟨rfl, b2⟩
      have B2 := Lib.hid b2
      clear b2
      go_wp2_with fail
      go_ret
      exact ⟨rfl, B2.out⟩
    · have g : decide ((100 : Int) < (l.length : Int)) = false := by rw [decide_eq_false_iff_not]; omega
      have d : decide (n < 1) = false := decide_eq_false h2
      clear h1 h2 hbad
      go_enter Tryd.func7, Tryd.ntmps7
      go_wp2_with fail
      refine (ex_any w HG.out).mono ?_
      rintro e w2 ⟨rfl, b2⟩
      have B2 := Lib.hid b2
      clear b2
      go_wp2_with fail
      go_ret
      exact ⟨rfl, B2.out⟩
  obtain ⟨m, rfl⟩ := Int.eq_ofNat_of_zero_le (show 0 ≤ n by omega)
  have hm1 : 1 ≤ m := by omega
  have hm2 : m ≤ 254 := by omega
  have hlen : l.length ≤ 100 := by omega
  have g : decide ((100 : Int) < (l.length : Int)) = false := by rw [decide_eq_false_iff_not]; omega
  have d1 : decide ((m : Int) < 1) = false := by rw [decide_eq_false_iff_not]; omega
  have d2 : decide (254 < (m : Int)) = false := by rw [decide_eq_false_iff_not]; omega
  have K := Lib.hid (fun W hW => kfmt_any (m : Int) (by omega) (by omega) W hW)
  rw [fmtR_in (by omega)] at K
  obtain ⟨z, hz⟩ : ∃ z, str (textR m) = z := ⟨_, rfl⟩
  have P := Lib.hid (fun W hW => kprs_any (textR m) z hz (by have := textR_le m; omega) W hW)
  rw [prsR_text m (by omega), ansR_good] at P
  simp only [hz] at K P
  have t1 : ((m : Int) != (m : Int)) = false := neq_false rfl
  clear hbad hz
  go_enter Tryd.func7, Tryd.ntmps7
  go_wp2_with fail
  refine (K.out _ HG.out).mono ?_
  rintro e w1 ⟨rfl, b1⟩
  have B1 := Lib.hid b1
  have H1 := Lib.hid (H.out.below b1)
  have G1 := Lib.hid (HG.out.below b1)
  clear b1 HG g d1 d2 K H
  go_wp2_with fail
  refine (P.out _ G1.out).mono ?_
  rintro e w' ⟨rfl, rfl⟩
  clear P
  go_wp2_with fail
  clear t1
  go_loop [9] (fun i => ∃ k : Nat, i = .int .i64 k ∧ k ≤ 8) (fun i => 8 - (intOf i).toNat)
  case atStart => exact ⟨0, rfl, Nat.zero_le _⟩
  case round =>
    obtain ⟨k, rfl, hk⟩ := hrel
    by_cases hlt : k < 8
    · have gk : (k : Int) < 8 := by omega
      obtain ⟨y, hy⟩ : ∃ y, str (nmR k) = y := ⟨_, rfl⟩
      have N := Lib.hid (fun W hW => name_any k hlt W hW)
      have R := Lib.hid (fun W hW => parse_any (nmR k) y hy W hW)
      rw [modeR_nm k hlt, show max (k : Int) 0 = (k : Int) by omega, decide_eq_true (show (0 : Int) ≤ (k : Int) by omega)] at R
      rw [hy] at N
      have t1 : ((k : Int) != (k : Int)) = false := neq_false rfl
      clear hy
      go_wp2_with fail
      refine (N.out _ G1.out).mono ?_
      rintro e w' ⟨rfl, rfl⟩
      go_wp2_with fail
      refine (R.out _ G1.out).mono ?_
      rintro e w' ⟨rfl, rfl⟩
      go_wp2_with fail
      go_round
      case rel => exact ⟨k + 1, by go_num, by omega⟩
      case measure => simp [intOf]; omega
    · obtain rfl : k = 8 := by omega
      have d : decide (((8 : Nat) : Int) < 8) = false := rfl
      have gn1 : (1 : Int) ≤ (m : Int) := by omega
      have gn2 : (m : Int) ≤ 254 := by omega
      clear hlt hk
      go_wp2_with fail
      refine (kwith_any _ l (by omega) (m : Int) w1 H1.out).mono ?_
      rintro e w2 ⟨u2, rfl, o2, b2⟩
      have B2 := Lib.hid (B1.out.trans (b2.mono B1.out.size))
      have H2 := Lib.hid (H1.out.below b2)
      have G2 := Lib.hid (G1.out.below b2)
      have I2 : Hid (LstI w2 u2 (withR (m : Int) l)) := OwnI.lst o2
      clear b2 B1 H1 G1 o2 d
      go_wp2_with fail
      refine (kwith_any _ l (by omega) (255 - (m : Int)) w2 H2.out).mono ?_
      rintro e w3 ⟨u3, rfl, o3, b3⟩
      have B3 := Lib.hid (B2.out.trans (b3.mono B2.out.size))
      have H3 := Lib.hid (H2.out.below b3)
      have G3 := Lib.hid (G2.out.below b3)
      have I3 := Lib.hid (I2.out.below b3)
      have J3 : Hid (LstI w3 u3 (withR (255 - (m : Int)) l)) := OwnI.lst o3
      clear b3 B2 H2 G2 I2 o3
      go_wp2_with fail
      refine (kwith_any _ l (by omega) 0 w3 H3.out).mono ?_
      rintro e w4 ⟨u4, rfl, o4, b4⟩
      have B4 := Lib.hid (B3.out.trans (b4.mono B3.out.size))
      have H4 := Lib.hid (H3.out.below b4)
      have G4 := Lib.hid (G3.out.below b4)
      have I4 := Lib.hid (I3.out.below b4)
      have J4 := Lib.hid (J3.out.below b4)
      have A4 : Hid (LstI w4 u4 (withR 0 l)) := OwnI.lst o4
      clear b4 B3 H3 G3 I3 J3 o4
      have hsum := lens_sum hm1 hm2 l
      have PW := Lib.hid (with_part (m : Int) l)
      have PF := Lib.hid (with_flip (n := (m : Int)) (by omega) (by omega) l)
      have hal := with_le 0 l
      generalize atR (m : Int) l = f at PW PF
      generalize withR (m : Int) l = X at I4 hsum PW
      generalize withR (255 - (m : Int)) l = Y at J4 hsum PF
      generalize withR 0 l = Z at A4 hsum PW PF hal
      obtain ⟨XA, xc, rfl, -, -, -⟩ := I4.out
      obtain ⟨YA, yc, rfl, -, -, -⟩ := J4.out
      obtain ⟨ZA, zc, rfl, -, -, -⟩ := A4.out
      have tl : ((X.length : Int) + (Y.length : Int) != (Z.length : Int)) = false := neq_false (by omega)
      go_wp2_with fail
      clear tl
      go_loopw [17, 18, 19] (fun i k a wr => ∃ a' : Nat, i = .int .i64 ((numF f Z a' : Nat) : Int) ∧ k = .int .i64 ((numF (fun x => !f x) Z a' : Nat) : Int) ∧ a = .int .i64 a' ∧ a' ≤ Z.length ∧ Hid (∃ n, wr = w4.drewN n)) (fun _ _ a _ => Z.length - (intOf a).toNat)
      case atStart => exact ⟨0, rfl, rfl, rfl, Nat.zero_le _, Lib.hid ⟨0, rfl⟩⟩
      case round =>
        obtain ⟨a, rfl, rfl, rfl, ha, hn⟩ := hrel
        by_cases hlt : a < Z.length
        · obtain ⟨x, hx⟩ := at_lt hlt
          have ga : (a : Int) < (Z.length : Int) := by omega
          obtain ⟨bz, oz, ez, cz⟩ := int_of_lst (A4.out.below (drew_below hn.out)) hx
          cases ez
          have te := beq_true (a := x) rfl
          have hb1 := num_le f Z a
          have hb2 := num_le (fun x => !f x) Z a
          rw [← PW.out] at hb1
          rw [← PF.out] at hb2
          cases hf : f x with
          | true =>
            have hi : X[numF f Z a]? = some x := by rw [PW.out]; exact num_at hx hf
            have N1 := Lib.hid (num_yes hx hf)
            have N2 := Lib.hid (num_no (f := fun x => !f x) hx (by rw [hf]; rfl))
            have gi := (List.getElem?_eq_some_iff.1 hi).1
            obtain ⟨bx, ox, ex, cx⟩ := int_of_lst (I4.out.below (drew_below hn.out)) hi
            cases ex
            generalize numF f Z a = i0 at hi N1 gi cx hb1 ⊢
            generalize numF (fun x => !f x) Z a = k0 at N2 hb2 ⊢
            have gi2 : (i0 : Int) < (X.length : Int) := by omega
            clear hx hf hi hb2
            go_wp2_with fail
            go_quiet (fail)
            go_wp2_with fail
            go_roundw
            case rel => exact ⟨a + 1, by rw [N1.out]; go_num, by rw [N2.out], by go_num, by omega, drew_on hn nq⟩
            case measure => simp [intOf]; omega
          | false =>
            have hk : Y[numF (fun x => !f x) Z a]? = some x := by rw [PF.out]; exact num_at (f := fun x => !f x) hx (by rw [hf]; rfl)
            have N1 := Lib.hid (num_no hx hf)
            have N2 := Lib.hid (num_yes (f := fun x => !f x) hx (by rw [hf]; rfl))
            have gk := (List.getElem?_eq_some_iff.1 hk).1
            by_cases hlx : numF f Z a < X.length
            · obtain ⟨y, hy⟩ := at_lt hlx
              have hyx : y ≠ x := num_ne (f := f) (l := Z) (j := numF f Z a) (by rw [← PW.out]; exact hy) hf
              have tn := beq_false hyx
              obtain ⟨bx, ox, ex, cx⟩ := int_of_lst (I4.out.below (drew_below hn.out)) hy
              cases ex
              generalize numF f Z a = i0 at hy N1 hlx cx hb1 ⊢
              generalize hk0 : numF (fun x => !f x) Z a = k0 at hk N2 gk hb2 ⊢
              have gi2 : (i0 : Int) < (X.length : Int) := by omega
              have gk2 : (k0 : Int) < (Y.length : Int) := by omega
              have HX := Lib.hid hx
              have HK := Lib.hid hk
              clear hx hf hy hyx hk0 hk
              go_wp2_with fail
              go_quiet (fail)
              have hn2 := drew_on hn nq
              obtain ⟨w5, hw5⟩ : ∃ x, wr.drewN nq = x := ⟨_, rfl⟩
              rw [hw5] at hn2 ⊢
              obtain ⟨bz2, oz2, ez2, cz2⟩ := int_of_lst (A4.out.below (drew_below hn2.out)) HX.out
              cases ez2
              obtain ⟨by2, oy2, ey2, cy2⟩ := int_of_lst (J4.out.below (drew_below hn2.out)) HK.out
              cases ey2
              clear hw5 cz cx tn HX HK gi2 hlx
              go_wp2_with fail
              go_quiet (fail)
              go_wp2_with fail
              go_roundw
              case rel => exact ⟨a + 1, by rw [N1.out], by rw [N2.out]; go_num, by go_num, by omega, drew_on hn2 nq⟩
              case measure => simp [intOf]; omega
            · generalize numF f Z a = i0 at N1 hlx hb1 ⊢
              generalize hk0 : numF (fun x => !f x) Z a = k0 at hk N2 gk hb2 ⊢
              have gi2 : decide ((i0 : Int) < (X.length : Int)) = false := by rw [decide_eq_false_iff_not]; omega
              have gk2 : (k0 : Int) < (Y.length : Int) := by omega
              have HX := Lib.hid hx
              have HK := Lib.hid hk
              clear hx hf hk0 hk
              go_wp2_with fail
              go_quiet (fail)
              have hn2 := drew_on hn nq
              obtain ⟨w5, hw5⟩ : ∃ x, wr.drewN nq = x := ⟨_, rfl⟩
              rw [hw5] at hn2 ⊢
              obtain ⟨bz2, oz2, ez2, cz2⟩ := int_of_lst (A4.out.below (drew_below hn2.out)) HX.out
              cases ez2
              obtain ⟨by2, oy2, ey2, cy2⟩ := int_of_lst (J4.out.below (drew_below hn2.out)) HK.out
              cases ey2
              clear hw5 cz HX HK gi2 hlx
              go_wp2_with fail
              go_quiet (fail)
              go_wp2_with fail
              go_roundw
              case rel => exact ⟨a + 1, by rw [N1.out], by rw [N2.out]; go_num, by go_num, by omega, drew_on hn2 nq⟩
              case measure => simp [intOf]; omega
        · have d : decide (a < Z.length) = false := by rw [decide_eq_false_iff_not]; exact hlt
          have b5 := drew_below hn.out
          have B5 := Lib.hid (B4.out.trans (b5.mono B4.out.size))
          have H5 := Lib.hid (H4.out.below b5)
          have G5 := Lib.hid (G4.out.below b5)
          have MD := Lib.hid (kmodes_any _ l (by omega) wr H5.out)
          have RG : Hid (∀ W, Calls Tryd.prog 27 #[.int .i64 0, .int .i64 8] W fun e w' => e = .returned (.int .u64 ((belN 8 : Nat) : Int)) ∧ W = w') := fun W => range_any 0 8 W
          have WI := Lib.hid (fun W => within_any (modR l) (belN 8) (by have := modR_lt l; unfold W64; omega) (bel_lt 8) W)
          rw [modes_low] at WI
          generalize ((belN 8 : Nat) : Int) = bn at RG WI
          generalize ((modR l : Nat) : Int) = mn at MD WI
          clear hlt b5 B4 H4 G4 I4 J4 A4 PW PF hsum
          go_wp2_with fail
          refine MD.out.mono ?_
          rintro e w6 ⟨rfl, b6⟩
          have B6 := Lib.hid (B5.out.trans (b6.mono B5.out.size))
          have G6 := Lib.hid (G5.out.below b6)
          clear b6 B5 G5 H5 MD hn
          go_wp2_with fail
          refine (RG.out _).mono ?_
          rintro e w' ⟨rfl, rfl⟩
          go_wp2_with fail
          refine (WI.out _).mono ?_
          rintro e w' ⟨rfl, rfl⟩
          clear RG WI
          go_wp2_with fail
          refine (ex_any w6 G6.out).mono ?_
          rintro e w7 ⟨rfl, b7⟩
          have B7 := Lib.hid (B6.out.trans (b7.mono B6.out.size))
          clear b7 B6 G6
          go_wp2_with fail
          go_ret
          exact ⟨rfl, B7.out⟩
end Go.Proofs.YtlpemdhjbpekaaaDoor
