/-
  The reference's Reason and Active: what each call answers; it leaves the world as it was. Condition: none beyond lengths of 63 bits.
-/
import Derived.Test.YtlbockpaeacigaaYRsn
namespace Go.Proofs.Ytlbockpaeacigaa
open Go.RowKit

set_option maxRecDepth 100000 in
set_option maxHeartbeats 4000000 in
theorem rreason_any (lv xv : Value) (l : List Cl) (x : List Ex) (hx : x.length ≤ 9223372036854775807) (i d : Int) (w : World) (h1 : LstC w lv l) (h2 : LstX w xv x) : Calls Try.prog 19 #[lv, xv, .int .i64 i, .int .i64 d] w fun e w' => e = .returned (.int .i64 (rsnT l x i d)) ∧ w = w' := by
  have HC := Lib.hid h1
  have HX := Lib.hid h2
  obtain ⟨A, c, rfl, -, -, -⟩ := h1
  by_cases g1 : i < 0
  · have R := Lib.hid (rsn_no (l := l) (x := x) (d := d) (.inl g1))
    generalize rsnT l x i d = q at R ⊢
    clear h2
    go_enter Try.func19, Try.ntmps19
    go_wp2_with fail
    go_ret
    exact ⟨ret_int R.out.symm, rfl⟩
  obtain ⟨n, rfl⟩ : ∃ n : Nat, i = n := ⟨i.toNat, by omega⟩
  clear g1
  by_cases g2 : l.length ≤ n
  · have R := Lib.hid (rsn_no (l := l) (x := x) (i := (n : Int)) (d := d) (.inr (.inl (by omega))))
    generalize rsnT l x n d = q at R ⊢
    have gk : (l.length : Int) ≤ (n : Int) := by omega
    clear h2
    go_enter Try.func19, Try.ntmps19
    go_wp2_with fail
    go_ret
    exact ⟨ret_int R.out.symm, rfl⟩
  have d2 : decide (l.length ≤ n) = false := decide_eq_false g2
  have gk : (n : Int) < (l.length : Int) := by omega
  have V := Lib.hid (fun W => rdvalid_any d W)
  by_cases hd : dayP d
  case neg =>
    have R := Lib.hid (rsn_no (l := l) (x := x) (i := (n : Int)) (d := d) (.inr (.inr hd)))
    generalize rsnT l x n d = q at R ⊢
    rw [decide_eq_false hd] at V
    clear hd g2 h2
    go_enter Try.func19, Try.ntmps19
    go_wp2_with fail
    refine (V.out _).mono ?_
    rintro e w' ⟨rfl, rfl⟩
    go_wp2_with fail
    go_ret
    exact ⟨ret_int R.out.symm, rfl⟩
  case pos =>
    rw [decide_eq_true hd] at V
    obtain ⟨⟨id, k, f, t⟩, hc⟩ := at_lt (show n < l.length by omega)
    have RS := Lib.hid (rsn_at (x := x) hc hd)
    have ST := Lib.hid (addF_start n d x)
    obtain ⟨m, hm, hm7⟩ := week_num d
    have WD := Lib.hid (fun W => rweekday_any d hd W)
    rw [hm] at WD
    have WO := Lib.hid (fun h => why_out (c := (id, k, f, t)) (d := d) h)
    have WP := Lib.hid (fun h h' => why_pat (c := (id, k, f, t)) (d := d) h h')
    have WN := Lib.hid (fun h h' => why_off (c := (id, k, f, t)) (d := d) h h')
    simp only [hm, Int.toNat_natCast] at WO WP WN
    obtain ⟨b, o, rfl, hbl, m0, mk, m8, m9⟩ := ten_at HC.out hc rfl
    have mm := mk m hm7
    have ix := fun W => wix_run b (o + n * 10 + 1) m hm7 W
    generalize addF n d x = q at RS ST
    generalize rsnT l x n d = r at RS ⊢
    clear hc hd g2 mk m0 hm
    obtain ⟨B, cx, rfl, -, -, -⟩ := h2
    go_enter Try.func19, Try.ntmps19
    go_wp2_with fail
    refine (V.out _).mono ?_
    rintro e w' ⟨rfl, rfl⟩
    go_wp2_with fail
    go_loop [9] (fun i' => ∃ j : Nat, i' = .int .i64 j ∧ j ≤ x.length ∧ Hid (q = addF n d (x.drop j))) (fun i' => x.length - (intOf i').toNat)
    case atStart => exact ⟨0, rfl, Nat.zero_le _, ST⟩
    case round =>
      clear ST
      obtain ⟨j, rfl, hj, hz⟩ := hrel
      by_cases hlt : j < x.length
      · obtain ⟨⟨ki, di, fi⟩, hxj⟩ := at_lt hlt
        obtain ⟨b2, o2, rfl, hbl2, n0, n1, n2⟩ := three_at HX.out hxj
        have gj : (j : Int) < (x.length : Int) := by omega
        by_cases e1 : ki = n
        · have q1 := beq_true e1
          by_cases e2 : di = d
          · have q2 := beq_true e2
            have F : Hid (q = some fi) := addF_hit hz.out hxj e1 e2
            cases fi with
            | true =>
              have R : Hid (r = 2) := RS.out.trans (by rw [F.out]; rfl)
              clear hz hxj hj hlt e1 e2 RS F WO WP WN mm m8 m9 ix
              go_wp2_with fail
              go_ret
              exact ⟨ret_int R.out.symm, rfl⟩
            | false =>
              have R : Hid (r = 3) := RS.out.trans (by rw [F.out]; rfl)
              clear hz hxj hj hlt e1 e2 RS F WO WP WN mm m8 m9 ix
              go_wp2_with fail
              go_ret
              exact ⟨ret_int R.out.symm, rfl⟩
          · have q2 := beq_false e2
            have N : Hid (q = addF n d (x.drop (j + 1))) := addF_miss hz.out hxj fun h => e2 h.2
            clear hz hxj e1 e2 mm m8 m9 ix
            go_wp2_with fail
            go_round
            case rel => exact ⟨j + 1, by go_num, by omega, N⟩
            case measure => simp [intOf]; omega
        · have q1 := beq_false e1
          have N : Hid (q = addF n d (x.drop (j + 1))) := addF_miss hz.out hxj fun h => e1 h.1
          clear hz hxj e1 mm m8 m9 ix
          go_wp2_with fail
          go_round
          case rel => exact ⟨j + 1, by go_num, by omega, N⟩
          case measure => simp [intOf]; omega
      · have F : Hid (q = none) := addF_done hz.out (by omega)
        have dj : decide (j < x.length) = false := by rw [decide_eq_false_iff_not]; exact hlt
        have RS2 : Hid (r = whyC (id, k, f, t) none d) := RS.out.trans (by rw [F.out])
        clear hz hlt RS F
        by_cases o1 : d < f
        · have R := Lib.hid (RS2.out.trans (WO.out (.inl o1)))
          clear WO WP WN mm m9 ix RS2
          go_wp2_with fail
          go_ret
          exact ⟨ret_int R.out.symm, rfl⟩
        have d3 : decide (d < f) = false := decide_eq_false o1
        by_cases o2 : t < d
        · have R := Lib.hid (RS2.out.trans (WO.out (.inr o2)))
          clear WO WP WN mm ix RS2 o1
          go_wp2_with fail
          go_ret
          exact ⟨ret_int R.out.symm, rfl⟩
        have d4 : decide (t < d) = false := decide_eq_false o2
        have WP2 := Lib.hid (fun h => RS2.out.trans (WP.out (by omega) h))
        have WN2 := Lib.hid (fun h => RS2.out.trans (WN.out (by omega) h))
        generalize k m = y at mm WP2 WN2
        clear WO WP WN RS2 o1 o2
        cases y with
        | true =>
          have R := Lib.hid (WP2.out rfl)
          clear WP2 WN2
          go_wp2_with fail
          refine (WD.out _).mono ?_
          rintro e w' ⟨rfl, rfl⟩
          go_wp2_with fail
          go_ret
          exact ⟨ret_int R.out.symm, rfl⟩
        | false =>
          have R := Lib.hid (WN2.out rfl)
          clear WP2 WN2
          go_wp2_with fail
          refine (WD.out _).mono ?_
          rintro e w' ⟨rfl, rfl⟩
          go_wp2_with fail
          go_ret
          exact ⟨ret_int R.out.symm, rfl⟩
set_option maxRecDepth 100000 in
theorem ractive_any (lv xv : Value) (l : List Cl) (x : List Ex) (hx : x.length ≤ 9223372036854775807) (i d : Int) (w : World) (h1 : LstC w lv l) (h2 : LstX w xv x) : Calls Try.prog 21 #[lv, xv, .int .i64 i, .int .i64 d] w fun e w' => e = .returned (.bool (actT l x i d)) ∧ w = w' := by
  have R := Lib.hid (rreason_any lv xv l x hx i d w h1 h2)
  unfold actT
  generalize rsnT l x i d = r at R ⊢
  clear hx h1 h2
  by_cases e1 : r = 1
  · subst e1
    go_enter Try.func21, Try.ntmps21
    go_wp2_with fail
    refine R.out.mono ?_
    rintro e w1 ⟨rfl, rfl⟩
    go_wp2_with fail
    go_ret
    exact ⟨ret_bool rfl, rfl⟩
  by_cases e2 : r = 2
  · subst e2
    go_enter Try.func21, Try.ntmps21
    go_wp2_with fail
    refine R.out.mono ?_
    rintro e w1 ⟨rfl, rfl⟩
    go_wp2_with fail
    go_ret
    exact ⟨ret_bool rfl, rfl⟩
  have N := Lib.hid (act_no e1 e2)
  have q1 := beq_false e1
  have q2 := beq_false e2
  generalize decide (r = 1 ∨ r = 2) = y at N ⊢
  clear e1 e2
  go_enter Try.func21, Try.ntmps21
  go_wp2_with fail
  refine R.out.mono ?_
  rintro e w1 ⟨rfl, rfl⟩
  go_wp2_with fail
  go_ret
  exact ⟨ret_bool N.out.symm, rfl⟩
end Go.Proofs.Ytlbockpaeacigaa
