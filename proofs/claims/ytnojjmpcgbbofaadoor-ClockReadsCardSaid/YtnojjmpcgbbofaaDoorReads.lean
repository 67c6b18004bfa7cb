/-
  The law ClockReads answers true for every text; nothing that existed before the call has changed behind it. Condition: none.
-/
import Derived.Test.YtnojjmpcgbbofaaDoorReadB
import Derived.Test.YtnojjmpcgbbofaaDoorLaw
namespace Go.Proofs.YtnojjmpcgbbofaaDoor
open Go.RowKit

theorem idx_run (l : List UInt8) (i : Nat) (c : UInt8) (h : l[i]? = some c) (e : Int) (he : e = i) (W : World) : (Instr.index 9 (.string (str l)) (.int .i64 e)).run Tryd.prog W = .ok (.int .u8 c.toNat) W := by
  subst he
  have hi : i < l.length := (List.getElem?_eq_some_iff.1 h).1
  rw [run_at (str l) i (by rw [size_str]; exact hi) W]
  have : (str l)[i]'(by rw [size_str]; exact hi) = c := (List.getElem?_eq_some_iff.1 h).2
  rw [this]
theorem slh_run (l : List UInt8) (j : Nat) (hj : j ≤ l.length) (m : List UInt8) (hm : l.take j = m) (e : Int) (he : e = j) (W : World) : (Instr.slice 9 (.string (str l)) none (some (.int .i64 e)) none).run Tryd.prog W = .ok (.string (str m)) W := by
  subst he hm
  rw [run_slice_string_h W 9 (str l) Tryd.underlying9 .i64 j (by omega) (by rw [size_str]; omega)]
  congr 2
  rw [Lib.extract_eq]
  simp
theorem sll_run (l : List UInt8) (j : Nat) (hj : j ≤ l.length) (m : List UInt8) (hm : l.drop j = m) (e : Int) (he : e = j) (W : World) : (Instr.slice 9 (.string (str l)) (some (.int .i64 e)) none none).run Tryd.prog W = .ok (.string (str m)) W := by
  subst he hm
  rw [run_slice_string_l W 9 (str l) Tryd.underlying9 .i64 j (by omega) (by rw [size_str]; omega)]
  congr 2
  rw [Lib.extract_eq, size_str]
  simp
  rw [List.take_of_length_le (by simp)]
theorem slb_run (l : List UInt8) (i j : Nat) (hi : i ≤ j) (hj : j ≤ l.length) (m : List UInt8) (hm : (l.drop i).take (j - i) = m) (e f : Int) (he : e = i) (hf : f = j) (W : World) : (Instr.slice 9 (.string (str l)) (some (.int .i64 e)) (some (.int .i64 f)) none).run Tryd.prog W = .ok (.string (str m)) W := by
  subst he hf hm
  rw [run_slice_string W 9 (str l) .i64 .i64 i j Tryd.underlying9 (by omega) (by omega) (by rw [size_str]; omega)]
  congr 2
  rw [Lib.extract_eq]
  simp

theorem beq_true' {a b : Int} (h : a = b) : (a == b) = true := by rw [beq_iff_eq]; exact h
theorem durR_no (r : List UInt8) (c : UInt8) (h : c ≠ 115) : durR (r ++ [c]) = (0, 3) := by
  unfold durR
  rw [if_neg]
  rw [List.isSuffixOf_iff_suffix]
  rintro ⟨t, ht⟩
  have := (tails _ _ _ _ ht rfl).2
  cases this
  exact h rfl
theorem reads_short (l : List UInt8) (h : l.length < 2) : durR l = (0, 3) := by
  match l, h with
  | [], _ => rfl
  | [c], _ =>
    by_cases hc : c = 115
    · subst hc; decide
    · exact durR_no [] c hc

/-- The reference's ParseDuration at a text that ends in an s. -/
theorem reads_s (r : List UInt8) (h1 : 1 ≤ r.length) (hl : (r ++ [115]).length ≤ 4096) (w : World) :
    Calls Tryd.prog 25 #[.string (str (r ++ [115]))] w fun e w' => e = .returned (.tuple #[.int .i64 (restR r).1, .int .i64 (restR r).2]) ∧ Below w.heap.size w w' := by
  have hz : (str (r ++ [115])).size = r.length + 1 := by rw [size_str]; simp
  have hr : r.length + 1 ≤ 4096 := by simpa using hl
  have k1 := idx_run (r ++ [115]) r.length 115 (by simp) ((str (r ++ [115])).size - 1) (by rw [hz]; omega)
  have s1 := slh_run (r ++ [115]) r.length (by simp) r (by simp) ((str (r ++ [115])).size - 1) (by rw [hz]; omega)
  have t1 : (((115 : UInt8).toNat : Int) != 115) = false := rfl
  have i2 : ¬ ((str (r ++ [115])).size : Int) < 2 := by rw [hz]; omega
  by_cases hA : plainD r = true ∧ valM r < 60
  · obtain ⟨hp, hv⟩ := hA
    obtain ⟨hd, hc⟩ := plain_cases r hp
    have cp := plain_any r (by omega)
    rw [hp] at cp
    have e : restR r = ((valM r : Int), 0) := by
      rcases hc with rfl | hc
      · decide
      · obtain ⟨hf, he⟩ := first_of r hc hv
        rw [rest_s r hd (fun hx => by rw [hx] at hc; exact absurd hc (by decide)), if_pos hf, he]
    rw [e]
    exact rp_plain _ _ _ _ k1 s1 cp (rvalue_any r hd) (by omega) (by omega) i2 t1 (by omega) w
  have cv : plainD r = true → ∀ w : World, Calls Tryd.prog 44 #[.string (str r)] w fun e w' => e = .returned (.int .i64 (valM r)) ∧ w = w' := fun hp => rvalue_any r (plain_cases r hp).1
  have cp := plain_any r (by omega)
  by_cases h5 : r.length < 4
  · rw [fail_short r hA h5]
    have i5 : ((str (r ++ [115])).size : Int) < 5 := by rw [hz]; omega
    cases hp : plainD r with
    | false =>
      rw [hp] at cp
      exact rp_n5a _ _ _ k1 s1 cp (by omega) (by omega) i2 t1 i5 w
    | true =>
      rw [hp] at cp
      exact rp_n5b _ _ _ _ k1 s1 cp (cv hp) (by omega) (by omega) i2 t1 (fun hv => hA ⟨hp, by omega⟩) i5 w
  have i5 : ¬ ((str (r ++ [115])).size : Int) < 5 := by rw [hz]; omega
  obtain ⟨R, c, a, b, rfl⟩ := last_three r (by omega)
  have hR : R.length + 3 = (R ++ [c, a, b]).length := by simp
  have el : R ++ [c, a, b] ++ [115] = R ++ [c, a, b, 115] := by simp
  have k4 := idx_run (R ++ [c, a, b] ++ [115]) R.length c (by rw [el]; simp) ((str (R ++ [c, a, b] ++ [115])).size - 4) (by rw [hz]; omega)
  have s3 := slb_run (R ++ [c, a, b] ++ [115]) (R.length + 1) (R.length + 3) (by omega) (by simp) [a, b] (by rw [el, show R ++ [c, a, b, 115] = (R ++ [c]) ++ [a, b, 115] by simp, List.drop_left' (by simp)]; simp) ((str (R ++ [c, a, b] ++ [115])).size - 3) ((str (R ++ [c, a, b] ++ [115])).size - 1) (by rw [hz]; omega) (by rw [hz]; omega)
  have cb := below_any [a, b]
  have g5 : 5 ≤ (str (R ++ [c, a, b] ++ [115])).size := by omega
  have gm : (str (R ++ [c, a, b] ++ [115])).size ≤ 4096 := by omega
  by_cases hc : c = 109
  · subst hc
    have t4 : (((109 : UInt8).toNat : Int) != 109) = false := rfl
    have hdr : digs (R ++ [109, a, b]) = false := no_m R [a, b] 109 (by decide)
    have hpr : plainD (R ++ [109, a, b]) = false := by unfold plainD; rw [hdr]; rfl
    rw [hpr] at cp
    cases hb : laterD [a, b] with
    | false =>
      rw [hb] at cb
      rw [fail_end R 109 a b hA (fun h => by rw [hb] at h; exact absurd h.2 (by decide))]
      exact rp_belowa _ _ _ _ _ k1 s1 k4 s3 cp cb g5 gm i2 i5 t1 t4 w
    | true =>
      rw [hb] at cb
      have dab := ((laterD_iff _).1 hb).2.1
      have vab := ((laterD_iff _).1 hb).2.2
      have mab : valM [a, b] = valN [a, b] := valM_small _ (Nat.le_refl 2)
      have cz := rvalue_any [a, b] dab
      have s4 := slh_run (R ++ [109, a, b] ++ [115]) R.length (by simp) R (by simp) ((str (R ++ [109, a, b] ++ [115])).size - 4) (by rw [hz]; omega)
      have cpr := plain_any R (by omega)
      by_cases hM : plainD R = true ∧ 0 < valM R ∧ valM R < 60
      · obtain ⟨hp, h0, h6⟩ := hM
        obtain ⟨hd, hx⟩ := plain_cases R hp
        have hpos : posD R = true := by
          rcases hx with rfl | hx
          · exact absurd h0 (by decide)
          · exact hx
        obtain ⟨hf, he⟩ := first_of R hpos h6
        have e : restR (R ++ [109, a, b]) = (60 * (valM R : Int) + (valM [a, b] : Int), 0) := by
          have := rest_m R [a, b] hd dab
          rw [this]
          unfold minutesR
          rw [if_pos ⟨hf, hb⟩, he, mab, Int.mul_comm]
        rw [e]
        rw [hp] at cpr
        exact rp_min _ _ _ _ _ _ _ _ k1 s1 k4 s3 s4 cp cb cz cpr (rvalue_any R hd) g5 gm i2 i5 t1 t4 (by omega) (by omega) (by omega) (by omega) w
      have cvr : plainD R = true → ∀ w : World, Calls Tryd.prog 44 #[.string (str R)] w fun e w' => e = .returned (.int .i64 (valM R)) ∧ w = w' := fun hp => rvalue_any R (plain_cases R hp).1
      by_cases h4 : R.length < 4
      · have e : restR (R ++ [109, a, b]) = (0, 3) := fail_hour R a b hM (fun H d e hR hx => by
          have hn : H.length ≠ 0 := fun hz => ((posD_iff H).1 hx.2).1 (List.length_eq_zero_iff.1 hz)
          rw [hR] at h4
          simp at h4
          omega)
        rw [e]
        have i4 : ((str R).size : Int) < 4 := by rw [size_str]; omega
        cases hp : plainD R with
        | false =>
          rw [hp] at cpr
          exact rp_k4a _ _ _ _ _ _ _ k1 s1 k4 s3 s4 cp cb cz cpr g5 gm i2 i5 t1 t4 i4 w
        | true =>
          rw [hp] at cpr
          by_cases h0 : 0 < valM R
          · exact rp_k4c _ _ _ _ _ _ _ _ k1 s1 k4 s3 s4 cp cb cz cpr (cvr hp) g5 gm i2 i5 t1 t4 (by omega) (fun hx => hM ⟨hp, h0, by omega⟩) i4 w
          · exact rp_k4b _ _ _ _ _ _ _ _ k1 s1 k4 s3 s4 cp cb cz cpr (cvr hp) g5 gm i2 i5 t1 t4 (by omega) i4 w
      have i4 : ¬ ((str R).size : Int) < 4 := by rw [size_str]; omega
      have g4 : 4 ≤ (str R).size := by rw [size_str]; omega
      have gr : (str R).size ≤ 4096 := by rw [size_str]; omega
      obtain ⟨H, c3, d, e, rfl⟩ := last_three R (by omega)
      have hzR : (str (H ++ [c3, d, e])).size = H.length + 3 := by rw [size_str]; simp
      have k3 := idx_run (H ++ [c3, d, e]) H.length c3 (by simp) ((str (H ++ [c3, d, e])).size - 3) (by rw [hzR]; omega)
      by_cases h3 : c3 = 104
      · subst h3
        have t3 : (((104 : UInt8).toNat : Int) != 104) = false := rfl
        have hdR : digs (H ++ [104, d, e]) = false := no_m H [d, e] 104 (by decide)
        have hpR : plainD (H ++ [104, d, e]) = false := by unfold plainD; rw [hdR]; rfl
        rw [hpR] at cpr
        have s2 := sll_run (H ++ [104, d, e]) (H.length + 1) (by simp) [d, e] (by rw [show H ++ [104, d, e] = (H ++ [104]) ++ [d, e] by simp, List.drop_left' (by simp)]) ((str (H ++ [104, d, e])).size - 2) (by rw [hzR]; omega)
        have cby := below_any [d, e]
        cases hy : laterD [d, e] with
        | false =>
          rw [hy] at cby
          have e' : restR (H ++ [104, d, e] ++ [109, a, b]) = (0, 3) := fail_hour _ a b hM (fun H' d' e' hR hx => by
            have := (tails _ _ _ _ hR rfl).2
            cases this
            rw [hy] at hx
            exact absurd hx.1 (by decide))
          rw [e']
          exact rp_y _ _ _ _ _ _ _ _ _ k1 s1 k4 s3 s4 k3 s2 cp cb cz cpr cby g5 gm i2 i5 t1 t4 g4 gr i4 t3 w
        | true =>
          rw [hy] at cby
          have dde := ((laterD_iff _).1 hy).2.1
          have vde := ((laterD_iff _).1 hy).2.2
          have mde : valM [d, e] = valN [d, e] := valM_small _ (Nat.le_refl 2)
          have s5 := slh_run (H ++ [104, d, e]) H.length (by simp) H (by simp) ((str (H ++ [104, d, e])).size - 3) (by rw [hzR]; omega)
          have cph := plain_any H (by rw [hzR] at gr; omega)
          cases hp : plainD H with
          | false =>
            rw [hp] at cph
            have e' : restR (H ++ [104, d, e] ++ [109, a, b]) = (0, 3) := fail_hour _ a b hM (fun H' d' e' hR hx => by
              obtain ⟨rfl, _⟩ := tails _ _ _ _ hR rfl
              rw [pos_plain H hx.2] at hp
              cases hp)
            rw [e']
            exact rp_hp _ _ _ _ _ _ _ _ _ _ k1 s1 k4 s3 s4 k3 s2 s5 cp cb cz cpr cby cph g5 gm i2 i5 t1 t4 g4 gr i4 t3 w
          | true =>
            rw [hp] at cph
            obtain ⟨hdH, hxH⟩ := plain_cases H hp
            have cvh := rvalue_any H hdH
            by_cases hv0 : valM H = 0
            · have e' : restR (H ++ [104, d, e] ++ [109, a, b]) = (0, 3) := fail_hour _ a b hM (fun H' d' e' hR hx => by
                obtain ⟨rfl, _⟩ := tails _ _ _ _ hR rfl
                have := valM_one H hx.2
                omega)
              rw [e']
              exact rp_hz _ _ _ _ _ _ _ _ _ _ _ k1 s1 k4 s3 s4 k3 s2 s5 cp cb cz cpr cby cph cvh g5 gm i2 i5 t1 t4 g4 gr i4 t3 (beq_true' (by omega)) w
            · have hpos : posD H = true := by
                rcases hxH with rfl | hx
                · exact absurd rfl hv0
                · exact hx
              have cx : ∀ x : ByteArray, x = str H ∨ x = str [d, e] → ∀ w : World, Calls Tryd.prog 44 #[.string x] w fun e w' => e = .returned (.int .i64 ((fun x : ByteArray => (valM x.data.toList : Int)) x)) ∧ w = w' := by
                rintro x (rfl | rfl)
                · exact cvh
                · exact rvalue_any [d, e] dde
              have hle := valM_le H hdH
              have er : restR (H ++ [104, d, e] ++ [109, a, b]) = if 2 < H.length then (0, 2) else ((valN H : Int) * 3600 + (valN [d, e] : Int) * 60 + (valN [a, b] : Int), 0) := by
                have := rest_h H [d, e] [a, b] hdH dde
                rw [if_pos ⟨hy, hb, hpos⟩] at this
                rw [← this]
                simp
              rw [er]
              by_cases h2 : 2 < H.length
              · rw [if_pos h2]
                have hbig := valM_three H hpos h2
                exact rp_big _ _ _ _ _ _ _ _ _ _ (fun x : ByteArray => (valM x.data.toList : Int)) k1 s1 k4 s3 s4 k3 s2 s5 cp cb cz cpr cby cph cx g5 gm i2 i5 t1 t4 g4 gr i4 t3 (by omega) (by omega)
                  (beq_false (by show (valM H : Int) ≠ 0; omega)) (by show (0 : Int) ≤ (valM H : Int); omega) (by show (valM H : Int) ≤ 1000000; omega) (by show (0 : Int) ≤ (valM [d, e] : Int); omega) (by show (valM [d, e] : Int) < 60; omega) (by show 359999 < 3600 * (valM H : Int) + 60 * (valM [d, e] : Int) + (valM [a, b] : Int); omega) w
              · rw [if_neg h2]
                have hms := valM_small H (by omega)
                have hn99 := valN_two H hdH (by omega)
                have key := rp_ok _ _ _ _ _ _ _ _ _ _ (fun x : ByteArray => (valM x.data.toList : Int)) k1 s1 k4 s3 s4 k3 s2 s5 cp cb cz cpr cby cph cx g5 gm i2 i5 t1 t4 g4 gr i4 t3 (by omega) (by omega)
                  (beq_false (by show (valM H : Int) ≠ 0; omega)) (by show (0 : Int) ≤ (valM H : Int); omega) (by show (valM H : Int) ≤ 1000000; omega) (by show (0 : Int) ≤ (valM [d, e] : Int); omega) (by show (valM [d, e] : Int) < 60; omega) (by show ¬ 359999 < 3600 * (valM H : Int) + 60 * (valM [d, e] : Int) + (valM [a, b] : Int); omega) w
                refine key.mono fun e' w' ⟨he, hb'⟩ => ⟨?_, hb'⟩
                rw [he]
                exact ret_two (by show 3600 * (valM H : Int) + 60 * (valM [d, e] : Int) + (valM [a, b] : Int) = _; simp only; omega) rfl
      · have t3 : ((c3.toNat : Int) != 104) = true := bne_true (fun hx => h3 (UInt8.toNat_inj.1 (by have h104 : (104 : UInt8).toNat = 104 := rfl; omega)))
        have e' : restR (H ++ [c3, d, e] ++ [109, a, b]) = (0, 3) := fail_hour _ a b hM (fun H' d' e' hR _ => by
          have := (tails _ _ _ _ hR rfl).2
          cases this
          exact h3 rfl)
        rw [e']
        cases hp : plainD (H ++ [c3, d, e]) with
        | false =>
          rw [hp] at cpr
          exact rp_ha _ _ _ _ _ _ _ _ k1 s1 k4 s3 s4 k3 cp cb cz cpr g5 gm i2 i5 t1 t4 g4 gr i4 t3 w
        | true =>
          rw [hp] at cpr
          by_cases h0 : 0 < valM (H ++ [c3, d, e])
          · exact rp_hc _ _ _ _ _ _ _ _ _ k1 s1 k4 s3 s4 k3 cp cb cz cpr (cvr hp) g5 gm i2 i5 t1 t4 (by omega) (fun hx => hM ⟨hp, h0, by omega⟩) g4 gr i4 t3 w
          · exact rp_hb _ _ _ _ _ _ _ _ _ k1 s1 k4 s3 s4 k3 cp cb cz cpr (cvr hp) g5 gm i2 i5 t1 t4 (by omega) g4 gr i4 t3 w
  · have t4 : ((c.toNat : Int) != 109) = true := bne_true (fun hx => hc (UInt8.toNat_inj.1 (by have h109 : (109 : UInt8).toNat = 109 := rfl; omega)))
    rw [fail_end R c a b hA (fun h => hc h.1)]
    cases hp : plainD (R ++ [c, a, b]) with
    | false =>
      rw [hp] at cp
      exact rp_ma _ _ _ _ k1 s1 k4 cp g5 gm i2 i5 t1 t4 w
    | true =>
      rw [hp] at cp
      exact rp_mb _ _ _ _ _ k1 s1 k4 cp (cv hp) g5 gm i2 i5 t1 (fun hv => hA ⟨hp, by omega⟩) t4 w

theorem rparseDur_any (l : List UInt8) (hl : l.length ≤ 4096) (w : World) :
    Calls Tryd.prog 25 #[.string (str l)] w fun e w' => e = .returned (.tuple #[.int .i64 (durR l).1, .int .i64 (durR l).2]) ∧ Below w.heap.size w w' := by
  by_cases h2 : l.length < 2
  · rw [reads_short l h2]
    exact rp_short _ (by rw [size_str]; exact h2) w
  · obtain ⟨r, c, rfl⟩ : ∃ r c, l = r ++ [c] := ⟨l.dropLast, l.getLast (fun hx => by rw [hx] at h2; simp at h2), (List.dropLast_concat_getLast _).symm⟩
    have hlen : r.length + 1 = (r ++ [c]).length := by simp
    by_cases hc : c = 115
    · subst hc
      rw [suf]
      exact reads_s r (by omega) hl w
    · rw [durR_no r c hc]
      have hz : (str (r ++ [c])).size = r.length + 1 := by rw [size_str]; simp
      exact rp_end _ _ (idx_run (r ++ [c]) r.length c (by simp) ((str (r ++ [c])).size - 1) (by rw [hz]; omega)) (by omega) (by omega) (by rw [hz]; omega) (bne_true (fun hx => hc (UInt8.toNat_inj.1 (by have h115 : (115 : UInt8).toNat = 115 := rfl; omega)))) w

theorem reads_long (s : ByteArray) (h : 4096 < s.size) (w : World) :
    Calls Tryd.prog 10 #[.string s] w fun e w' => e = .returned (.bool true) ∧ Below w.heap.size w w' := by
  have i : (4096 : Int) < (s.size : Int) := by omega
  go_enter Tryd.func10, Tryd.ntmps10
  go_wp2_with (go_at_call 15; refine (example_holds _).mono ?_; rintro e w1 ⟨rfl, b1⟩)
  go_ret
  exact ⟨rfl, b1⟩
theorem reads_law (s : ByteArray) (w : World) :
    Calls Tryd.prog 10 #[.string s] w fun e w' => e = .returned (.bool true) ∧ Below w.heap.size w w' := by
  by_cases h : 4096 < s.size
  · exact reads_long s h w
  have i : ¬ (4096 : Int) < (s.size : Int) := by omega
  have hz : s.data.toList.length = s.size := rfl
  have c1 := parseDur_any s.data.toList (by omega)
  have c2 := rparseDur_any s.data.toList (by omega)
  rw [show str s.data.toList = s from Lib.mk_data s] at c1 c2
  generalize (durR s.data.toList).1 = a at c1 c2
  generalize (durR s.data.toList).2 = b at c1 c2
  have C1 := Lib.hid c1
  have C2 := Lib.hid c2
  clear c1 c2 hz
  go_enter Tryd.func10, Tryd.ntmps10
  go_wp2_with fail
  refine (C1.out _).mono ?_
  rintro e w1 ⟨rfl, b1⟩
  go_wp2_with fail
  refine (rel (W := w) (C2.out _) (by assumption)).mono ?_
  rintro e w2 ⟨rfl, b2⟩
  go_wp2_with fail
  refine (rel (W := w) (example_holds _) (by assumption)).mono ?_
  rintro e w3 ⟨rfl, b3⟩
  go_wp2_with fail
  go_ret
  exact ⟨rfl, b3⟩
end Go.Proofs.YtnojjmpcgbbofaaDoor
