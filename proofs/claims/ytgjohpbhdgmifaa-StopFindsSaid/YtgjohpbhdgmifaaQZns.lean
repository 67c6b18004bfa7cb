/-
  The law StopZones: it answers true for every input; nothing that existed before the call has changed behind it. Condition: none beyond lengths of 63 bits.
-/
import Derived.Test.YtgjohpbhdgmifaaQLaw2
namespace Go.Proofs.Ytgjohpbhdgmifaa
open Go.RowKit

theorem and_one64 (r : Nat) (h : W64 r) : bits .and .u64 (r : Int) 1 = ((r % 2 : Nat) : Int) := by
  have := bits_and_u64_nat r 1 h (by decide)
  rw [Nat.and_one_is_mod] at this
  exact this
theorem bit_mod1 {p k : Nat} (h : p.testBit k = true) : p / 2 ^ k % 2 = 1 := (bit_div p k).2 h
theorem bit_mod0 {p k : Nat} (h : p.testBit k = false) : p / 2 ^ k % 2 = 0 := by
  have := bit_div p k
  rw [h] at this
  simp at this
  omega
/-- An int of a list. -/
theorem int_of_lst {w : World} {A : Option Addr} {n c : Nat} {l : List Int} (h : LstI w (.slice A n c) l) {i : Nat} {x : Int} (hs : l[i]? = some x) : ∃ b o, A = some ⟨b, o, none⟩ ∧ b < w.heap.size ∧ ∀ j y, l[j]? = some y → w.cell? ⟨b, o + j, none⟩ = some (.int .i64 y) := by
  obtain ⟨A', c', hv, _, _, hx⟩ := h
  cases hv
  have hi := (List.getElem?_eq_some_iff.1 hs).1
  obtain ⟨b, o, rfl, hb, hcell⟩ := hx (by omega)
  exact ⟨b, o, rfl, hb, fun j y hj => hcell j _ (ints_at l j y hj)⟩
set_option maxRecDepth 100000 in
set_option maxHeartbeats 8000000 in
theorem zones_law (v : Value) (l : List St) (hl : l.length ≤ 9223372036854775807) (_ : OkS l) (w : World) (h : LstS w v l) : Calls Try.prog 9 #[v] w fun e w' => e = .returned (.bool true) ∧ Below w.heap.size w w' := by
  have SM := Lib.hid (small_any v l hl w h)
  have H := Lib.hid h
  obtain ⟨A, c, rfl, -, -, -⟩ := h
  cases hb : smallB l with
  | false =>
    rw [hb] at SM
    clear hb hl
    go_enter Try.func9, Try.ntmps9
    go_wp2_with fail
    refine SM.out.mono ?_
    rintro e w1 ⟨rfl, b1⟩
    have B1 := Lib.hid b1
    clear b1 SM
    go_wp2_with fail
    refine (ex_any w1).mono ?_
    rintro e w2 ⟨rfl, b2⟩
    have B2 := Lib.hid (B1.out.trans (b2.mono B1.out.size))
    clear b2 B1
    go_wp2_with fail
    go_ret
    exact ⟨rfl, B2.out⟩
  | true =>
    rw [hb] at SM
    have HS := Lib.hid (small_id hb)
    clear hb
    by_cases h64 : 64 < l.length
    · have g : (64 : Int) < (l.length : Int) := by omega
      clear h64 HS
      go_enter Try.func9, Try.ntmps9
      go_wp2_with fail
      refine SM.out.mono ?_
      rintro e w1 ⟨rfl, b1⟩
      have B1 := Lib.hid b1
      clear b1 SM
      go_wp2_with fail
      refine (ex_any w1).mono ?_
      rintro e w2 ⟨rfl, b2⟩
      have B2 := Lib.hid (B1.out.trans (b2.mono B1.out.size))
      clear b2 B1
      go_wp2_with fail
      go_ret
      exact ⟨rfl, B2.out⟩
    have g : decide ((64 : Int) < (l.length : Int)) = false := by rw [decide_eq_false_iff_not]; omega
    have hl64 : l.length ≤ 64 := by omega
    by_cases hz : (chkT l).2 = 0
    · have nz := neq_false (a := (chkT l).2) (b := 0) hz
      have SUM := Lib.hid (zone_sum hz)
      have low := zone_low hz
      have BIT := Lib.hid (fun z hz => inT_some l z hz)
      have zw := zonT_lt l
      have K := Lib.hid (fun W (hW : LstS W (.slice A l.length c) l) => kcheck_any _ l hl HS.out W hW)
      have Z := Lib.hid (fun W (hW : LstS W (.slice A l.length c) l) => kzones_any _ l (by omega) W hW)
      generalize (chkT l).1 = p at K
      generalize (chkT l).2 = q at K nz
      generalize zonT l = zz at Z low BIT zw
      have ZW := Lib.hid zw
      have LOW := Lib.hid low
      clear hz HS h64 zw low
      go_enter Try.func9, Try.ntmps9
      go_wp2_with fail
      refine SM.out.mono ?_
      rintro e w1 ⟨rfl, b1⟩
      have B1 := Lib.hid b1
      have H1 := Lib.hid (H.out.below b1)
      clear b1 SM H
      go_wp2_with fail
      refine (K.out w1 H1.out).mono ?_
      rintro e w2 ⟨rfl, b2⟩
      have B2 := Lib.hid (B1.out.trans (b2.mono B1.out.size))
      have H2 := Lib.hid (H1.out.below b2)
      clear b2 B1 H1 K
      go_wp2_with fail
      refine (Z.out w2 H2.out).mono ?_
      rintro e w3 ⟨rfl, b3⟩
      have B3 := Lib.hid (B2.out.trans (b3.mono B2.out.size))
      have H3 := Lib.hid (H2.out.below b3)
      clear b3 B2 H2 Z g nz
      go_wp2_with fail
      go_loopw [6, 7] (fun u i wr => ∃ k n : Nat, u = .int .i64 (n : Int) ∧ i = .int .i64 k ∧ k ≤ 16 ∧ Hid (n = sumZ l k) ∧ Hid (Below w3.heap.size w3 wr)) (fun _ i _ => 16 - (intOf i).toNat)
      case atStart => exact ⟨0, 0, rfl, rfl, Nat.zero_le _, Lib.hid rfl, Lib.hid (Below.refl _ _)⟩
      case round =>
        obtain ⟨k, n, rfl, rfl, hk, HN, HB⟩ := hrel
        have hn : n ≤ 1024 := by
          have e := HN.out
          have := sumZ_le l k
          have := Nat.mul_le_mul hk hl64
          omega
        have H4 := Lib.hid (H3.out.below HB.out)
        by_cases hlt : k < 16
        · have gk : (k : Int) < 16 := by omega
          have C := Lib.hid (kin_any _ l (by omega) (k : Int) wr H4.out)
          have hm := inT_le l (k : Int)
          have hbit := BIT.out k (by omega)
          have N : Hid (n + (inT l (k : Int)).length = sumZ l (k + 1)) := by
            show _ = _
            rw [HN.out]
            rfl
          have hr : W64 (zz / 2 ^ k) := Nat.lt_of_le_of_lt (Nat.div_le_self _ _) ZW.out
          have es : ((zz : Int) / 2 ^ k) = ((zz / 2 ^ k : Nat) : Int) := by rw [Int.natCast_ediv, Int.natCast_pow]; rfl
          have ea := and_one64 (zz / 2 ^ k) hr
          have MEM := Lib.hid (fun i (hi : i ∈ inT l (k : Int)) => inT_mem hi)
          have RISE := Lib.hid (fun (a : Nat) i j (h1 : (inT l (k : Int))[a]? = some i) (h2 : (inT l (k : Int))[a + 1]? = some j) => inT_rise h1 h2)
          generalize inT l (k : Int) = m at C hm hbit N MEM RISE
          go_wp2_with fail
          refine C.out.mono ?_
          rintro e w5 ⟨u5, rfl, o5, b5⟩
          have B5 : Hid (Below w3.heap.size w3 w5) := HB.out.trans (b5.mono HB.out.size)
          have H5 := Lib.hid (H4.out.below b5)
          have i5 : LstI w5 u5 m := OwnI.lst o5
          have I5 := Lib.hid i5
          obtain ⟨A5, c5, rfl, -, -, -⟩ := i5
          clear o5 b5 C H4 HB
          have g1 : decide ((l.length : Int) < (m.length : Int)) = false := by rw [decide_eq_false_iff_not]; omega
          have g1' : decide (l.length < m.length) = false := by rw [decide_eq_false_iff_not]; omega
          by_cases h0 : 0 < m.length
          · rw [decide_eq_true h0] at hbit
            rw [bit_mod1 hbit.symm] at ea
            generalize zz / 2 ^ k = r at es ea
            have g2 : (0 : Int) < (m.length : Int) := by omega
            clear hr hbit
            go_wp2_with fail
            clear es ea g1 g1' g2 h0
            go_loop [55] (fun i => ∃ j : Nat, i = .int .i64 j ∧ j ≤ m.length) (fun i => m.length - (intOf i).toNat)
            case atStart => exact ⟨0, rfl, Nat.zero_le _⟩
            case round =>
              obtain ⟨j, rfl, hj⟩ := hrel
              by_cases hjl : j < m.length
              · have gj : (j : Int) < (m.length : Int) := by omega
                obtain ⟨x, hx⟩ := at_lt hjl
                obtain ⟨b2, o2, rfl, hb2, cells⟩ := int_of_lst I5.out hx
                have m1 := cells j x hx
                obtain ⟨i, ⟨id, z, f, ch⟩, hi, hzk, rfl⟩ := MEM.out x (List.mem_iff_getElem?.2 ⟨j, hx⟩)
                simp only at hzk
                subst hzk
                obtain ⟨nm, hnm⟩ : ∃ nm, str id = nm := ⟨_, rfl⟩
                obtain ⟨b, o, rfl, hb, r0, r1, r2, r3⟩ := four_at H5.out hi hnm
                have hil := (List.getElem?_eq_some_iff.1 hi).1
                have gi : (i : Int) < (l.length : Int) := by omega
                have d0 : decide ((i : Int) < 0) = false := by rw [decide_eq_false_iff_not]; omega
                have d1 : decide ((l.length : Int) ≤ (i : Int)) = false := by rw [decide_eq_false_iff_not]; omega
                have d1' : decide (l.length ≤ i) = false := by rw [decide_eq_false_iff_not]; omega
                have d2 := neq_false (a := (k : Int)) rfl
                cases j with
                | zero =>
                  rw [Nat.add_zero] at m1
                  clear hi hnm hil hx hb hb2 cells
                  go_wp2_with fail
                  go_round
                  case rel => exact ⟨1, by go_num, by omega⟩
                  case measure => simp [intOf]; omega
                | succ j =>
                  obtain ⟨y, hy⟩ := at_lt (l := m) (k := j) (by omega)
                  have m2 := cells j y hy
                  have lt := RISE.out j y _ hy hx
                  have d3 : decide ((i : Int) ≤ y) = false := by rw [decide_eq_false_iff_not]; omega
                  have d4 : (0 : Int) < ((j + 1 : Nat) : Int) := by omega
                  clear hi hnm hil hx hb hb2 cells hy lt
                  go_wp2_with fail
                  go_round
                  case rel => exact ⟨j + 1 + 1, by go_num, by omega⟩
                  case measure => simp [intOf]; omega
              · have d : decide (j < m.length) = false := by rw [decide_eq_false_iff_not]; exact hjl
                clear hjl
                go_wp2_with fail
                go_roundw
                case rel => exact ⟨k + 1, n + m.length, by go_num, by go_num, by omega, N, B5⟩
                case measure => simp [intOf]; omega
          · rw [decide_eq_false h0] at hbit
            rw [bit_mod0 hbit.symm] at ea
            generalize zz / 2 ^ k = r at es ea
            obtain rfl := List.length_eq_zero_iff.1 (show m.length = 0 by omega)
            clear hr hbit h0
            go_wp2_with fail
            clear es ea g1 g1'
            go_loop [55] (fun i => i = .int .i64 0) (fun i => 0 - (intOf i).toNat)
            case atStart => rfl
            case round =>
              subst hrel
              go_wp2_with fail
              go_roundw
              case rel => exact ⟨k + 1, n, by go_num, by go_num, by omega, N, B5⟩
              case measure => simp [intOf]; omega
        · have d : decide ((k : Int) < 16) = false := by rw [decide_eq_false_iff_not]; omega
          obtain rfl : k = 16 := by omega
          have e1 : n = l.length := HN.out.trans SUM.out
          subst e1
          have t1 := beq_true (a := (l.length : Int)) rfl
          have t2 : (zz : Int) / 65536 = 0 := by have := LOW.out; omega
          have B4 : Hid (Below w.heap.size w wr) := B3.out.trans (HB.out.mono B3.out.size)
          clear hlt HB B3 H3 H4 d
          go_wp2_with fail
          refine (ex_any wr).mono ?_
          rintro e w5 ⟨rfl, b5⟩
          have B5 := Lib.hid (B4.out.trans (b5.mono B4.out.size))
          clear b5 B4
          go_wp2_with fail
          go_ret
          exact ⟨rfl, B5.out⟩
    · have nz := bne_true (a := (chkT l).2) (b := 0) hz
      have K := Lib.hid (fun W (hW : LstS W (.slice A l.length c) l) => kcheck_any _ l hl HS.out W hW)
      generalize (chkT l).1 = p at K
      generalize (chkT l).2 = q at K nz
      clear hz HS
      go_enter Try.func9, Try.ntmps9
      go_wp2_with fail
      refine SM.out.mono ?_
      rintro e w1 ⟨rfl, b1⟩
      have B1 := Lib.hid b1
      have H1 := Lib.hid (H.out.below b1)
      clear b1 SM H
      go_wp2_with fail
      refine (K.out w1 H1.out).mono ?_
      rintro e w2 ⟨rfl, b2⟩
      have B2 := Lib.hid (B1.out.trans (b2.mono B1.out.size))
      clear b2 B1 H1 K
      go_wp2_with fail
      refine (ex_any w2).mono ?_
      rintro e w5 ⟨rfl, b5⟩
      have B5 := Lib.hid (B2.out.trans (b5.mono B2.out.size))
      clear b5 B2
      go_wp2_with fail
      go_ret
      exact ⟨rfl, B5.out⟩
end Go.Proofs.Ytgjohpbhdgmifaa
