/-
  The law ProductDiscounts: it answers true for every input; nothing that existed before the call has changed behind it. Condition: lengths of 63 bits.
-/
import Derived.Test.YtkpmmojfnhfflaaPdL
namespace Go.Proofs.Ytkpmmojfnhfflaa
open Go.RowKit

set_option maxRecDepth 100000 in
set_option maxHeartbeats 4000000 in
theorem disc_law (vl : Value) (l : List Pd) (hl : l.length ≤ 9223372036854775807) (_ : OkPds l) (d wi c : Int) (wt mo : Int) (w : World) (h : LstPd w vl l) : Calls Try.prog 8 #[faV vl d wi c, .int .i64 wt, .int .i64 mo] w fun e w' => e = .returned (.bool true) ∧ Below w.heap.size w w' := by
  obtain ⟨w7, hw7⟩ : ∃ W, w.alloc (boxFa vl d wi c) = W := ⟨_, rfl⟩
  have S7 := Lib.hid (FaSt.new h hw7)
  obtain ⟨A, n, rfl, -, -, -⟩ := h
  by_cases hlg : ¬ (l.length ≤ 40)
  · go_enter Try.func8, Try.ntmps8
    obtain ⟨p0, p1, p2, p3⟩ := S7.out.cells
    have C := Lib.hid (large_yes A none l.length 0 n 0 d wi c (by omega) w7)
    go_wp2_with fail
    refine C.out.mono ?_
    rintro e w8 ⟨rfl, y8⟩
    have S8 := Lib.hid (S7.out.on y8)
    clear C S7 y8 p0 p1 p2 p3
    have C := Lib.hid (ex_any w8)
    go_wp2_with fail
    refine C.out.mono ?_
    rintro e w9 ⟨rfl, y9⟩
    have S9 := Lib.hid (S8.out.on y9)
    clear C S8 y9
    go_wp2_with fail
    go_ret
    exact ⟨rfl, S9.out.below⟩
  have hlt := Decidable.not_not.1 hlg
  clear hlg
  have hl1 := hlt
  have K1 := Lib.hid (fun W hW => kcheck_any (.slice A l.length n) l d wi c hl W hW)
  obtain ⟨⟨a0, a1⟩, hq⟩ : ∃ q, chkPd d wi c l = q := ⟨_, rfl⟩
  rw [hq] at K1
  by_cases hv : a1 ≠ 0
  · have ne : (a1 != 0) = true := bne_true hv
    clear hv hq
    go_enter Try.func8, Try.ntmps8
    obtain ⟨p0, p1, p2, p3⟩ := S7.out.cells
    have C := Lib.hid (large_no A none l.length 0 n 0 d wi c hl1 (by decide) w7)
    go_wp2_with fail
    refine C.out.mono ?_
    rintro e w8 ⟨rfl, y8⟩
    have S8 := Lib.hid (S7.out.on y8)
    clear C S7 y8 p0 p1 p2 p3
    obtain ⟨p0, p1, p2, p3⟩ := S8.out.cells
    have C := Lib.hid (K1.out w8 S8.out.lst)
    go_wp2_with fail
    refine C.out.mono ?_
    rintro e w9 ⟨rfl, y9⟩
    have S9 := Lib.hid (S8.out.on y9)
    clear C S8 y9 p0 p1 p2 p3
    have C := Lib.hid (ex_any w9)
    go_wp2_with fail
    refine C.out.mono ?_
    rintro e w10 ⟨rfl, y10⟩
    have S10 := Lib.hid (S9.out.on y10)
    clear C S9 y10
    go_wp2_with fail
    go_ret
    exact ⟨rfl, S10.out.below⟩
  obtain rfl : a1 = 0 := Decidable.not_not.1 hv
  clear hv
  have KP := Lib.hid (fun (i : Int) (first : Bool) (x : Int) W hW => kpr_any (.slice A l.length n) l d wi c hl i first x W hW)
  have HV : Hid ((chkPd d wi c l).2 = 0) := Lib.hid (by rw [hq])
  clear hq
  have ne : ((0 : Int) != 0) = false := rfl
  by_cases hwm : wt < mo
  · have hle : wt ≤ mo := by omega
    have gm : decide (mo < wt) = false := decide_eq_false (by omega)
    go_enter Try.func8, Try.ntmps8
    obtain ⟨p0, p1, p2, p3⟩ := S7.out.cells
    have C := Lib.hid (large_no A none l.length 0 n 0 d wi c hl1 (by decide) w7)
    go_wp2_with fail
    refine C.out.mono ?_
    rintro e w8 ⟨rfl, y8⟩
    have S8 := Lib.hid (S7.out.on y8)
    clear C S7 y8 p0 p1 p2 p3
    obtain ⟨p0, p1, p2, p3⟩ := S8.out.cells
    have C := Lib.hid (K1.out w8 S8.out.lst)
    go_wp2_with fail
    refine C.out.mono ?_
    rintro e w9 ⟨rfl, y9⟩
    have S9 := Lib.hid (S8.out.on y9)
    clear C S8 y9 p0 p1 p2 p3
    obtain ⟨p0, p1, p2, p3⟩ := S9.out.cells
    clear K1 hw7
    go_wp2_with fail
    go_loopw [11] (fun i wr => ∃ k : Nat, i = .int .i64 k ∧ k ≤ l.length ∧ Hid (FaSt w (.slice A l.length n) l d wi c wr)) (fun i _ => l.length - (intOf i).toNat)
    case atStart => exact ⟨0, rfl, Nat.zero_le _, S9⟩
    case round =>
      clear S9 p0 p1 p2 p3
      obtain ⟨k, rfl, hk, S0⟩ := hrel
      by_cases hlt : k < l.length
      · obtain ⟨⟨id, p, r, z, t, m⟩, hx⟩ := at_lt hlt
        obtain ⟨nm, hnm⟩ : ∃ nm, str id = nm := ⟨_, rfl⟩
        have gk : (k : Int) < (l.length : Int) := by omega
        have hp : 0 ≤ p ∧ p ≤ 1000000 := (acc_at HV.out hx).1
        have hd : 0 ≤ d ∧ d ≤ 1000000 := (acc_own HV.out).1
        obtain ⟨hp0, hp1⟩ := hp
        obtain ⟨hd0, hd1⟩ := hd
        have e1 := prA_at (first := true) (w := wt) HV.out hx
        rw [prc_first] at e1
        have e2 := prA_at (first := false) (w := wt) HV.out hx
        have e3 := prA_at (first := false) (w := mo) HV.out hx
        have u1 := prc_up (d := d) (wi := wi) (pr := p) hle hd0 hp0
        have u2 := prc_all (d := d) (wi := wi) (pr := p) (w := wt) hd0 hp0
        have u3 := prc_all (d := d) (wi := wi) (pr := p) (w := mo) hd0 hp0
        simp only at e1 e2 e3
        have C1 := Lib.hid (KP.out (k : Int) true wt)
        have C2 := Lib.hid (KP.out (k : Int) false wt)
        have C3 := Lib.hid (KP.out (k : Int) false mo)
        rw [e1] at C1
        rw [e2] at C2
        rw [e3] at C3
        clear e1 e2 e3
        generalize prcP d wi p false wt = bq at C2 u1 u2
        generalize prcP d wi p false mo = cq at C3 u1 u3
        have X := Lib.hid (fun W (hW : LstPd W (.slice A l.length n) l) => six_at hW hx hnm)
        have t0 : (p != p) = false := neq_false rfl
        have t1 : decide (cq < bq) = false := decide_eq_false (by omega)
        have t2 : decide (p < cq) = false := decide_eq_false (by omega)
        have t3 : decide (bq < 0) = false := decide_eq_false (by omega)
        have t4 : wrap64 (p - bq) = p - bq := by unfold wrap64; omega
        have t5 : decide (d < p - bq) = false := decide_eq_false (by omega)
        have t6 : 0 ≤ bq := u2.1
        have t7 : bq ≤ 1000000 := by omega
        clear hx hnm u1 u2 u3
        obtain ⟨p0, p1, p2, p3⟩ := S0.out.cells
        have C := Lib.hid (C1.out wr S0.out.lst)
        go_wp2_with fail
        refine C.out.mono ?_
        rintro e w1 ⟨rfl, y1⟩
        have S1 := Lib.hid (S0.out.on y1)
        clear C S0 y1 p0 p1 p2 p3
        obtain ⟨p0, p1, p2, p3⟩ := S1.out.cells
        have C := Lib.hid (C2.out w1 S1.out.lst)
        go_wp2_with fail
        refine C.out.mono ?_
        rintro e w2 ⟨rfl, y2⟩
        have S2 := Lib.hid (S1.out.on y2)
        clear C S1 y2 p0 p1 p2 p3
        obtain ⟨p0, p1, p2, p3⟩ := S2.out.cells
        have C := Lib.hid (C3.out w2 S2.out.lst)
        go_wp2_with fail
        refine C.out.mono ?_
        rintro e w3 ⟨rfl, y3⟩
        have S3 := Lib.hid (S2.out.on y3)
        clear C S2 y3 p0 p1 p2 p3
        obtain ⟨p0, p1, p2, p3⟩ := S3.out.cells
        obtain ⟨b, o, rfl, hb, r0, r1, r2, r3, r4, r5⟩ := X.out _ S3.out.lst
        clear hb X r0 r2 r3 r4 r5 C1 C2 C3
        go_wp2_with fail
        go_roundw
        case rel => exact ⟨k + 1, by go_num, by omega, S3⟩
        case measure => simp [intOf]; omega
      · have dk : decide (k < l.length) = false := by rw [decide_eq_false_iff_not]; exact hlt
        obtain ⟨p0, p1, p2, p3⟩ := S0.out.cells
        clear hlt KP
        have C := Lib.hid (ex_any wr)
        go_wp2_with fail
        refine C.out.mono ?_
        rintro e w1 ⟨rfl, y1⟩
        have S1 := Lib.hid (S0.out.on y1)
        clear C S0 y1
        clear p0 p1 p2 p3
        go_wp2_with fail
        go_ret
        exact ⟨rfl, S1.out.below⟩
  have gw : decide (wt < mo) = false := decide_eq_false hwm
  by_cases hmw : mo < wt
  · have hle : mo ≤ wt := by omega
    go_enter Try.func8, Try.ntmps8
    obtain ⟨p0, p1, p2, p3⟩ := S7.out.cells
    have C := Lib.hid (large_no A none l.length 0 n 0 d wi c hl1 (by decide) w7)
    go_wp2_with fail
    refine C.out.mono ?_
    rintro e w8 ⟨rfl, y8⟩
    have S8 := Lib.hid (S7.out.on y8)
    clear C S7 y8 p0 p1 p2 p3
    obtain ⟨p0, p1, p2, p3⟩ := S8.out.cells
    have C := Lib.hid (K1.out w8 S8.out.lst)
    go_wp2_with fail
    refine C.out.mono ?_
    rintro e w9 ⟨rfl, y9⟩
    have S9 := Lib.hid (S8.out.on y9)
    clear C S8 y9 p0 p1 p2 p3
    obtain ⟨p0, p1, p2, p3⟩ := S9.out.cells
    clear K1 hw7
    go_wp2_with fail
    go_loopw [11] (fun i wr => ∃ k : Nat, i = .int .i64 k ∧ k ≤ l.length ∧ Hid (FaSt w (.slice A l.length n) l d wi c wr)) (fun i _ => l.length - (intOf i).toNat)
    case atStart => exact ⟨0, rfl, Nat.zero_le _, S9⟩
    case round =>
      clear S9 p0 p1 p2 p3
      obtain ⟨k, rfl, hk, S0⟩ := hrel
      by_cases hlt : k < l.length
      · obtain ⟨⟨id, p, r, z, t, m⟩, hx⟩ := at_lt hlt
        obtain ⟨nm, hnm⟩ : ∃ nm, str id = nm := ⟨_, rfl⟩
        have gk : (k : Int) < (l.length : Int) := by omega
        have hp : 0 ≤ p ∧ p ≤ 1000000 := (acc_at HV.out hx).1
        have hd : 0 ≤ d ∧ d ≤ 1000000 := (acc_own HV.out).1
        obtain ⟨hp0, hp1⟩ := hp
        obtain ⟨hd0, hd1⟩ := hd
        have e1 := prA_at (first := true) (w := wt) HV.out hx
        rw [prc_first] at e1
        have e2 := prA_at (first := false) (w := mo) HV.out hx
        have e3 := prA_at (first := false) (w := wt) HV.out hx
        have u1 := prc_up (d := d) (wi := wi) (pr := p) hle hd0 hp0
        have u2 := prc_all (d := d) (wi := wi) (pr := p) (w := mo) hd0 hp0
        have u3 := prc_all (d := d) (wi := wi) (pr := p) (w := wt) hd0 hp0
        simp only at e1 e2 e3
        have C1 := Lib.hid (KP.out (k : Int) true wt)
        have C2 := Lib.hid (KP.out (k : Int) false mo)
        have C3 := Lib.hid (KP.out (k : Int) false wt)
        rw [e1] at C1
        rw [e2] at C2
        rw [e3] at C3
        clear e1 e2 e3
        generalize prcP d wi p false mo = bq at C2 u1 u2
        generalize prcP d wi p false wt = cq at C3 u1 u3
        have X := Lib.hid (fun W (hW : LstPd W (.slice A l.length n) l) => six_at hW hx hnm)
        have t0 : (p != p) = false := neq_false rfl
        have t1 : decide (cq < bq) = false := decide_eq_false (by omega)
        have t2 : decide (p < cq) = false := decide_eq_false (by omega)
        have t3 : decide (bq < 0) = false := decide_eq_false (by omega)
        have t4 : wrap64 (p - bq) = p - bq := by unfold wrap64; omega
        have t5 : decide (d < p - bq) = false := decide_eq_false (by omega)
        have t6 : 0 ≤ bq := u2.1
        have t7 : bq ≤ 1000000 := by omega
        clear hx hnm u1 u2 u3
        obtain ⟨p0, p1, p2, p3⟩ := S0.out.cells
        have C := Lib.hid (C1.out wr S0.out.lst)
        go_wp2_with fail
        refine C.out.mono ?_
        rintro e w1 ⟨rfl, y1⟩
        have S1 := Lib.hid (S0.out.on y1)
        clear C S0 y1 p0 p1 p2 p3
        obtain ⟨p0, p1, p2, p3⟩ := S1.out.cells
        have C := Lib.hid (C2.out w1 S1.out.lst)
        go_wp2_with fail
        refine C.out.mono ?_
        rintro e w2 ⟨rfl, y2⟩
        have S2 := Lib.hid (S1.out.on y2)
        clear C S1 y2 p0 p1 p2 p3
        obtain ⟨p0, p1, p2, p3⟩ := S2.out.cells
        have C := Lib.hid (C3.out w2 S2.out.lst)
        go_wp2_with fail
        refine C.out.mono ?_
        rintro e w3 ⟨rfl, y3⟩
        have S3 := Lib.hid (S2.out.on y3)
        clear C S2 y3 p0 p1 p2 p3
        obtain ⟨p0, p1, p2, p3⟩ := S3.out.cells
        obtain ⟨b, o, rfl, hb, r0, r1, r2, r3, r4, r5⟩ := X.out _ S3.out.lst
        clear hb X r0 r2 r3 r4 r5 C1 C2 C3
        go_wp2_with fail
        go_roundw
        case rel => exact ⟨k + 1, by go_num, by omega, S3⟩
        case measure => simp [intOf]; omega
      · have dk : decide (k < l.length) = false := by rw [decide_eq_false_iff_not]; exact hlt
        obtain ⟨p0, p1, p2, p3⟩ := S0.out.cells
        clear hlt KP
        have C := Lib.hid (ex_any wr)
        go_wp2_with fail
        refine C.out.mono ?_
        rintro e w1 ⟨rfl, y1⟩
        have S1 := Lib.hid (S0.out.on y1)
        clear C S0 y1
        clear p0 p1 p2 p3
        go_wp2_with fail
        go_ret
        exact ⟨rfl, S1.out.below⟩
  obtain rfl : mo = wt := by omega
  have hle : mo ≤ mo := Int.le_refl _
  clear hwm hmw
  go_enter Try.func8, Try.ntmps8
  obtain ⟨p0, p1, p2, p3⟩ := S7.out.cells
  have C := Lib.hid (large_no A none l.length 0 n 0 d wi c hl1 (by decide) w7)
  go_wp2_with fail
  refine C.out.mono ?_
  rintro e w8 ⟨rfl, y8⟩
  have S8 := Lib.hid (S7.out.on y8)
  clear C S7 y8 p0 p1 p2 p3
  obtain ⟨p0, p1, p2, p3⟩ := S8.out.cells
  have C := Lib.hid (K1.out w8 S8.out.lst)
  go_wp2_with fail
  refine C.out.mono ?_
  rintro e w9 ⟨rfl, y9⟩
  have S9 := Lib.hid (S8.out.on y9)
  clear C S8 y9 p0 p1 p2 p3
  obtain ⟨p0, p1, p2, p3⟩ := S9.out.cells
  clear K1 hw7
  go_wp2_with fail
  go_loopw [11] (fun i wr => ∃ k : Nat, i = .int .i64 k ∧ k ≤ l.length ∧ Hid (FaSt w (.slice A l.length n) l d wi c wr)) (fun i _ => l.length - (intOf i).toNat)
  case atStart => exact ⟨0, rfl, Nat.zero_le _, S9⟩
  case round =>
    clear S9 p0 p1 p2 p3
    obtain ⟨k, rfl, hk, S0⟩ := hrel
    by_cases hlt : k < l.length
    · obtain ⟨⟨id, p, r, z, t, m⟩, hx⟩ := at_lt hlt
      obtain ⟨nm, hnm⟩ : ∃ nm, str id = nm := ⟨_, rfl⟩
      have gk : (k : Int) < (l.length : Int) := by omega
      have hp : 0 ≤ p ∧ p ≤ 1000000 := (acc_at HV.out hx).1
      have hd : 0 ≤ d ∧ d ≤ 1000000 := (acc_own HV.out).1
      obtain ⟨hp0, hp1⟩ := hp
      obtain ⟨hd0, hd1⟩ := hd
      have e1 := prA_at (first := true) (w := mo) HV.out hx
      rw [prc_first] at e1
      have e2 := prA_at (first := false) (w := mo) HV.out hx
      have e3 := prA_at (first := false) (w := mo) HV.out hx
      have u1 := prc_up (d := d) (wi := wi) (pr := p) hle hd0 hp0
      have u2 := prc_all (d := d) (wi := wi) (pr := p) (w := mo) hd0 hp0
      have u3 := prc_all (d := d) (wi := wi) (pr := p) (w := mo) hd0 hp0
      simp only at e1 e2 e3
      have C1 := Lib.hid (KP.out (k : Int) true mo)
      have C2 := Lib.hid (KP.out (k : Int) false mo)
      have C3 := Lib.hid (KP.out (k : Int) false mo)
      rw [e1] at C1
      rw [e2] at C2
      rw [e3] at C3
      clear e1 e2 e3
      generalize prcP d wi p false mo = bq at C2 C3 u1 u2 u3
      obtain ⟨cq, hcq⟩ : ∃ cq, cq = bq := ⟨_, rfl⟩
      rw [← hcq] at C3
      have u1 : bq ≤ cq := by omega
      have X := Lib.hid (fun W (hW : LstPd W (.slice A l.length n) l) => six_at hW hx hnm)
      have t0 : (p != p) = false := neq_false rfl
      have t1 : decide (cq < bq) = false := decide_eq_false (by omega)
      have t2 : decide (p < cq) = false := decide_eq_false (by omega)
      have t3 : decide (bq < 0) = false := decide_eq_false (by omega)
      have t4 : wrap64 (p - bq) = p - bq := by unfold wrap64; omega
      have t5 : decide (d < p - bq) = false := decide_eq_false (by omega)
      have t6 : 0 ≤ bq := u2.1
      have t7 : bq ≤ 1000000 := by omega
      clear hx hnm u1 u2 u3 hcq
      obtain ⟨p0, p1, p2, p3⟩ := S0.out.cells
      have C := Lib.hid (C1.out wr S0.out.lst)
      go_wp2_with fail
      refine C.out.mono ?_
      rintro e w1 ⟨rfl, y1⟩
      have S1 := Lib.hid (S0.out.on y1)
      clear C S0 y1 p0 p1 p2 p3
      obtain ⟨p0, p1, p2, p3⟩ := S1.out.cells
      have C := Lib.hid (C2.out w1 S1.out.lst)
      go_wp2_with fail
      refine C.out.mono ?_
      rintro e w2 ⟨rfl, y2⟩
      have S2 := Lib.hid (S1.out.on y2)
      clear C S1 y2 p0 p1 p2 p3
      obtain ⟨p0, p1, p2, p3⟩ := S2.out.cells
      have C := Lib.hid (C3.out w2 S2.out.lst)
      go_wp2_with fail
      refine C.out.mono ?_
      rintro e w3 ⟨rfl, y3⟩
      have S3 := Lib.hid (S2.out.on y3)
      clear C S2 y3 p0 p1 p2 p3
      obtain ⟨p0, p1, p2, p3⟩ := S3.out.cells
      obtain ⟨b, o, rfl, hb, r0, r1, r2, r3, r4, r5⟩ := X.out _ S3.out.lst
      clear hb X r0 r2 r3 r4 r5 C1 C2 C3
      go_wp2_with fail
      go_roundw
      case rel => exact ⟨k + 1, by go_num, by omega, S3⟩
      case measure => simp [intOf]; omega
    · have dk : decide (k < l.length) = false := by rw [decide_eq_false_iff_not]; exact hlt
      obtain ⟨p0, p1, p2, p3⟩ := S0.out.cells
      clear hlt KP
      have C := Lib.hid (ex_any wr)
      go_wp2_with fail
      refine C.out.mono ?_
      rintro e w1 ⟨rfl, y1⟩
      have S1 := Lib.hid (S0.out.on y1)
      clear C S0 y1
      clear p0 p1 p2 p3
      go_wp2_with fail
      go_ret
      exact ⟨rfl, S1.out.below⟩
end Go.Proofs.Ytkpmmojfnhfflaa
