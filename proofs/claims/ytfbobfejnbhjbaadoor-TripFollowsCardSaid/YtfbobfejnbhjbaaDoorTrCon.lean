/-
  The code's connects, the reference's Connects, the laws' passes: what each call answers; nothing that existed before the call has changed behind it. Condition: lists of fewer than 2^63 calls.
-/
import Derived.Test.YtfbobfejnbhjbaaDoorTrSt
namespace Go.Proofs.YtfbobfejnbhjbaaDoor
open Go.RowKit

theorem tw_var {α : Type} {p q : α → Bool} {l : List α} {R : Bool} (h : twT p q l = R) : R = twF p q false (l.drop 0) := h ▸ rfl

set_option maxRecDepth 100000 in
set_option maxHeartbeats 8000000 in
theorem kcon_any (s : ByteArray) (r c : Int) (f : Bool) (v : Value) (l : List Cl) (hl : l.length ≤ 9223372036854775807) (st to : Int) (w : World) (h : LstC w v l) :
    Calls Tryd.prog 38 #[.agg #[.string s, .int .i64 r, .int .i64 c, .bool f, v], .int .i64 st, .int .i64 to] w fun e w' => e = .returned (.bool (conT st to l)) ∧ Below w.heap.size w w' := by
  obtain ⟨w7, hw7⟩ : ∃ W, w.alloc (.cells #[.string s, .int .i64 r, .int .i64 c, .bool f, v] 39 (0, 0)) = W := ⟨_, rfl⟩
  obtain ⟨b7, -, -, -, -, p4, s7⟩ := box_tp hw7
  have B7 := Lib.hid b7
  have H := Lib.hid h
  obtain ⟨A, n, rfl, -, -, -⟩ := h
  obtain ⟨R, hR⟩ : ∃ R, conT st to l = R := ⟨_, rfl⟩
  have ST := Lib.hid (tw_var hR)
  rw [hR]
  clear b7 hR
  go_enter Tryd.func38, Tryd.ntmps38
  go_wp2_with fail
  go_loopw [7, 13] (fun q i wr => ∃ (k : Nat) (g : Bool), q = .bool g ∧ i = .int .i64 k ∧ k ≤ l.length ∧ Hid (R = twF (brdC st) (altC to) g (l.drop k)) ∧ Hid (Below w.heap.size w wr)) (fun _ i _ => l.length - (intOf i).toNat)
  case atStart => exact ⟨0, false, rfl, rfl, Nat.zero_le _, ST, B7⟩
  case round =>
    clear p4 hw7 ST
    obtain ⟨k, g, rfl, rfl, hk, hz, HB⟩ := hrel
    by_cases hlt : k < l.length
    · obtain ⟨⟨x, xa, xd, o, u⟩, hx⟩ := at_lt hlt
      obtain ⟨b, g', rfl, hb, r0, r1, r2, r3, r4⟩ := five_at (H.out.below HB.out) hx
      have gk : (k : Int) < (l.length : Int) := by omega
      obtain ⟨w8, hw8⟩ : ∃ W, wr.alloc (.cells #[.int .i64 x, .int .i64 xa, .int .i64 xd, .bool o, .bool u] 44 (0, 0)) = W := ⟨_, rfl⟩
      obtain ⟨b8, q0, q1, q2, q3, q4, s8⟩ := box_cc hw8
      have B8 : Hid (Below w.heap.size w w8) := HB.out.trans (b8.mono HB.out.size)
      clear b8 hb HB
      cases g with
      | true =>
        cases u with
        | true =>
          by_cases e0 : x = to
          · have t0 := beq_true e0
            have N := Lib.hid (tw_hit hz.out hx rfl (by unfold altC; rw [Bool.and_eq_true]; exact ⟨rfl, decide_eq_true e0⟩))
            clear hz hx e0
            go_wp2_with fail
            go_ret
            exact ⟨ret_bool N.out.symm, B8.out⟩
          · have t0 := beq_false e0
            have N := Lib.hid (tw_next (g := true) hz.out hx (by unfold altC; rw [show decide (x = to) = false from decide_eq_false e0]; rfl) rfl)
            clear hz hx e0
            go_wp2_with fail
            go_roundw
            case rel => exact ⟨k + 1, true, rfl, by go_num, by omega, N, B8⟩
            case measure => simp [intOf]; omega
        | false =>
          have N := Lib.hid (tw_next (g := true) hz.out hx rfl rfl)
          obtain ⟨z0, z1⟩ := box_last hw8
          clear hz hx
          go_wp2_with fail
          go_roundw
          case rel => exact ⟨k + 1, true, rfl, by go_num, by omega, N, B8⟩
          case measure => simp [intOf]; omega
      | false =>
        cases o with
        | true =>
          by_cases e0 : x = st
          · have t0 := beq_true e0
            have N := Lib.hid (tw_next (g := true) hz.out hx rfl (by unfold brdC; rw [show decide (x = st) = true from decide_eq_true e0]; rfl))
            clear hz hx e0
            go_wp2_with fail
            go_roundw
            case rel => exact ⟨k + 1, true, rfl, by go_num, by omega, N, B8⟩
            case measure => simp [intOf]; omega
          · have t0 := beq_false e0
            have N := Lib.hid (tw_next (g := false) hz.out hx rfl (by unfold brdC; rw [show decide (x = st) = false from decide_eq_false e0]; rfl))
            clear hz hx e0
            go_wp2_with fail
            go_roundw
            case rel => exact ⟨k + 1, false, rfl, by go_num, by omega, N, B8⟩
            case measure => simp [intOf]; omega
        | false =>
          have N := Lib.hid (tw_next (g := false) hz.out hx rfl rfl)
          clear hz hx
          go_wp2_with fail
          go_roundw
          case rel => exact ⟨k + 1, false, rfl, by go_num, by omega, N, B8⟩
          case measure => simp [intOf]; omega
    · have E := Lib.hid (tw_end hz.out (show l.length ≤ k by omega))
      have d : decide (k < l.length) = false := by rw [decide_eq_false_iff_not]; exact hlt
      clear hlt hz
      go_wp2_with fail
      go_ret
      exact ⟨ret_bool E.out.symm, HB.out⟩
set_option maxRecDepth 100000 in
set_option maxHeartbeats 8000000 in
theorem rcon_any (s : ByteArray) (r c : Int) (f : Bool) (v : Value) (l : List Cl) (hl : l.length ≤ 4611686018427387904) (st to : Int) (w : World) (h : LstC w v l) :
    Calls Tryd.prog 28 #[.agg #[.string s, .int .i64 r, .int .i64 c, .bool f, v], .int .i64 st, .int .i64 to] w fun e w' => e = .returned (.bool (conT st to l)) ∧ Below w.heap.size w w' := by
  obtain ⟨w7, hw7⟩ : ∃ W, w.alloc (.cells #[.string s, .int .i64 r, .int .i64 c, .bool f, v] 39 (0, 0)) = W := ⟨_, rfl⟩
  obtain ⟨b7, -, -, -, -, p4, s7⟩ := box_tp hw7
  have B7 := Lib.hid b7
  have H := Lib.hid (h.below b7)
  obtain ⟨A, n, rfl, -, -, -⟩ := h
  obtain ⟨R, hR⟩ : ∃ R, conT st to l = R := ⟨_, rfl⟩
  have HR := Lib.hid hR
  rw [hR]
  clear b7 hR
  go_enter Tryd.func28, Tryd.ntmps28
  go_wp2_with fail
  clear hw7
  go_loopw [7] (fun i wr => ∃ k : Nat, i = .int .i64 k ∧ k ≤ l.length ∧ Hid (NoP (brdC st) (altC to) l k) ∧ Hid (w7 = wr)) (fun i _ => l.length - (intOf i).toNat)
  case atStart => exact ⟨0, rfl, Nat.zero_le _, Lib.hid (np_zero _), Lib.hid rfl⟩
  case round =>
    obtain ⟨k, rfl, hk, HP, HB⟩ := hrel
    obtain rfl := HB.out
    by_cases hlt : k < l.length
    · obtain ⟨⟨x, xa, xd, xo, xu⟩, hx⟩ := at_lt hlt
      have HX := Lib.hid hx
      have gk : (k : Int) < (l.length : Int) := by omega
      have NZ := Lib.hid (nq_zero (p := brdC st) (q := altC to) l k)
      clear hx HB
      go_wp2_with fail
      go_loopw [8] (fun i wr => ∃ m : Nat, i = .int .i64 m ∧ k < m ∧ (m ≤ l.length) ∧ Hid (NoQ (brdC st) (altC to) l k m) ∧ Hid (w7 = wr)) (fun i _ => l.length - (intOf i).toNat)
      case atStart => exact ⟨k + 1, by go_num, by omega, by omega, NZ, Lib.hid rfl⟩
      case round =>
        clear NZ
        obtain ⟨m, rfl, hkm, hm, HQ, HB⟩ := hrel
        obtain rfl := HB.out
        by_cases hlm : m < l.length
        · obtain ⟨⟨y, ya, yd, yo, yu⟩, hy⟩ := at_lt hlm
          obtain ⟨b, g, rfl, hb, r0, -, -, r3, r4⟩ := five_at H.out HX.out
          obtain ⟨b', g', hA, hb', m0, -, -, m3, m4⟩ := five_at H.out hy
          cases hA
          have HY := Lib.hid hy
          have gm : (m : Int) < (l.length : Int) := by omega
          clear hy hb hb'
          by_cases e0 : x = st
          · have t0 := beq_true e0
            cases xo with
            | false =>
              have N := Lib.hid (nq_next HQ.out HX.out HY.out (fun h => by cases h))
              clear e0
              clear HX HY 
              go_wp2_with fail
              go_roundw
              case rel => exact ⟨m + 1, by go_num, by omega, by omega, N, Lib.hid trivial⟩
              case measure => simp [intOf]; omega
            | true =>
              by_cases e1 : y = to
              · have t1 := beq_true e1
                cases yu with
                | false =>
                  have N := Lib.hid (nq_next HQ.out HX.out HY.out (fun _ => rfl))
                  clear e0 e1
                  clear HX HY 
                  go_wp2_with fail
                  go_roundw
                  case rel => exact ⟨m + 1, by go_num, by omega, by omega, N, Lib.hid trivial⟩
                  case measure => simp [intOf]; omega
                | true =>
                  have N := Lib.hid (tw_yes (p := brdC st) (q := altC to) hkm HX.out HY.out (by unfold brdC; rw [Bool.and_eq_true]; exact ⟨rfl, decide_eq_true e0⟩) (by unfold altC; rw [Bool.and_eq_true]; exact ⟨rfl, decide_eq_true e1⟩))
                  clear HX HY e0 e1
                  go_wp2_with fail
                  go_ret
                  exact ⟨ret_bool (N.out.symm.trans HR.out), B7.out⟩
              · have t1 := beq_false e1
                have N := Lib.hid (nq_next HQ.out HX.out HY.out (fun _ => by unfold altC; rw [show decide (y = to) = false from decide_eq_false e1, Bool.and_false]))
                clear e0 e1
                clear HX HY 
                go_wp2_with fail
                go_roundw
                case rel => exact ⟨m + 1, by go_num, by omega, by omega, N, Lib.hid trivial⟩
                case measure => simp [intOf]; omega
          · have t0 := beq_false e0
            have N := Lib.hid (nq_next HQ.out HX.out HY.out (fun h => by unfold brdC at h; rw [show decide (x = st) = false from decide_eq_false e0, Bool.and_false] at h; cases h))
            clear e0
            clear HX HY 
            go_wp2_with fail
            go_roundw
            case rel => exact ⟨m + 1, by go_num, by omega, by omega, N, Lib.hid trivial⟩
            case measure => simp [intOf]; omega
        · have d : decide (m < l.length) = false := by rw [decide_eq_false_iff_not]; exact hlm
          have N := Lib.hid (np_next HP.out HQ.out (show l.length ≤ m by omega))
          clear hlm HP HQ HX
          go_wp2_with fail
          go_roundw
          case rel => exact ⟨k + 1, by go_num, by omega, N, Lib.hid trivial⟩
          case measure => simp [intOf]; omega
    · have E := Lib.hid (np_end HP.out (show l.length ≤ k by omega))
      have d : decide (k < l.length) = false := by rw [decide_eq_false_iff_not]; exact hlt
      clear hlt HP
      go_wp2_with fail
      go_ret
      exact ⟨ret_bool (E.out.symm.trans HR.out), B7.out⟩
/-- The laws' passes. -/
theorem isS_yes {a x : Int} (h : x = a) : isS a x = true := decide_eq_true h
theorem isS_no {a x : Int} (h : x ≠ a) : isS a x = false := decide_eq_false h
set_option maxRecDepth 100000 in
set_option maxHeartbeats 8000000 in
theorem pass_any (v : Value) (l : List Int) (hl : l.length ≤ 4611686018427387904) (st to : Int) (w : World) (h : LstI w v l) :
    Calls Tryd.prog 29 #[v, .int .i64 st, .int .i64 to] w fun e w' => e = .returned (.bool (pasT st to l)) ∧ w = w' := by
  have H := Lib.hid h
  obtain ⟨A, n, rfl, -, -, hc⟩ := h
  have HC := Lib.hid hc
  obtain ⟨R, hR⟩ : ∃ R, pasT st to l = R := ⟨_, rfl⟩
  have HR := Lib.hid hR
  rw [hR]
  clear hc hR
  go_enter Tryd.func29, Tryd.ntmps29
  go_wp2_with fail
  go_loopw [7] (fun i wr => ∃ k : Nat, i = .int .i64 k ∧ k ≤ l.length ∧ Hid (NoP (isS st) (isS to) l k) ∧ Hid (w = wr)) (fun i _ => l.length - (intOf i).toNat)
  case atStart => exact ⟨0, rfl, Nat.zero_le _, Lib.hid (np_zero _), Lib.hid rfl⟩
  case round =>
    obtain ⟨k, rfl, hk, HP, HB⟩ := hrel
    obtain rfl := HB.out
    by_cases hlt : k < l.length
    · obtain ⟨x, hx⟩ := at_lt hlt
      have HX := Lib.hid hx
      have gk : (k : Int) < (l.length : Int) := by omega
      have NZ := Lib.hid (nq_zero (p := isS st) (q := isS to) l k)
      clear hx HB
      go_wp2_with fail
      go_loopw [8] (fun i wr => ∃ m : Nat, i = .int .i64 m ∧ k < m ∧ (m ≤ l.length) ∧ Hid (NoQ (isS st) (isS to) l k m) ∧ Hid (w = wr)) (fun i _ => l.length - (intOf i).toNat)
      case atStart => exact ⟨k + 1, by go_num, by omega, by omega, NZ, Lib.hid rfl⟩
      case round =>
        clear NZ
        obtain ⟨m, rfl, hkm, hm, HQ, HB⟩ := hrel
        obtain rfl := HB.out
        by_cases hlm : m < l.length
        · obtain ⟨y, hy⟩ := at_lt hlm
          obtain ⟨b, g, rfl, hb, hcell⟩ := HC.out (by omega)
          have r0 := hcell k _ (ints_at l k x HX.out)
          have m0 := hcell m _ (ints_at l m y hy)
          have HY := Lib.hid hy
          have gm : (m : Int) < (l.length : Int) := by omega
          clear hy hb hcell
          by_cases e0 : x = st
          · have t0 := beq_true e0
            by_cases e1 : y = to
            · have t1 := beq_true e1
              have N := Lib.hid (tw_yes (p := isS st) (q := isS to) hkm HX.out HY.out (isS_yes e0) (isS_yes e1))
              clear HX HY e0 e1
              go_wp2_with fail
              go_ret
              exact ⟨ret_bool (N.out.symm.trans HR.out), rfl⟩
            · have t1 := beq_false e1
              have N := Lib.hid (nq_next HQ.out HX.out HY.out (fun _ => isS_no e1))
              clear e0 e1
              clear HX HY 
              go_wp2_with fail
              go_roundw
              case rel => exact ⟨m + 1, by go_num, by omega, by omega, N, Lib.hid trivial⟩
              case measure => simp [intOf]; omega
          · have t0 := beq_false e0
            have N := Lib.hid (nq_next HQ.out HX.out HY.out (fun h => by rw [isS_no e0] at h; cases h))
            clear e0
            clear HX HY 
            go_wp2_with fail
            go_roundw
            case rel => exact ⟨m + 1, by go_num, by omega, by omega, N, Lib.hid trivial⟩
            case measure => simp [intOf]; omega
        · have d : decide (m < l.length) = false := by rw [decide_eq_false_iff_not]; exact hlm
          have N := Lib.hid (np_next HP.out HQ.out (show l.length ≤ m by omega))
          clear hlm HP HQ HX
          go_wp2_with fail
          go_roundw
          case rel => exact ⟨k + 1, by go_num, by omega, N, Lib.hid trivial⟩
          case measure => simp [intOf]; omega
    · have E := Lib.hid (np_end HP.out (show l.length ≤ k by omega))
      have d : decide (k < l.length) = false := by rw [decide_eq_false_iff_not]; exact hlt
      clear hlt HP
      go_wp2_with fail
      go_ret
      exact ⟨ret_bool (E.out.symm.trans HR.out), rfl⟩
end Go.Proofs.YtfbobfejnbhjbaaDoor
