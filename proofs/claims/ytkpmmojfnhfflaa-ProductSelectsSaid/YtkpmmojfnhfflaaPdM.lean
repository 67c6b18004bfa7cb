/-
  The law ProductSelects: it answers true for every input; nothing that existed before the call has changed behind it. Condition: lengths of 63 bits.
-/
import Derived.Test.YtkpmmojfnhfflaaPdL
import Derived.Deep.RegionHeld3
namespace Go.Proofs.Ytkpmmojfnhfflaa
open Go.RowKit

theorem far_listI {f : FuncId} {args : Array Value} {w W : World} {L : List Int} (h : Calls Try.prog f args W fun e w' => ∃ u, e = .returned u ∧ LstI w' u L ∧ Below W.heap.size W w') (hb : Below w.heap.size w W) : Calls Try.prog f args W fun e w' => ∃ u, e = .returned u ∧ LstI w' u L ∧ Below w.heap.size w w' :=
  h.mono fun _ _ ⟨u, he, hl, hc⟩ => ⟨u, he, hl, hb.trans (hc.mono hb.size)⟩

set_option maxRecDepth 100000 in
set_option maxHeartbeats 4000000 in
theorem selects_law (vl : Value) (l : List Pd) (hl : l.length ≤ 9223372036854775807) (hok : OkPds l) (d wi c : Int) (vr : Value) (rs : List Ri) (hrl : rs.length ≤ 9223372036854775807) (hrk : OkRis rs) (w : World) (h : LstPd w vl l) (hr : LstRi w vr rs) : Calls Try.prog 4 #[faV vl d wi c, vr] w fun e w' => e = .returned (.bool true) ∧ Below w.heap.size w w' := by
  obtain ⟨w7, hw7⟩ : ∃ W, w.alloc (boxFa vl d wi c) = W := ⟨_, rfl⟩
  have S7 := Lib.hid (FaSt.new h hw7)
  have HR := Lib.hid (hr.below S7.out.below)
  obtain ⟨A, n, rfl, -, -, -⟩ := h
  obtain ⟨A2, n2, rfl, -, -, -⟩ := hr
  by_cases hlg : ¬ (l.length ≤ 40 ∧ rs.length ≤ 40)
  · go_enter Try.func4, Try.ntmps4
    obtain ⟨p0, p1, p2, p3⟩ := S7.out.cells
    have C := Lib.hid (large_yes A A2 l.length rs.length n n2 d wi c (by omega) w7)
    go_wp2_with fail
    refine C.out.mono ?_
    rintro e w8 ⟨rfl, y8⟩
    have S8 := Lib.hid (S7.out.on y8)
    clear C S7 y8 p0 p1 p2 p3
    have C := Lib.hid (ex_any w8)
    go_wp2_with fail
    refine C.out.mono ?_
    rintro e w9 ⟨rfl, y9⟩
    have S9 := Lib.hid (S8.out.on y9)
    clear C S8 y9
    go_wp2_with fail
    go_ret
    exact ⟨rfl, S9.out.below⟩
  have hlt := Decidable.not_not.1 hlg
  clear hlg
  obtain ⟨hl1, hl2⟩ := hlt
  have KO := Lib.hid (fun W hW hW2 => kopts_any (.slice A l.length n) l d wi c (by omega) hok (.slice A2 rs.length n2) rs hrl hrk W hW hW2)
  have RO := Lib.hid (fun W hW hW2 => ropts_any (.slice A l.length n) l d wi c (by omega) hok (.slice A2 rs.length n2) rs hrl hrk W hW hW2)
  have hol : (optPd l rs).length ≤ 40 := by have := ix_le (fun p => covPd p rs) l; unfold optPd; omega
  generalize optPd l rs = os at KO RO hol
  have SM := Lib.hid (fun u v W hW hW2 => Calls.below (same_any u v os os (by omega) W hW hW2))
  rw [decide_eq_true (rfl : os = os)] at SM
  have HK := Lib.hid hok
  clear hok hol
  go_enter Try.func4, Try.ntmps4
  obtain ⟨p0, p1, p2, p3⟩ := S7.out.cells
  have C := Lib.hid (large_no A A2 l.length rs.length n n2 d wi c hl1 hl2 w7)
  go_wp2_with fail
  refine C.out.mono ?_
  rintro e w8 ⟨rfl, y8⟩
  have S8 := Lib.hid (S7.out.on y8)
  have HR := Lib.hid (HR.out.below y8)
  clear C S7 y8 p0 p1 p2 p3
  obtain ⟨p0, p1, p2, p3⟩ := S8.out.cells
  clear hw7
  go_wp2_with fail
  go_loopw [5] (fun i wr => ∃ k : Nat, i = .int .i64 k ∧ k ≤ l.length ∧ Hid (FaSt w (.slice A l.length n) l d wi c wr) ∧ Hid (LstRi wr (.slice A2 rs.length n2) rs)) (fun i _ => l.length - (intOf i).toNat)
  case atStart => exact ⟨0, rfl, Nat.zero_le _, S8, HR⟩
  case round =>
    clear S8 HR p0 p1 p2 p3
    obtain ⟨k, rfl, hk, S0, HR⟩ := hrel
    by_cases hlt : k < l.length
    · obtain ⟨⟨id, p, r, z, t, m⟩, hx⟩ := at_lt hlt
      obtain ⟨nm, hnm⟩ : ∃ nm, str id = nm := ⟨_, rfl⟩
      have gk : (k : Int) < (l.length : Int) := by omega
      have ht : Ix64 t := (HK.out _ (List.mem_iff_getElem?.2 ⟨_, hx⟩)).2.2
      obtain ⟨b, o, rfl, hb, r0, r1, r2, r3, r4, r5⟩ := six_at S0.out.lst hx hnm
      obtain ⟨p0, p1, p2, p3⟩ := S0.out.cells
      have C1 := Lib.hid (fun W (hW : Below wr.heap.size wr W) => far_bool (kcov_any id nm p r z t m ht (.slice A2 rs.length n2) rs hrl hrk W (HR.out.below hW)) hW)
      have C2 := Lib.hid (fun W (hW : Below wr.heap.size wr W) => far_bool (rcov_any id nm p r z t m ht (.slice A2 rs.length n2) rs hrl hrk W (HR.out.below hW)) hW)
      generalize covPd (id, p, r, z, t, m) rs = cv at C1 C2
      have g : (!(cv == cv)) = false := by cases cv <;> rfl
      have HX := Lib.hid hx
      have HN := Lib.hid hnm
      clear hx hnm hb ht
      go_wp2_with fail
      go_region_held3 (fun W => W.cell? ⟨w.heap.size, 0, none⟩ = some (.slice (some ⟨b, o, none⟩) l.length n) ∧ W.cell? ⟨b, o + k * 6, none⟩ = some (.string nm) ∧ W.cell? ⟨b, o + k * 6 + 1, none⟩ = some (.int .i64 p) ∧ W.cell? ⟨b, o + k * 6 + 2, none⟩ = some (.int .i64 r) ∧ W.cell? ⟨b, o + k * 6 + 3, none⟩ = some (.int .i64 z) ∧ W.cell? ⟨b, o + k * 6 + 4, none⟩ = some (.int .i64 t) ∧ W.cell? ⟨b, o + k * 6 + 5, none⟩ = some (.int .i64 m)) (first | assumption | (exact ⟨by assumption, by assumption, by assumption, by assumption, by assumption, by assumption, by assumption⟩)) (first
        | (go_at_call 13; with_reducible refine (C1.out _ (by first | exact Below.refl _ _ | exact (Below.refl _ _).drew)).mono ?_; rintro e w1 ⟨rfl, b1⟩; have x0 := (S0.out.on b1).cells.1; obtain ⟨b_x, o_x, e_x, -, x1, x2, x3, x4, x5, x6⟩ := six_at (S0.out.on b1).lst HX.out HN.out; cases e_x)
        | (go_at_call 14; with_reducible refine (C2.out _ b1).mono ?_; rintro e w2 ⟨rfl, b2⟩; have y0 := (S0.out.on b2).cells.1; obtain ⟨b_y, o_y, e_y, -, y1, y2, y3, y4, y5, y6⟩ := six_at (S0.out.on b2).lst HX.out HN.out; cases e_y))
      all_goals
        have S2 := Lib.hid (S0.out.on b2)
        have H2 := Lib.hid (HR.out.below b2)
        clear b1 b2 C1 C2
        go_wp2_with fail
        go_roundw
        case rel => exact ⟨k + 1, by go_num, by omega, S2, H2⟩
        case measure => simp [intOf]; omega
    · have dk : decide (k < l.length) = false := by rw [decide_eq_false_iff_not]; exact hlt
      obtain ⟨p0, p1, p2, p3⟩ := S0.out.cells
      clear hlt
      have C1 := Lib.hid (fun W (hW : Below wr.heap.size wr W) => far_listI (KO.out W (S0.out.on hW).lst (HR.out.below hW)) hW)
      go_wp2_with fail
      go_region_held3 (fun W => W.cell? ⟨w.heap.size, 0, none⟩ = some (.slice A l.length n) ∧ W.cell? ⟨w.heap.size, 1, none⟩ = some (.int .i64 d) ∧ W.cell? ⟨w.heap.size, 2, none⟩ = some (.int .i64 wi) ∧ W.cell? ⟨w.heap.size, 3, none⟩ = some (.int .i64 c)) (first | assumption | (exact ⟨by assumption, by assumption, by assumption, by assumption⟩)) (first
        | (go_at_call 16; with_reducible refine (C1.out _ (by first | exact Below.refl _ _ | exact (Below.refl _ _).drew)).mono ?_; rintro e w1 ⟨u1, rfl, l1, b1⟩; have S1 := Lib.hid (S0.out.on b1); have H1 := Lib.hid (HR.out.below b1); have L1 := Lib.hid l1; obtain ⟨x0, x1, x2, x3⟩ := S1.out.cells; have C2 := Lib.hid (fun W (hW : Below w1.heap.size w1 W) => far_listI (RO.out W (S1.out.on hW).lst (H1.out.below hW)) hW); clear C1 l1)
        | (go_at_call 17; with_reducible refine (C2.out _ (Below.refl _ _)).mono ?_; rintro e w2 ⟨u2, rfl, l2, b2⟩; have S2 := Lib.hid (S1.out.on b2); have M1 := Lib.hid (L1.out.below b2); have M2 := Lib.hid l2; obtain ⟨y0, y1, y2, y3⟩ := S2.out.cells; have C3 := Lib.hid (SM.out u1 u2 w2 M1.out M2.out); clear C2 l2)
        | (go_at_call 15; with_reducible refine C3.out.mono ?_; rintro e w3 ⟨rfl, b3⟩; have S3 := Lib.hid (S2.out.on b3); obtain ⟨z0, z1, z2, z3⟩ := S3.out.cells; have C4 := Lib.hid (ex_any w3); clear C3)
        | (go_at_call 10; with_reducible refine C4.out.mono ?_; rintro e w4 ⟨rfl, b4⟩; have S4 := Lib.hid (S3.out.on b4); obtain ⟨q0, q1, q2, q3⟩ := S4.out.cells; clear C4))
      all_goals
        go_wp2_with fail
        go_ret
        exact ⟨rfl, S4.out.below⟩
end Go.Proofs.Ytkpmmojfnhfflaa
