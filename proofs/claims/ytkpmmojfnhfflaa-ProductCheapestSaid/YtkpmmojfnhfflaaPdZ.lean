/-
  The reference's Options and Cheapest: what each call answers; nothing that existed before the call has changed behind it. Condition: ints of 64 bits, lists of at most 1000000 products.
-/
import Derived.Test.YtkpmmojfnhfflaaPdQ
import Derived.Test.YtkpmmojfnhfflaaSameI
namespace Go.Proofs.Ytkpmmojfnhfflaa
open Go.RowKit

set_option maxRecDepth 100000 in
set_option maxHeartbeats 4000000 in
theorem ropts_any (vl : Value) (l : List Pd) (d wi c : Int) (hl : l.length ≤ 1000000) (hok : OkPds l) (vr : Value) (rs : List Ri) (hrl : rs.length ≤ 9223372036854775807) (hrk : OkRis rs) (w : World) (h : LstPd w vl l) (hr : LstRi w vr rs) :
    Calls Try.prog 17 #[faV vl d wi c, vr] w fun e w' => ∃ u, e = .returned u ∧ LstI w' u (optPd l rs) ∧ Below w.heap.size w w' := by
  obtain ⟨w7, hw7⟩ : ∃ W, w.alloc (boxFa vl d wi c) = W := ⟨_, rfl⟩
  obtain ⟨b7, p0, p1, p2, p3, s7, -⟩ := box_fa hw7
  have B7 := Lib.hid b7
  have H := Lib.hid (h.below b7)
  have HR := Lib.hid (hr.below b7)
  have HK := Lib.hid hok
  have P0 := Lib.hid p0
  have S7 := Lib.hid s7
  obtain ⟨A, n, rfl, -, -, -⟩ := h
  obtain ⟨A2, n2, rfl, -, -, -⟩ := hr
  clear b7 hok s7
  go_enter Try.func17, Try.ntmps17
  go_wp2_with fail
  go_loopw [5, 6] (fun v i wr => ∃ k : Nat, i = .int .i64 k ∧ k ≤ l.length ∧ Hid (OwnI wr w7.heap.size v (optPd (l.take k) rs)) ∧ Hid (Below w7.heap.size w7 wr)) (fun _ i _ => l.length - (intOf i).toNat)
  case atStart => exact ⟨0, rfl, Nat.zero_le _, Lib.hid (OwnI.nil _ _), Lib.hid (Below.refl _ _)⟩
  case round =>
    clear p0 p1 p2 p3
    obtain ⟨k, rfl, hk, ho, HB⟩ := hrel
    have p0 := (HB.out.cell (p := ⟨w.heap.size, 0, none⟩) S7.out).trans P0.out
    by_cases hlt : k < l.length
    · obtain ⟨⟨id, p, r, z, t, m⟩, hx⟩ := at_lt hlt
      obtain ⟨nm, hnm⟩ : ∃ nm, str id = nm := ⟨_, rfl⟩
      obtain ⟨b, o, rfl, hb, r0, r1, r2, r3, r4, r5⟩ := six_at (H.out.below HB.out) hx hnm
      have gk : (k : Int) < (l.length : Int) := by omega
      have ht : Ix64 t := (HK.out _ (List.mem_iff_getElem?.2 ⟨_, hx⟩)).2.2
      have C := Lib.hid (rcov_any id nm p r z t m ht (.slice A2 rs.length n2) rs hrl hrk wr (HR.out.below HB.out))
      have hle := Lib.hid (show (optPd (l.take k) rs).length ≤ 1000000 by have := ix_le (fun p => covPd p rs) (l.take k); rw [List.length_take] at this; unfold optPd; omega)
      cases hc : covPd (id, p, r, z, t, m) rs with
      | true =>
        rw [hc] at C
        have E : Hid (optPd (l.take (k + 1)) rs = optPd (l.take k) rs ++ [(k : Int)]) := Lib.hid (ix_hit (p := fun p => covPd p rs) hx hc)
        clear hx hnm hb hc ht
        go_wp2_with fail
        refine C.out.mono ?_
        rintro e w8 ⟨rfl, b8⟩
        have B8 : Hid (Below w7.heap.size w7 w8) := HB.out.trans (b8.mono HB.out.size)
        have O8 := Lib.hid (OwnI.below ho.out b8)
        have Z8 := B8.out.size
        clear b8 HB ho C r0 r1 r2 r3 r4 r5 p0
        go_wp2_with (at_builtin; refine app_int _ rfl (.tmp 21) (.tmp 23) rfl w7.heap.size _ (optPd (l.take k) rs) k rfl (OwnI.alloc O8.out _) w8.heap.size _ (heap_alloc_new _ _) rfl rfl (by simp; omega) (by have := hle.out; omega) ?_; intro v1 w9 own1 b9)
        go_roundw
        case rel => exact ⟨k + 1, by go_num, by omega, Lib.hid (by rw [E.out]; exact own1), Lib.hid ((B8.out.trans ((Below.refl _ w8).alloc Z8 _)).trans b9)⟩
        case measure => simp [intOf]; omega
      | false =>
        rw [hc] at C
        have E : Hid (optPd (l.take (k + 1)) rs = optPd (l.take k) rs) := Lib.hid (ix_miss (p := fun p => covPd p rs) hx hc)
        clear hx hnm hb hc ht
        go_wp2_with fail
        refine C.out.mono ?_
        rintro e w8 ⟨rfl, b8⟩
        have B8 : Hid (Below w7.heap.size w7 w8) := HB.out.trans (b8.mono HB.out.size)
        have O8 : Hid (OwnI w8 w7.heap.size u5 (optPd (l.take (k + 1)) rs)) := Lib.hid (by rw [E.out]; exact OwnI.below ho.out b8)
        clear b8 HB ho C r0 r1 r2 r3 r4 r5 p0
        go_wp2_with fail
        go_roundw
        case rel => exact ⟨k + 1, by go_num, by omega, O8, B8⟩
        case measure => simp [intOf]; omega
    · have dk : decide (k < l.length) = false := by rw [decide_eq_false_iff_not]; exact hlt
      have R : Hid (OwnI wr w7.heap.size u5 (optPd l rs)) := Lib.hid (by have := ho.out; rw [List.take_of_length_le (by omega)] at this; exact this)
      clear hlt ho
      go_wp2_with fail
      go_ret
      exact ⟨_, rfl, R.out.lst, B7.out.trans (HB.out.mono B7.out.size)⟩

/-! ### Cheapest -/
theorem ret_che2 {a b c d : Int} {e f : Bool} {q : Int × Int × Bool} (h : q = (b, d, f)) (k : a = b) (j : c = d) (i : e = f) : Ending.returned (.tuple #[.int .i64 a, .int .i64 c, .bool e]) = .returned (.tuple #[.int .i64 q.1, .int .i64 q.2.1, .bool q.2.2]) := by rw [h, k, j, i]
/-- An element of a list of ints. -/
theorem int_at {w : World} {A : Option Addr} {n c : Nat} {l : List Int} (h : LstI w (.slice A n c) l) {i : Nat} {x : Int} (hx : l[i]? = some x) : ∃ b o, A = some ⟨b, o, none⟩ ∧ b < w.heap.size ∧ w.cell? ⟨b, o + i, none⟩ = some (.int .i64 x) := by
  have hi := (List.getElem?_eq_some_iff.1 hx).1
  obtain ⟨A', c', e, -, -, hc⟩ := h
  cases e
  obtain ⟨b, o, rfl, hb, hcell⟩ := hc (by omega)
  exact ⟨b, o, rfl, hb, hcell i _ (ints_at l i x hx)⟩
set_option maxRecDepth 100000 in
set_option maxHeartbeats 4000000 in
theorem rche_any (vl : Value) (l : List Pd) (d wi c : Int) (hl : l.length ≤ 1000000) (hok : OkPds l) (vr : Value) (rs : List Ri) (hrl : rs.length ≤ 9223372036854775807) (hrk : OkRis rs) (w : World) (h : LstPd w vl l) (hr : LstRi w vr rs) :
    Calls Try.prog 21 #[faV vl d wi c, vr] w fun e w' => e = .returned (.tuple #[.int .i64 ((chA d wi c l rs).1), .int .i64 ((chA d wi c l rs).2.1), .bool ((chA d wi c l rs).2.2)]) ∧ Below w.heap.size w w' := by
  obtain ⟨w7, hw7⟩ : ∃ W, w.alloc (boxFa vl d wi c) = W := ⟨_, rfl⟩
  obtain ⟨b7, p0, p1, p2, p3, s7, -⟩ := box_fa hw7
  have B7 := Lib.hid b7
  have H := Lib.hid (h.below b7)
  have C1 := Lib.hid (ropts_any vl l d wi c hl hok vr rs hrl hrk w7 (h.below b7) (hr.below b7))
  have C2 := Lib.hid (fun W hW => rcheck_any vl l d wi c (by omega) W hW)
  obtain ⟨A, n, rfl, -, -, -⟩ := h
  obtain ⟨A2, n2, rfl, -, -, -⟩ := hr
  obtain ⟨ans, hans⟩ : ∃ q, chA d wi c l rs = q := ⟨_, rfl⟩
  rw [hans]
  obtain ⟨os, hos⟩ : ∃ os, optPd l rs = os := ⟨_, rfl⟩
  rw [hos] at C1
  have OS : Hid (ixs (fun p => covPd p rs) l = os) := hos
  have hol : os.length ≤ 1000000 := by rw [← hos]; have := ix_le (fun p => covPd p rs) l; unfold optPd; omega
  clear b7 hok hrk hos
  by_cases hv : (chkPd d wi c l).2 = 0
  · have CA := Lib.hid (hans.symm.trans (chA_of (rs := rs) hv))
    obtain ⟨a0, ha0⟩ : ∃ a, (chkPd d wi c l).1 = a := ⟨_, rfl⟩
    rw [hv, ha0] at C2
    clear hv hans ha0
    go_enter Try.func21, Try.ntmps21
    go_wp2_with fail
    refine C1.out.mono ?_
    rintro e w8 ⟨u, rfl, l8, b8⟩
    have q0 := (b8.cell (p := ⟨w.heap.size, 0, none⟩) s7).trans p0
    have q1 := (b8.cell (p := ⟨w.heap.size, 1, none⟩) s7).trans p1
    have q2 := (b8.cell (p := ⟨w.heap.size, 2, none⟩) s7).trans p2
    have q3 := (b8.cell (p := ⟨w.heap.size, 3, none⟩) s7).trans p3
    have s8 : w.heap.size < w8.heap.size := Nat.lt_of_lt_of_le s7 b8.size
    have B8 : Hid (Below w.heap.size w w8) := B7.out.trans (b8.mono B7.out.size)
    have H8 := Lib.hid (H.out.below b8)
    have L8 := Lib.hid l8
    obtain ⟨AO, cO, rfl, -, -, -⟩ := l8
    clear b8 B7 H C1 p0 p1 p2 p3 s7
    go_wp2_with fail
    refine (C2.out _ H8.out).mono ?_
    rintro e w9 ⟨rfl, b9⟩
    have p0 := (b9.cell (p := ⟨w.heap.size, 0, none⟩) s8).trans q0
    have s9 : Hid (w.heap.size < w9.heap.size) := Nat.lt_of_lt_of_le s8 b9.size
    have B9 : Hid (Below w.heap.size w w9) := B8.out.trans (b9.mono B8.out.size)
    have H9 := Lib.hid (H8.out.below b9)
    have L9 := Lib.hid (L8.out.below b9)
    clear b9 B8 H8 L8 C2 q0 q1 q2 q3 s8
    by_cases h0 : os.length = 0
    · have R : Hid (ans = (0, 0, false)) := Lib.hid (by rw [CA.out, min_none (by rw [OS.out]; exact h0)]; rfl)
      have g0 : ((os.length : Int) == 0) = true := beq_true (by omega)
      clear h0 CA
      go_wp2_with fail
      go_ret3
      exact ⟨ret_che2 R.out rfl rfl rfl, B9.out⟩
    have g0 : ((os.length : Int) == 0) = false := beq_false (by omega)
    obtain ⟨z0, hz0⟩ := at_lt (show 0 < os.length by omega)
    obtain ⟨j0, x0, rfl, hx0, -⟩ := ix_val (by rw [OS.out]; exact hz0)
    obtain ⟨bo, oo, rfl, hbo, m0⟩ := int_at L9.out hz0
    rw [Nat.add_zero] at m0
    have gp : (0 : Int) < (os.length : Int) := by omega
    have gp' : 0 < os.length := by omega
    have M0 := Lib.hid (min_start hz0 hx0)
    have P0 := Lib.hid p0
    have J0 := Lib.hid (List.getElem?_eq_some_iff.1 hx0).1
    clear hz0 hx0 hbo h0
    go_wp2_with fail
    go_loopw [10, 11] (fun v i wr => ∃ k b : Nat, i = .int .i64 k ∧ k ≤ os.length ∧ v = .int .i64 b ∧ Hid (MinO l os k b) ∧ Hid (b < l.length) ∧ Hid (∃ n, wr = w9.drewN n)) (fun _ i _ => os.length - (intOf i).toNat)
    case atStart => exact ⟨0, j0, rfl, Nat.zero_le _, rfl, M0, J0, Lib.hid ⟨0, rfl⟩⟩
    case round =>
      clear m0 p0 M0
      obtain ⟨k, b, rfl, hk, rfl, hm, hb, hn⟩ := hrel
      have bn := drew_below hn.out
      have p0 := (bn.cell (p := ⟨w.heap.size, 0, none⟩) s9.out).trans P0.out
      obtain ⟨⟨id, p, r, z, t, m⟩, hx⟩ := at_lt hb.out
      obtain ⟨nm, hnm⟩ : ∃ nm, str id = nm := ⟨_, rfl⟩
      obtain ⟨c1, o1, rfl, hc1, -, r1, -⟩ := six_at (H9.out.below bn) hx hnm
      have gb : (b : Int) < (l.length : Int) := by have := hb.out; omega
      by_cases hlt : k < os.length
      · obtain ⟨zz, hz⟩ := at_lt hlt
        obtain ⟨j, ⟨id', p', r', z', t', m'⟩, rfl, hy, -⟩ := ix_val (by rw [OS.out]; exact hz)
        obtain ⟨nm', hnm'⟩ : ∃ nm, str id' = nm := ⟨_, rfl⟩
        obtain ⟨c2, o2, e2, hc2, -, q1, -⟩ := six_at (H9.out.below bn) hy hnm'
        cases e2
        obtain ⟨bo', oo', e3, -, m0⟩ := int_at (L9.out.below bn) hz
        cases e3
        have gk : (k : Int) < (os.length : Int) := by omega
        have gj : (j : Int) < (l.length : Int) := by have := (List.getElem?_eq_some_iff.1 hy).1; omega
        by_cases hpp : p' < p
        · have N := Lib.hid (min_less hm.out hz hx hy hpp)
          have J := Lib.hid (List.getElem?_eq_some_iff.1 hy).1
          clear hx hy hz hnm hnm' hc1 hc2 bn hm hb
          go_wp2_with fail
          go_quiet (fail)
          have hq := drew_on hn nq
          have m0' : (wr.drewN nq).cell? ⟨bo, oo + k, none⟩ = some (.int .i64 (j : Int)) := m0
          generalize wr.drewN nq = w10 at hq m0' ⊢
          go_wp2_with fail
          go_roundw
          case rel => exact ⟨k + 1, j, by go_num, by omega, rfl, N, J, hq⟩
          case measure => simp [intOf]; omega
        · have N := Lib.hid (min_more hm.out hz hx hy hpp)
          have g := decide_eq_false hpp
          clear hx hy hz hnm hnm' hc1 hc2 bn hm hpp
          go_wp2_with fail
          go_quiet (fail)
          have hq := drew_on hn nq
          generalize wr.drewN nq = w10 at hq ⊢
          go_wp2_with fail
          go_roundw
          case rel => exact ⟨k + 1, b, by go_num, by omega, rfl, N, hb, hq⟩
          case measure => simp [intOf]; omega
      · have dk : decide (k < os.length) = false := by rw [decide_eq_false_iff_not]; exact hlt
        have hke : k = os.length := by omega
        have R : Hid (ans = ((b : Int), p, true)) := Lib.hid (by
          have e := hm.out
          rw [hke, ← OS.out] at e
          rw [CA.out, min_end e hx]
          rfl)
        clear hlt hke hx hnm hc1 hm hb bn CA
        go_wp2_with fail
        go_quiet (fail)
        have hq := drew_on hn nq
        generalize wr.drewN nq = w10 at hq ⊢
        go_wp2_with fail
        go_ret3
        exact ⟨ret_che2 R.out rfl rfl rfl, B9.out.trans ((drew_below hq.out).mono B9.out.size)⟩
  · have R := Lib.hid (hans.symm.trans (chA_bad (rs := rs) hv))
    have ne := bne_true hv
    generalize (chkPd d wi c l).1 = a0 at C2
    generalize (chkPd d wi c l).2 = a1 at C2 ne
    clear hv hans
    go_enter Try.func21, Try.ntmps21
    go_wp2_with fail
    refine C1.out.mono ?_
    rintro e w8 ⟨u, rfl, l8, b8⟩
    have q0 := (b8.cell (p := ⟨w.heap.size, 0, none⟩) s7).trans p0
    have q1 := (b8.cell (p := ⟨w.heap.size, 1, none⟩) s7).trans p1
    have q2 := (b8.cell (p := ⟨w.heap.size, 2, none⟩) s7).trans p2
    have q3 := (b8.cell (p := ⟨w.heap.size, 3, none⟩) s7).trans p3
    have B8 : Hid (Below w.heap.size w w8) := B7.out.trans (b8.mono B7.out.size)
    have H8 := Lib.hid (H.out.below b8)
    clear b8 B7 H C1 p0 p1 p2 p3 s7 l8
    go_wp2_with fail
    refine (C2.out _ H8.out).mono ?_
    rintro e w9 ⟨rfl, b9⟩
    have B9 : Hid (Below w.heap.size w w9) := B8.out.trans (b9.mono B8.out.size)
    clear b9 B8 H8 C2 q0 q1 q2 q3
    go_wp2_with fail
    go_ret3
    exact ⟨ret_che2 R.out rfl rfl rfl, B9.out⟩
end Go.Proofs.Ytkpmmojfnhfflaa
