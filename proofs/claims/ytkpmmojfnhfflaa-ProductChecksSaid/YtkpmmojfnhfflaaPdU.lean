/-
  union and Covers of package product: what each call answers; nothing that existed before the call has changed behind it. Condition: times and seconds of 64 bits.
-/
import Derived.Test.YtkpmmojfnhfflaaPdT
import Derived.Test.YtkpmmojfnhfflaaPdO
import Derived.Test.YtkpmmojfnhfflaaSameI
namespace Go.Proofs.Ytkpmmojfnhfflaa
open Go.RowKit

theorem uni_lt (f : Ri → Int) (l : List Ri) : W64 (uniW f l) := by
  have : ∀ (l : List Ri) (s : Nat), W64 s → W64 (l.foldl (fun s r => s ||| wordR (f r)) s) := by
    intro l
    induction l with
    | nil => exact fun s h => h
    | cons x r ih => exact fun s h => ih _ (or_lt h (word_lt _))
  exact this l 0 (by decide)
theorem sub_diff {s t : Nat} (hs : W64 s) (ht : W64 t) : decide (diffB s t = 0) = subW s t := by
  rw [Bool.eq_iff_iff, decide_eq_true_iff, subW_iff]
  constructor
  · intro h j hj hb
    have e := diff_bit s t ht j hj
    rw [h, Nat.zero_testBit, hb] at e
    simpa using e.symm
  · intro h
    refine same_bits (diff_lt hs) (by decide) fun j hj => ?_
    rw [diff_bit _ _ ht j hj, Nat.zero_testBit]
    cases hb : s.testBit j with
    | false => rfl
    | true => rw [h j hj hb]; rfl
section
variable {p : Pd} {l : List Ri}
theorem cov_few (h : ¬ (1 ≤ l.length ∧ (l.length : Int) ≤ p.2.2.1)) : covPd p l = false := Bool.eq_false_iff.2 fun e => h (cov_iff.1 e).1
theorem cov_late (h : ¬ (lstD l - fstD l ≤ p.2.2.2.2.1)) : covPd p l = false := Bool.eq_false_iff.2 fun e => h (cov_iff.1 e).2.2.2
theorem cov_zones (h : ¬ (((elems (uniW znR l)).length : Int) ≤ p.2.2.2.1)) : covPd p l = false := Bool.eq_false_iff.2 fun e => h (cov_iff.1 e).2.1
theorem cov_rest (h : 1 ≤ l.length ∧ (l.length : Int) ≤ p.2.2.1) (h2 : lstD l - fstD l ≤ p.2.2.2.2.1) (h3 : ((elems (uniW znR l)).length : Int) ≤ p.2.2.2.1) : covPd p l = subW (uniW mdR l) (wordR p.2.2.2.2.2) := by
  rw [Bool.eq_iff_iff, cov_iff]
  exact ⟨fun e => e.2.2.1, fun e => ⟨h, h3, e, h2⟩⟩
theorem cov_modes (h : subW (uniW mdR l) (wordR p.2.2.2.2.2) = false) : covPd p l = false := Bool.eq_false_iff.2 fun e => by have := (cov_iff.1 e).2.2.1; rw [h] at this; cases this
theorem cov_time (h : 1 ≤ l.length ∧ (l.length : Int) ≤ p.2.2.1) (h3 : ((elems (uniW znR l)).length : Int) ≤ p.2.2.2.1) (h4 : subW (uniW mdR l) (wordR p.2.2.2.2.2) = true) : covPd p l = decide (lstD l - fstD l ≤ p.2.2.2.2.1) := by
  rw [Bool.eq_iff_iff, cov_iff, decide_eq_true_iff]
  exact ⟨fun e => e.2.2.2, fun e => ⟨h, h3, h4, e⟩⟩
end

/-! ### The unions -/
abbrev unV (g : Nat) : Value := .func (.func g) #[] #[]
theorem zn_enter : ∀ args W, (callFunc 30 args).run Try.prog W = .ok (.enter 30 args) W := enter_of Try.func30 (by kernel_rfl) (by kernel_rfl)
theorem md_enter : ∀ args W, (callFunc 31 args).run Try.prog W = .ok (.enter 31 args) W := enter_of Try.func31 (by kernel_rfl) (by kernel_rfl)
theorem kzn_any (x : Ri) (w : World) : Calls Try.prog 30 #[riV x.1 x.2.1 x.2.2.1 x.2.2.2] w fun e w' => e = .returned (.int .i64 (znR x)) ∧ Below w.heap.size w w' := by
  obtain ⟨t, a, b, v⟩ := x
  obtain ⟨w7, hw7⟩ : ∃ W, w.alloc (boxRi t a b v) = W := ⟨_, rfl⟩
  obtain ⟨b7, p0, p1, p2, p3, -⟩ := box_ri hw7
  have B7 := Lib.hid b7
  clear b7
  go_enter Try.func30, Try.ntmps30
  go_wp2_with fail
  go_ret
  exact ⟨rfl, B7.out⟩
theorem kmd_any (x : Ri) (w : World) : Calls Try.prog 31 #[riV x.1 x.2.1 x.2.2.1 x.2.2.2] w fun e w' => e = .returned (.int .i64 (mdR x)) ∧ Below w.heap.size w w' := by
  obtain ⟨t, a, b, v⟩ := x
  obtain ⟨w7, hw7⟩ : ∃ W, w.alloc (boxRi t a b v) = W := ⟨_, rfl⟩
  obtain ⟨b7, p0, p1, p2, p3, -⟩ := box_ri hw7
  have B7 := Lib.hid b7
  clear b7
  go_enter Try.func31, Try.ntmps31
  go_wp2_with fail
  go_ret
  exact ⟨rfl, B7.out⟩
set_option maxRecDepth 100000 in
set_option maxHeartbeats 4000000 in
theorem kuni_any (g : Nat) (f : Ri → Int) (ce : ∀ args W, (callFunc g args).run Try.prog W = .ok (.enter g args) W) (hp : ∀ (x : Ri) (w : World), Calls Try.prog g #[riV x.1 x.2.1 x.2.2.1 x.2.2.2] w fun e w' => e = .returned (.int .i64 (f x)) ∧ Below w.heap.size w w')
    (vl : Value) (l : List Ri) (hl : l.length ≤ 9223372036854775807) (w : World) (h : LstRi w vl l) : Calls Try.prog 29 #[vl, unV g] w fun e w' => e = .returned (.int .u64 ((uniW f l : Nat) : Int)) ∧ Below w.heap.size w w' := by
  have H := Lib.hid h
  have HP := Lib.hid hp
  obtain ⟨A, n, rfl, -, -, -⟩ := h
  clear hp
  obtain ⟨u, hu⟩ : ∃ u, uniW f l = u := ⟨_, rfl⟩
  rw [hu]
  have HU := Lib.hid hu
  clear hu
  go_enter Try.func29, Try.ntmps29
  go_wp2_with fail
  go_loopw [5, 10] (fun a i wr => ∃ k q : Nat, i = .int .i64 k ∧ k ≤ l.length ∧ a = .int .u64 q ∧ Hid (q = uniW f (l.take k)) ∧ Hid (Below w.heap.size w wr)) (fun _ i _ => l.length - (intOf i).toNat)
  case atStart => exact ⟨0, 0, rfl, Nat.zero_le _, rfl, Lib.hid rfl, Lib.hid (Below.refl _ _)⟩
  case round =>
    obtain ⟨k, q, rfl, hk, rfl, hq, HB⟩ := hrel
    by_cases hlt : k < l.length
    · obtain ⟨⟨t, a, b, v⟩, hx⟩ := at_lt hlt
      obtain ⟨c, o, rfl, hc, r0, r1, r2, r3⟩ := four_at (H.out.below HB.out) hx
      have gk : (k : Int) < (l.length : Int) := by omega
      obtain ⟨w7, hw7⟩ : ∃ W, wr.alloc (boxRi t a b v) = W := ⟨_, rfl⟩
      obtain ⟨b7, p0, p1, p2, p3, s7⟩ := box_ri hw7
      have B7 : Hid (Below w.heap.size w w7) := HB.out.trans (b7.mono HB.out.size)
      have C := Lib.hid (HP.out (t, a, b, v) w7)
      have hw : W64 q := by rw [hq.out]; exact uni_lt _ _
      have N : Hid (q ||| wordR (f (t, a, b, v)) = uniW f (l.take (k + 1))) := by
        show _ = _
        rw [uni_next hx, ← hq.out]
      have E := wrap_word (f (t, a, b, v))
      have M := Lib.hid (fun W => union_any q (wordR (f (t, a, b, v))) hw (word_lt _) W)
      generalize f (t, a, b, v) = y at C E M N
      generalize wordR y = z at E M N
      generalize q ||| z = q2 at M N
      clear hx hq hc HB b7 s7 hw hlt
      go_wp2_with fail
      refine C.out.mono ?_
      rintro e w8 ⟨rfl, b8⟩
      have B8 : Hid (Below w.heap.size w w8) := B7.out.trans (b8.mono B7.out.size)
      clear b8 B7 C p0 p1 p2 p3
      go_wp2_with fail
      refine (M.out _).mono ?_
      rintro e w' ⟨rfl, rfl⟩
      go_wp2_with fail
      go_roundw
      case rel => exact ⟨k + 1, q2, by go_num, by omega, rfl, N, B8⟩
      case measure => simp [intOf]; omega
    · have d : decide (k < l.length) = false := by rw [decide_eq_false_iff_not]; exact hlt
      have R := Lib.hid (show q = u by rw [hq.out, ← HU.out, List.take_of_length_le (by omega)])
      clear hlt hq HP
      go_wp2_with fail
      go_ret
      exact ⟨ret_uw R.out, HB.out⟩

/-! ### Covers -/
set_option maxRecDepth 100000 in
set_option maxHeartbeats 4000000 in
theorem kcov_any (id : List UInt8) (s : ByteArray) (p r z t m : Int) (ht : Ix64 t) (vl : Value) (l : List Ri) (hl : l.length ≤ 9223372036854775807) (hok : OkRis l) (w : World) (h : LstRi w vl l) :
    Calls Try.prog 13 #[pdV s p r z t m, vl] w fun e w' => e = .returned (.bool (covPd (id, p, r, z, t, m) l)) ∧ Below w.heap.size w w' := by
  obtain ⟨w7, hw7⟩ : ∃ W, w.alloc (boxP s p r z t m) = W := ⟨_, rfl⟩
  obtain ⟨b7, p0, p1, p2, p3, p4, p5, s7⟩ := box_pd hw7
  have h7 := h.below b7
  have B7 := Lib.hid b7
  obtain ⟨A, n, rfl, -, -, -⟩ := _root_.id h7
  clear b7 h
  by_cases h0 : l.length = 0
  · have R := Lib.hid (cov_few (p := (id, p, r, z, t, m)) (l := l) (by omega))
    have g0 : ((l.length : Int) == 0) = true := beq_true (by omega)
    clear h0 h7 s7
    go_enter Try.func13, Try.ntmps13
    go_wp2_with fail
    go_ret
    exact ⟨ret_bool R.out.symm, B7.out⟩
  have g0 : ((l.length : Int) == 0) = false := beq_false (by omega)
  by_cases h1 : r < (l.length : Int)
  · have R := Lib.hid (cov_few (p := (id, p, r, z, t, m)) (l := l) (by simp only; omega))
    clear h0 h7 s7
    go_enter Try.func13, Try.ntmps13
    go_wp2_with fail
    go_ret
    exact ⟨ret_bool R.out.symm, B7.out⟩
  have g1 : decide (r < (l.length : Int)) = false := decide_eq_false h1
  have LN : Hid (1 ≤ l.length ∧ (l.length : Int) ≤ r) := Lib.hid ⟨by omega, by omega⟩
  obtain ⟨⟨x0, x1, x2, x3⟩, hx⟩ := at_lt (show 0 < l.length by omega)
  obtain ⟨q, hq⟩ : ∃ q, l.length - 1 = q := ⟨_, rfl⟩
  obtain ⟨⟨y0, y1, y2, y3⟩, hy⟩ := at_lt (show q < l.length by omega)
  have hD : lstD l - fstD l = y0 - x0 := by rw [lst_at (by rw [hq]; exact hy), fst_at hx]
  have o1 : Ix64 x0 := hok _ (List.mem_iff_getElem?.2 ⟨_, hx⟩)
  have o2 : Ix64 y0 := hok _ (List.mem_iff_getElem?.2 ⟨_, hy⟩)
  obtain ⟨b, f, rfl, hb, r0, -, -, -⟩ := four_at h7 hx
  obtain ⟨b', f', hA, hb', q0, -, -, -⟩ := four_at h7 hy
  cases hA
  rw [Nat.zero_mul, Nat.add_zero] at r0
  have gm : (l.length : Int) - 1 = (q : Int) := by omega
  have wq : IntKind.i64.wrap (q : Int) = (q : Int) := IntWalk.i64_in _ (by omega)
  have gl : (q : Int) < (l.length : Int) := by omega
  have g2 : (0 : Int) < (l.length : Int) := by omega
  have g2' : 0 < l.length := by omega
  have C := Lib.hid (fun W => kwit_any x0 y0 t o1 o2 ht W)
  have H7 := Lib.hid h7
  clear hx hy h7 hb hb' hq h0 h1 o1 o2 hok
  by_cases hd : y0 - x0 ≤ t
  · rw [decide_eq_true hd] at C
    have HD : Hid (lstD l - fstD l ≤ t) := Lib.hid (by rw [hD]; exact hd)
    have Z := Lib.hid (fun W hW => kuni_any 30 znR zn_enter kzn_any (.slice (some ⟨b, f, none⟩) l.length n) l hl W hW)
    have M := Lib.hid (fun W hW => kuni_any 31 mdR md_enter kmd_any (.slice (some ⟨b, f, none⟩) l.length n) l hl W hW)
    have LZ := Lib.hid (fun W => len_any (uniW znR l) (uni_lt _ _) W)
    have WM := Lib.hid (fun W => within_any (uniW mdR l) (wordR m) (uni_lt _ _) (word_lt _) W)
    rw [sub_diff (uni_lt _ _) (word_lt _)] at WM
    have E := wrap_word m
    have RZ := Lib.hid (fun hz => cov_zones (p := (id, p, r, z, t, m)) (l := l) hz)
    have RR := Lib.hid (fun hz => cov_rest (p := (id, p, r, z, t, m)) (l := l) LN.out HD.out hz)
    simp only at RZ RR
    obtain ⟨ans, hans⟩ : ∃ a, covPd (id, p, r, z, t, m) l = a := ⟨_, rfl⟩
    rw [hans] at RZ RR ⊢
    have ze := zn_enter
    have me := md_enter
    generalize uniW znR l = uz at Z LZ RZ RR
    generalize uniW mdR l = um at M WM RR
    generalize ((elems uz).length : Nat) = ez at LZ RZ RR
    generalize subW um (wordR m) = ws at WM RR
    generalize wordR m = wm at E WM
    clear hans hD hd
    go_enter Try.func13, Try.ntmps13
    go_wp2_with fail
    go_quiet ((go_at_call 28; with_reducible exact quiet_of C.out _ _))
    have b8 := below_drewN (Below.refl w7.heap.size w7) nq
    generalize w7.drewN nq = w8 at b8 ⊢
    have k2 := (b8.cell (p := ⟨w.heap.size, 3, none⟩) s7).trans p3
    have k5 := (b8.cell (p := ⟨w.heap.size, 5, none⟩) s7).trans p5
    have s8 : w.heap.size < w8.heap.size := Nat.lt_of_lt_of_le s7 b8.size
    have H8 := Lib.hid (H7.out.below b8)
    have B8 : Hid (Below w.heap.size w w8) := B7.out.trans (b8.mono B7.out.size)
    clear b8 p0 p1 p2 p3 p4 p5 H7 B7 s7 r0 q0
    go_wp2_with fail
    refine (Z.out _ H8.out).mono ?_
    rintro e w9 ⟨rfl, b9⟩
    have j2 := (b9.cell (p := ⟨w.heap.size, 3, none⟩) s8).trans k2
    have j5 := (b9.cell (p := ⟨w.heap.size, 5, none⟩) s8).trans k5
    have s9 : w.heap.size < w9.heap.size := Nat.lt_of_lt_of_le s8 b9.size
    have H9 := Lib.hid (H8.out.below b9)
    have B9 : Hid (Below w.heap.size w w9) := B8.out.trans (b9.mono B8.out.size)
    clear b9 k2 k5 H8 B8 s8 Z
    go_wp2_with fail
    refine (M.out _ H9.out).mono ?_
    rintro e w10 ⟨rfl, b10⟩
    have i2 := (b10.cell (p := ⟨w.heap.size, 3, none⟩) s9).trans j2
    have i5 := (b10.cell (p := ⟨w.heap.size, 5, none⟩) s9).trans j5
    have B10 : Hid (Below w.heap.size w w10) := B9.out.trans (b10.mono B9.out.size)
    clear b10 j2 j5 H9 B9 s9 M
    by_cases hz : (ez : Int) ≤ z
    · have R := Lib.hid (RR.out hz)
      clear RZ RR
      go_wp2_with fail
      go_quiet (first | (go_at_call 32; with_reducible exact quiet_of LZ.out _ _) | (go_at_call 33; with_reducible exact quiet_of WM.out _ _))
      go_wp2_with fail
      go_ret
      exact ⟨ret_bool R.out.symm, below_drewN B10.out _⟩
    · have R := Lib.hid (RZ.out (by omega))
      have gz : decide ((ez : Int) ≤ z) = false := decide_eq_false hz
      clear RZ RR hz
      go_wp2_with fail
      go_quiet (first | (go_at_call 32; with_reducible exact quiet_of LZ.out _ _) | (go_at_call 33; with_reducible exact quiet_of WM.out _ _))
      go_wp2_with fail
      go_ret
      exact ⟨ret_bool R.out.symm, below_drewN B10.out _⟩
  · rw [decide_eq_false hd] at C
    have R := Lib.hid (cov_late (p := (id, p, r, z, t, m)) (l := l) (by rw [hD]; exact hd))
    generalize covPd (id, p, r, z, t, m) l = ans at R ⊢
    clear hD hd H7 s7
    go_enter Try.func13, Try.ntmps13
    go_wp2_with fail
    go_quiet ((go_at_call 28; with_reducible exact quiet_of C.out _ _))
    go_wp2_with fail
    go_ret
    exact ⟨ret_bool R.out.symm, below_drewN B7.out _⟩
end Go.Proofs.Ytkpmmojfnhfflaa
