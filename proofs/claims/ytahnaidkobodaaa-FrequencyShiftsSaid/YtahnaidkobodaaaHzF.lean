/-
  fits of the reference of package frequency: what it answers; nothing that existed before the call has changed behind it. Condition: times of 64 bits, lists of at most 1000000 calls, a sound frequency.
-/
import Derived.Test.YtahnaidkobodaaaHzV
namespace Go.Proofs.Ytahnaidkobodaaa
open Go.RowKit

theorem err_ten {l : List Cl} {st : Int} (h : 0 ≤ st ∧ st ≤ 172800) : errC l st = 10 ↔ fitC l st = false := by
  by_cases h0 : l.length = 0
  · rw [err_none h0]
    obtain rfl := List.length_eq_zero_iff.1 h0
    rw [fit_done (l := []) h (fun j x hj => by simp at hj)]
    simp
  · cases hf : fitC l st with
    | true => rw [err_yes h0 hf]; simp
    | false => rw [err_no h0 hf]; simp
theorem end_in {f : Fq} (h : sndF f = true) : 0 ≤ endF f ∧ endF f ≤ 172800 := by
  have h1 := nth_low h (cntF f - 1)
  have h2 := (cnt_lt h (cntF f - 1)).1 (by have := cnt_pos h; omega)
  obtain ⟨t, a, b, e⟩ := f
  have h3 := snd_iff.1 h
  unfold endF
  simp only at h1 h2
  omega
theorem far_calls {f : FuncId} {args : Array Value} {w W : World} {l : List Cl} {z : Int} (h : Calls Try.prog f args W fun e w' => ∃ u, e = .returned (.tuple #[u, .int .i64 z]) ∧ OwnC w' W.heap.size u l ∧ Below W.heap.size W w') (hb : Below w.heap.size w W) : Calls Try.prog f args W fun e w' => ∃ u, e = .returned (.tuple #[u, .int .i64 z]) ∧ Below w.heap.size w w' :=
  h.mono fun _ _ ⟨u, h1, _, h3⟩ => ⟨u, h1, hb.trans (h3.mono hb.size)⟩
set_option maxRecDepth 100000 in
set_option maxHeartbeats 8000000 in
theorem rfits_any (s : ByteArray) (r c : Int) (q : Bool) (v : Value) (l : List Cl) (hl : l.length ≤ 1000000) (hs : OkS l) (t a b y : Int) (hf : sndF (t, a, b, y) = true) (w : World) (h : LstC w v l) :
    Calls Try.prog 27 #[.agg #[.string s, .int .i64 r, .int .i64 c, .bool q, v], fqV t a b y] w fun e w' => e = .returned (.bool (allF l (t, a, b, y))) ∧ Below w.heap.size w w' := by
  obtain ⟨w7, hw7, z7, ra, rb, b7⟩ := box_both w (boxT s r c q v) (boxF t a b y)
  obtain ⟨q0, q1, q2, q3⟩ := row_fq rb
  have B7 := Lib.hid b7
  have RA := Lib.hid ra
  have Z7 := Lib.hid z7
  have H := Lib.hid (h.below b7)
  obtain ⟨A, n, rfl, -, -, -⟩ := h
  have ha : 0 ≤ a ∧ a ≤ 172800 := by have := snd_iff.1 hf; omega
  have hz := end_in hf
  have T1 := Lib.hid (err_ten (l := l) ha)
  have T2 := Lib.hid (err_ten (l := l) hz)
  have F1 := Lib.hid (first_at hf)
  have F2 := Lib.hid (end_at hf)
  have LL := lst_len (t, a, b, y)
  have LE := cnt_le hf
  have LP := cnt_pos hf
  have C0 := Lib.hid (rsts_any t a b y w7)
  rw [sts_yes hf] at C0
  have C1 := Lib.hid (fun x W hW => rcalls_any s r c q (.slice A l.length n) l hl hs x W hW)
  unfold allF
  show Calls _ _ _ _ fun e w' => e = .returned (.bool (fitC l a && fitC l (endF (t, a, b, y)))) ∧ _
  generalize hN : (lstF (t, a, b, y)).length = N at F2
  obtain ⟨k, hk⟩ : ∃ k, N - 1 = k := ⟨_, rfl⟩
  rw [hk] at F2
  have e1 : (N : Int) - 1 = (k : Int) := by omega
  have kle : k ≤ 172800 := by omega
  have kn : (k : Int) < (N : Int) := by omega
  have wk : IntKind.i64.wrap (k : Int) = (k : Int) := IntWalk.i64_in _ (by omega)
  have gn : (0 : Int) < (N : Int) := by omega
  have gn' : 0 < N := by omega
  have HN := Lib.hid hN
  generalize endF (t, a, b, y) = E at T2 F2 ⊢
  generalize lstF (t, a, b, y) = ls at C0 F1 F2 HN
  obtain ⟨R0, hR0⟩ : ∃ R0, (fitC l a && fitC l E) = R0 := ⟨_, rfl⟩
  rw [hR0]
  have HR := Lib.hid hR0
  clear hR0
  clear hf ha hz b7 ra rb z7 LL LE LP hN hk
  go_enter Try.func27, Try.ntmps27
  go_wp2_with fail
  refine C0.out.mono ?_
  rintro e w1 ⟨u, rfl, o1, b1⟩
  have I1 := Lib.hid (OwnI.lst o1)
  have B1 : Hid (Below w.heap.size w w1) := B7.out.trans (b1.mono B7.out.size)
  have RA1 : Hid (w1.heap[w.heap.size]? = some (boxT s r c q (.slice A l.length n))) := (b1.block _ (by rw [Z7.out]; omega)).trans RA.out
  have Z1 : Hid (w.heap.size + 1 < w1.heap.size) := Nat.lt_of_lt_of_le (by rw [Z7.out]; omega) b1.size
  have H1 := Lib.hid (H.out.below b1)
  obtain ⟨A1, c1, rfl⟩ := own_shape' o1
  obtain ⟨g, o, rfl, hg, m0⟩ := int_cell I1.out F1.out
  obtain ⟨g', o', e', -, m1⟩ := int_cell I1.out F2.out
  cases e'
  rw [Nat.add_zero] at m0
  obtain ⟨p0, p1, p2, p3, p4⟩ := row_tp RA1.out
  rw [HN.out]
  have HG := Lib.hid hg
  have K1 := Lib.hid (fun W (hW : Below w1.heap.size w1 W) => far_calls (C1.out a W (H1.out.below hW)) hW)
  clear b1 o1 C0 B7 RA Z7 H q0 q1 q2 q3 hw7 I1 F1 F2 hg HN
  go_wp2_with fail
  go_region_held3 (fun W => W.cell? ⟨w.heap.size, 0, none⟩ = some (.string s) ∧ W.cell? ⟨w.heap.size, 1, none⟩ = some (.int .i64 r) ∧ W.cell? ⟨w.heap.size, 2, none⟩ = some (.int .i64 c) ∧ W.cell? ⟨w.heap.size, 3, none⟩ = some (.bool q) ∧ W.cell? ⟨w.heap.size, 4, none⟩ = some (.slice A l.length n) ∧ W.cell? ⟨g, o, none⟩ = some (.int .i64 a)) (first | assumption | (exact ⟨by assumption, by assumption, by assumption, by assumption, by assumption, by assumption⟩)) (first
    | (go_at_call 22; with_reducible refine (K1.out _ (by first | exact Below.refl _ _ | exact (Below.refl _ _).drew)).mono ?_; rintro e w2 ⟨u2, rfl, b2'⟩; obtain ⟨y0, y1, y2, y3, y4⟩ := row_tp ((b2'.block _ (by have := Z1.out; omega)).trans RA1.out); have y5 := (b2'.cell (p := ⟨g, o, none⟩) HG.out).trans m0))
  have B2 : Hid (Below w.heap.size w w2) := B1.out.trans (b2'.mono B1.out.size)
  have m2 := (b2'.cell (p := ⟨g, o + k, none⟩) HG.out).trans m1
  have H2 := Lib.hid (H1.out.below b2')
  have RA2 : Hid (w2.heap[w.heap.size]? = some (boxT s r c q (.slice A l.length n))) := (b2'.block _ (by have := Z1.out; omega)).trans RA1.out
  have K2 := Lib.hid (fun W (hW : Below w2.heap.size w2 W) => far_calls (C1.out E W (H2.out.below hW)) hW)
  have Z2 : Hid (w.heap.size < w2.heap.size) := Nat.lt_of_lt_of_le (by have := Z1.out; omega) b2'.size
  have HG2 : Hid (g < w2.heap.size) := Nat.lt_of_lt_of_le HG.out b2'.size
  clear y0 y1 y2 y3 y4 y5 b2' K1 m0 m1 p0 p1 p2 p3 p4 B1 RA1 H1 Z1
  obtain ⟨p0, p1, p2, p3, p4⟩ := row_tp RA2.out
  go_wp2_with fail
  go_region_held3 (fun W => W.cell? ⟨w.heap.size, 0, none⟩ = some (.string s) ∧ W.cell? ⟨w.heap.size, 1, none⟩ = some (.int .i64 r) ∧ W.cell? ⟨w.heap.size, 2, none⟩ = some (.int .i64 c) ∧ W.cell? ⟨w.heap.size, 3, none⟩ = some (.bool q) ∧ W.cell? ⟨w.heap.size, 4, none⟩ = some (.slice A l.length n) ∧ W.cell? ⟨g, o + k, none⟩ = some (.int .i64 E)) (first | assumption | (exact ⟨by assumption, by assumption, by assumption, by assumption, by assumption, by assumption⟩)) (first
    | (go_at_call 22; with_reducible refine (K2.out _ (by first | exact Below.refl _ _ | exact (Below.refl _ _).drew)).mono ?_; rintro e w3 ⟨u3, rfl, b3'⟩; obtain ⟨y0, y1, y2, y3, y4⟩ := row_tp ((b3'.block _ Z2.out).trans RA2.out); have y5 := (b3'.cell (p := ⟨g, o + k, none⟩) HG2.out).trans m2))
  have B3 : Hid (Below w.heap.size w w3) := B2.out.trans (b3'.mono B2.out.size)
  clear y0 y1 y2 y3 y4 y5 b3' K2 m2 p0 p1 p2 p3 p4 B2 RA2 H2 C1
  generalize errC l a = x1 at T1
  generalize errC l E = x2 at T2
  by_cases h1 : x1 = 10
  · have g1 : (x1 != 10) = false := neq_false h1
    have R : Hid (false = R0) := by
      show _ = _
      rw [← HR.out, T1.out.1 h1]
      rfl
    clear h1 T1 T2 HR
    go_wp2_with fail
    go_ret
    exact ⟨ret_bool R.out, B3.out⟩
  have g1 : (x1 != 10) = true := bne_true h1
  have Q1 : fitC l a = true := by
    cases hh : fitC l a with
    | true => rfl
    | false => exact absurd (T1.out.2 hh) h1
  by_cases h2 : x2 = 10
  · have g2 : (x2 != 10) = false := neq_false h2
    have R : Hid (false = R0) := by
      show _ = _
      rw [← HR.out, Q1, T2.out.1 h2]
      rfl
    clear h1 h2 T1 T2 HR Q1
    go_wp2_with fail
    go_ret
    exact ⟨ret_bool R.out, B3.out⟩
  have g2 : (x2 != 10) = true := bne_true h2
  have Q2 : fitC l E = true := by
    cases hh : fitC l E with
    | true => rfl
    | false => exact absurd (T2.out.2 hh) h2
  have R : Hid (true = R0) := by
    show _ = _
    rw [← HR.out, Q1, Q2]
    rfl
  clear h1 h2 T1 T2 HR Q1 Q2
  go_wp2_with fail
  go_ret
  exact ⟨ret_bool R.out, B3.out⟩
end Go.Proofs.Ytahnaidkobodaaa
