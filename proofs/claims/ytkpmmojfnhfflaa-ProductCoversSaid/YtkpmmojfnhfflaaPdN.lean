/-
  The law ProductCovers: it answers true for every input; nothing that existed before the call has changed behind it. Condition: lengths of 63 bits.
-/
import Derived.Test.YtkpmmojfnhfflaaPdL
import Derived.Deep.RegionHeld3
namespace Go.Proofs.Ytkpmmojfnhfflaa
open Go.RowKit

theorem size_ride : ∀ w, (Go.sizeOf 45).run Try.prog w = .ok 4 w := fun w => by
  obtain ⟨i, hi, _, hsz, _⟩ := info_parts (show (Try.prog.info? 45).map (fun i => (i.zero, i.size, i.bytes)) = some (some (.agg #[.int .i64 0, .int .i64 0, .int .i64 0, .int .i64 0]), 4, 32) by kernel_rfl)
  simp [sizeOf, typeInfo, hi, hsz]
theorem elem_rides : Try.prog.elem 31 = 45 := by simp [Program.elem, Try.underlying31]
theorem under_rides : Try.prog.underlying 31 = some (.slice (Try.prog.elem 31)) := by rw [elem_rides]; exact Try.underlying31
/-- The part rides[i:j]. -/
theorem rides_mid {w : World} {v : Value} {l : List Ri} (h : LstRi w v l) (i j : Nat) (hi : i ≤ j) (hj : j ≤ l.length) (_ : l.length ≤ 9223372036854775807) : ∃ u, (∀ W, (Instr.slice 31 v (some (.int .i64 (i : Int))) (some (.int .i64 (j : Int))) none).run Try.prog W = .ok u W) ∧ LstRi w u ((l.drop i).take (j - i)) := by
  have H := h
  obtain ⟨A, c, rfl, hc, -, -⟩ := h
  refine ⟨sliced A i j c 4, fun W => ?_, ?_⟩
  · rw [run_slice_lh W 31 A l.length c under_rides .i64 .i64 i j (by omega) (by omega) (by omega), elem_rides, size_ride]
    rfl
  · exact LstG.part riE_len H i j c hi hj (by omega) (Nat.le_refl _)
/-- Rides that depart in order, told of neighbours, are so of all. -/
theorem asc_all {l : List Ri} (h : ∀ (a : Nat) x y, a + 1 < l.length → l[a]? = some x → l[a + 1]? = some y → x.1 ≤ y.1) : ∀ (a b : Nat) x y, a ≤ b → l[a]? = some x → l[b]? = some y → x.1 ≤ y.1 := by
  intro a b
  induction b with
  | zero =>
    intro x y hab hx hy
    obtain rfl : a = 0 := by omega
    rw [hx] at hy
    cases hy
    exact Int.le_refl _
  | succ b ih =>
    intro x y hab hx hy
    by_cases e : a = b + 1
    · subst e
      rw [hx] at hy
      cases hy
      exact Int.le_refl _
    · have hb := (List.getElem?_eq_some_iff.1 hy).1
      obtain ⟨z, hz⟩ := at_lt (show b < l.length by omega)
      have h1 := ih x z (by omega) hx hz
      have h2 := h b z y hb hz hy
      omega
theorem cell_same {W W' : World} {k f : Nat} (h : W'.heap[k]? = W.heap[k]?) : W'.cell? ⟨k, f, none⟩ = W.cell? ⟨k, f, none⟩ := by
  unfold World.cell?
  simp only
  rw [h]
/-- The product and the rides among a law's arguments. -/
def RiSt (w0 : World) (s : ByteArray) (p r z t m : Int) (vr : Value) (rs : List Ri) (W : World) : Prop := W.heap[w0.heap.size]? = some (boxP s p r z t m) ∧ LstRi W vr rs ∧ Below w0.heap.size w0 W
section
variable {w0 W W' : World} {s : ByteArray} {p r z t m : Int} {vr : Value} {rs : List Ri}
theorem RiSt.on (h : RiSt w0 s p r z t m vr rs W) (b : Below W.heap.size W W') : RiSt w0 s p r z t m vr rs W' := ⟨(b.block _ (Array.getElem?_eq_some_iff.1 h.1).1).trans h.1, h.2.1.below b, h.2.2.trans (b.mono h.2.2.size)⟩
theorem RiSt.cells (h : RiSt w0 s p r z t m vr rs W) : W.cell? ⟨w0.heap.size, 0, none⟩ = some (.string s) ∧ W.cell? ⟨w0.heap.size, 1, none⟩ = some (.int .i64 p) ∧ W.cell? ⟨w0.heap.size, 2, none⟩ = some (.int .i64 r) ∧ W.cell? ⟨w0.heap.size, 3, none⟩ = some (.int .i64 z) ∧ W.cell? ⟨w0.heap.size, 4, none⟩ = some (.int .i64 t) ∧ W.cell? ⟨w0.heap.size, 5, none⟩ = some (.int .i64 m) := row_pd h.1
theorem RiSt.lst (h : RiSt w0 s p r z t m vr rs W) : LstRi W vr rs := h.2.1
theorem RiSt.below (h : RiSt w0 s p r z t m vr rs W) : Below w0.heap.size w0 W := h.2.2
theorem RiSt.new (h : LstRi w0 vr rs) (hw : w0.alloc (boxP s p r z t m) = W) : RiSt w0 s p r z t m vr rs W := by
  obtain ⟨b7, -⟩ := box_pd hw
  exact ⟨by rw [← hw]; exact heap_alloc_new _ _, h.below b7, b7⟩
/-- Another product beside it, in block Q. -/
def QSt (w0 : World) (s : ByteArray) (p r z t m : Int) (vr : Value) (rs : List Ri) (Q : Nat) (r' z' t' : Int) (W : World) : Prop := W.heap[Q]? = some (boxP s p r' z' t' m) ∧ RiSt w0 s p r z t m vr rs W
variable {Q : Nat} {r' z' t' : Int}
theorem QSt.on (h : QSt w0 s p r z t m vr rs Q r' z' t' W) (b : Below W.heap.size W W') : QSt w0 s p r z t m vr rs Q r' z' t' W' := ⟨(b.block _ (Array.getElem?_eq_some_iff.1 h.1).1).trans h.1, h.2.on b⟩
theorem QSt.pells (h : QSt w0 s p r z t m vr rs Q r' z' t' W) : W.cell? ⟨w0.heap.size, 0, none⟩ = some (.string s) ∧ W.cell? ⟨w0.heap.size, 1, none⟩ = some (.int .i64 p) ∧ W.cell? ⟨w0.heap.size, 2, none⟩ = some (.int .i64 r) ∧ W.cell? ⟨w0.heap.size, 3, none⟩ = some (.int .i64 z) ∧ W.cell? ⟨w0.heap.size, 4, none⟩ = some (.int .i64 t) ∧ W.cell? ⟨w0.heap.size, 5, none⟩ = some (.int .i64 m) := h.2.cells
theorem QSt.qells (h : QSt w0 s p r z t m vr rs Q r' z' t' W) : W.cell? ⟨Q, 0, none⟩ = some (.string s) ∧ W.cell? ⟨Q, 1, none⟩ = some (.int .i64 p) ∧ W.cell? ⟨Q, 2, none⟩ = some (.int .i64 r') ∧ W.cell? ⟨Q, 3, none⟩ = some (.int .i64 z') ∧ W.cell? ⟨Q, 4, none⟩ = some (.int .i64 t') ∧ W.cell? ⟨Q, 5, none⟩ = some (.int .i64 m) := row_pd h.1
theorem QSt.put (h : QSt w0 s p r z t m vr rs Q r' z' t' W) (hQ : w0.heap.size < Q) (hl : ∀ k f n c, vr = .slice (some ⟨k, f, none⟩) n c → k ≠ Q) (a b c : Int) :
    QSt w0 s p r z t m vr rs Q a b c (((W.setCell ⟨Q, 2, none⟩ (.int .i64 a)).setCell ⟨Q, 3, none⟩ (.int .i64 b)).setCell ⟨Q, 4, none⟩ (.int .i64 c)).drew := by
  obtain ⟨h1, h2, h3, h4⟩ := h
  have q1 := heap_setCell_same W Q 2 _ _ (.int .i64 a) h1
  have q2 := heap_setCell_same _ Q 3 _ _ (.int .i64 b) q1
  have q3 := heap_setCell_same _ Q 4 _ _ (.int .i64 c) q2
  have keep : ∀ j, j ≠ Q → (((W.setCell ⟨Q, 2, none⟩ (.int .i64 a)).setCell ⟨Q, 3, none⟩ (.int .i64 b)).setCell ⟨Q, 4, none⟩ (.int .i64 c)).heap[j]? = W.heap[j]? := by
    intro j hj
    rw [Below.heap_setCell _ _ _ j (by show j ≠ _; exact hj), Below.heap_setCell _ _ _ j (by show j ≠ _; exact hj), Below.heap_setCell _ _ _ j (by show j ≠ _; exact hj)]
  have b3 := (((h4.setCell (p := ⟨Q, 2, none⟩) (by show _ ≤ Q; omega) (.int .i64 a)).setCell (p := ⟨Q, 3, none⟩) (by show _ ≤ Q; omega) (.int .i64 b)).setCell (p := ⟨Q, 4, none⟩) (by show _ ≤ Q; omega) (.int .i64 c))
  refine ⟨q3, (keep _ (by omega)).trans h2, ?_, b3.drew⟩
  obtain ⟨A, n, e, hn, h0, hc⟩ := h3
  refine ⟨A, n, e, hn, h0, fun hp => ?_⟩
  obtain ⟨k, f, rfl, hk, hx⟩ := hc hp
  have hkQ := hl k f _ _ e
  refine ⟨k, f, rfl, ?_, fun j x hj => ?_⟩
  · show k < (((W.setCell ⟨Q, 2, none⟩ (.int .i64 a)).setCell ⟨Q, 3, none⟩ (.int .i64 b)).setCell ⟨Q, 4, none⟩ (.int .i64 c)).heap.size
    simpa [World.setCell] using hk
  · have e1 := hx j x hj
    have e2 := keep k hkQ
    exact (cell_same e2).trans e1
end

set_option maxRecDepth 100000 in
set_option maxHeartbeats 8000000 in
theorem covers_law (s : ByteArray) (p r z t m : Int) (vr : Value) (rs : List Ri) (hrl : rs.length ≤ 9223372036854775807) (hrk : OkRis rs) (mo : Int) (w : World) (hr : LstRi w vr rs) : Calls Try.prog 7 #[pdV s p r z t m, vr, .int .i64 mo] w fun e w' => e = .returned (.bool true) ∧ Below w.heap.size w w' := by
  obtain ⟨w7, hw7⟩ : ∃ W, w.alloc (boxP s p r z t m) = W := ⟨_, rfl⟩
  have S7 := Lib.hid (RiSt.new hr hw7)
  obtain ⟨A, n, rfl, -, -, -⟩ := _root_.id hr
  have LY := Lib.hid (fun (h : ¬ (0 ≤ 40 ∧ rs.length ≤ 40)) W => large_yes none A 0 rs.length 0 n 0 0 0 h W)
  by_cases hlg : ¬ rs.length ≤ 40
  · go_enter Try.func7, Try.ntmps7
    have C := Lib.hid (LY.out (by omega) w7)
    go_wp2_with fail
    refine C.out.mono ?_
    rintro e w8 ⟨rfl, y8⟩
    have S8 := Lib.hid (S7.out.on y8)
    clear C S7 y8
    have C := Lib.hid (ex_any w8)
    go_wp2_with fail
    refine C.out.mono ?_
    rintro e w9 ⟨rfl, y9⟩
    have S9 := Lib.hid (S8.out.on y9)
    clear C S8 y9
    go_wp2_with fail
    go_ret
    exact ⟨rfl, S9.out.below⟩
  have hl2 := Decidable.not_not.1 hlg
  clear hlg LY
  have LN := Lib.hid (fun W => large_no none A 0 rs.length 0 n 0 0 0 (by decide) hl2 W)
  have RT := Lib.hid (fun W => rright_any [] s p r z t m W)
  by_cases hok : ¬ okPd ([], p, r, z, t, m)
  · rw [decide_eq_false hok] at RT
    clear hok
    go_enter Try.func7, Try.ntmps7
    have C := Lib.hid (LN.out w7)
    go_wp2_with fail
    refine C.out.mono ?_
    rintro e w8 ⟨rfl, y8⟩
    have S8 := Lib.hid (S7.out.on y8)
    clear C S7 y8
    obtain ⟨p0, p1, p2, p3, p4, p5⟩ := S8.out.cells
    have C := Lib.hid (RT.out w8)
    go_wp2_with fail
    refine C.out.mono ?_
    rintro e w9 ⟨rfl, y9⟩
    have S9 := Lib.hid (S8.out.on y9)
    clear C S8 y9 p0 p1 p2 p3 p4 p5
    have C := Lib.hid (ex_any w9)
    go_wp2_with fail
    refine C.out.mono ?_
    rintro e w10 ⟨rfl, y10⟩
    have S10 := Lib.hid (S9.out.on y10)
    clear C S9 y10
    go_wp2_with fail
    go_ret
    exact ⟨rfl, S10.out.below⟩
  have ok := Decidable.not_not.1 hok
  clear hok
  rw [decide_eq_true ok] at RT
  obtain ⟨-, ⟨hr0, hr1⟩, ⟨hz0, hz1⟩, ⟨ht0, ht1⟩, -⟩ := ok
  simp only at hr0 hr1 hz0 hz1 ht0 ht1
  have KC := Lib.hid (fun (a b c : Int) (hc : Ix64 c) v l hl ho W hW => kcov_any [] s p a b c m hc v l hl ho W hW)
  have ht : Ix64 t := ⟨by omega, by omega⟩
  cases hc : covPd ([], p, r, z, t, m) rs with
  | false =>
    have C2 := Lib.hid (fun W hW => KC.out r z t ht (.slice A rs.length n) rs hrl hrk W hW)
    rw [hc] at C2
    clear hc
    go_enter Try.func7, Try.ntmps7
    have C := Lib.hid (LN.out w7)
    go_wp2_with fail
    refine C.out.mono ?_
    rintro e w8 ⟨rfl, y8⟩
    have S8 := Lib.hid (S7.out.on y8)
    clear C S7 y8
    obtain ⟨p0, p1, p2, p3, p4, p5⟩ := S8.out.cells
    have C := Lib.hid (RT.out w8)
    go_wp2_with fail
    refine C.out.mono ?_
    rintro e w9 ⟨rfl, y9⟩
    have S9 := Lib.hid (S8.out.on y9)
    clear C S8 y9 p0 p1 p2 p3 p4 p5
    obtain ⟨p0, p1, p2, p3, p4, p5⟩ := S9.out.cells
    have C := Lib.hid (C2.out w9 S9.out.lst)
    go_wp2_with fail
    refine C.out.mono ?_
    rintro e w10 ⟨rfl, y10⟩
    have S10 := Lib.hid (S9.out.on y10)
    clear C S9 y10 p0 p1 p2 p3 p4 p5
    have C := Lib.hid (ex_any w10)
    go_wp2_with fail
    refine C.out.mono ?_
    rintro e w11 ⟨rfl, y11⟩
    have S11 := Lib.hid (S10.out.on y11)
    clear C S10 y11
    go_wp2_with fail
    go_ret
    exact ⟨rfl, S11.out.below⟩
  | true =>
    have C2 := Lib.hid (fun W hW => KC.out r z t ht (.slice A rs.length n) rs hrl hrk W hW)
    rw [hc] at C2
    have hlen : 1 ≤ rs.length ∧ (rs.length : Int) ≤ r := (cov_iff.1 hc).1
    obtain ⟨hn0, hn1⟩ := hlen
    obtain ⟨⟨x0, x1, x2, x3⟩, hx⟩ := at_lt (show 0 < rs.length by omega)
    obtain ⟨b, f, rfl, hb, -⟩ := four_at hr hx
    have HC := Lib.hid hc
    have HB := Lib.hid hb
    have HO := Lib.hid hrk
    have RM := Lib.hid (fun W (hW : LstRi W (.slice (some ⟨b, f, none⟩) rs.length n) rs) (i j : Nat) (hi : i ≤ j) (hj : j ≤ rs.length) => rides_mid hW i j hi hj hrl)
    clear hc hx hb hrk hr
    go_enter Try.func7, Try.ntmps7
    have C := Lib.hid (LN.out w7)
    go_wp2_with fail
    refine C.out.mono ?_
    rintro e w8 ⟨rfl, y8⟩
    have S8 := Lib.hid (S7.out.on y8)
    clear C S7 y8
    obtain ⟨p0, p1, p2, p3, p4, p5⟩ := S8.out.cells
    have C := Lib.hid (RT.out w8)
    go_wp2_with fail
    refine C.out.mono ?_
    rintro e w9 ⟨rfl, y9⟩
    have S9 := Lib.hid (S8.out.on y9)
    clear C S8 y9 p0 p1 p2 p3 p4 p5
    obtain ⟨p0, p1, p2, p3, p4, p5⟩ := S9.out.cells
    have C := Lib.hid (C2.out w9 S9.out.lst)
    go_wp2_with fail
    refine C.out.mono ?_
    rintro e w10 ⟨rfl, y10⟩
    have S10 := Lib.hid (S9.out.on y10)
    clear C S9 y10 p0 p1 p2 p3 p4 p5 LN RT C2
    go_wp2_with fail
    go_loopw [7] (fun i wr => ∃ k : Nat, i = .int .i64 k ∧ 1 ≤ k ∧ k ≤ rs.length ∧ Hid (∀ (a : Nat) x y, a + 1 < k → rs[a]? = some x → rs[a + 1]? = some y → x.1 ≤ y.1) ∧ Hid (∃ n, wr = w10.drewN n)) (fun i _ => rs.length - (intOf i).toNat)
    case atStart => exact ⟨1, rfl, Nat.le_refl _, hn0, Lib.hid (fun a x y h => by omega), Lib.hid ⟨0, rfl⟩⟩
    case round =>
      obtain ⟨k, rfl, hk1, hk, hasc, hn⟩ := hrel
      have S0 := Lib.hid (S10.out.on (drew_below hn.out))
      by_cases hlt : k < rs.length
      · obtain ⟨⟨u0, u1, u2, u3⟩, hx⟩ := at_lt hlt
        obtain ⟨q, hq⟩ : ∃ q, k - 1 = q := ⟨_, rfl⟩
        obtain ⟨⟨v0, v1, v2, v3⟩, hy⟩ := at_lt (show q < rs.length by omega)
        obtain ⟨b1, f1, e1, -, r0, -, -, -⟩ := four_at S0.out.lst hx
        cases e1
        obtain ⟨b2, f2, e2, -, q0, -, -, -⟩ := four_at S0.out.lst hy
        cases e2
        have gk : (k : Int) < (rs.length : Int) := by omega
        have gq : (q : Int) < (rs.length : Int) := by omega
        by_cases hlv : u0 < v0
        · clear hx hy hasc S10 HC HO KC RM
          have gm : (k : Int) - 1 = (q : Int) := by omega
          have wq : IntKind.i64.wrap (q : Int) = (q : Int) := IntWalk.i64_in _ (by omega)
          go_wp2_with fail
          go_quiet (fail)
          have y := below_drewN (Below.refl wr.heap.size wr) nq
          generalize wr.drewN nq = w0 at y ⊢
          have S0 := Lib.hid (S0.out.on y)
          clear y
          have C := Lib.hid (ex_any w0)
          go_wp2_with fail
          refine C.out.mono ?_
          rintro e w1 ⟨rfl, y1⟩
          have S1 := Lib.hid (S0.out.on y1)
          clear C S0 y1
          go_wp2_with fail
          go_ret
          exact ⟨rfl, S1.out.below⟩
        have g := decide_eq_false hlv
        have N : Hid (∀ (a : Nat) x y, a + 1 < k + 1 → rs[a]? = some x → rs[a + 1]? = some y → x.1 ≤ y.1) := Lib.hid (by
          intro a x y ha hxx hyy
          by_cases ee : a + 1 = k
          · obtain rfl : a = q := by omega
            rw [ee, hx] at hyy
            rw [hy] at hxx
            cases hxx
            cases hyy
            show v0 ≤ u0
            omega
          · exact hasc.out a x y (by omega) hxx hyy)
        clear hx hy hasc S0 hlv
        have gm : (k : Int) - 1 = (q : Int) := by omega
        have wq : IntKind.i64.wrap (q : Int) = (q : Int) := IntWalk.i64_in _ (by omega)
        go_wp2_with fail
        go_quiet (fail)
        have hq2 := drew_on hn nq
        generalize wr.drewN nq = w11 at hq2 ⊢
        clear gm wq
        go_wp2_with fail
        go_roundw
        case rel => exact ⟨k + 1, by go_num, by omega, by omega, N, hq2⟩
        case measure => simp [intOf]; omega
      · have dk : decide (k < rs.length) = false := by rw [decide_eq_false_iff_not]; exact hlt
        have AS := Lib.hid (asc_all (fun a x y h => hasc.out a x y (by omega)))
        have CP := Lib.hid (fun (r' z' t' : Int) (i j : Nat) (hij : i < j) (hj : j ≤ rs.length) (h1 : r ≤ r') (h2 : z ≤ z') (h3 : t ≤ t') => cov_part (p := ([], p, r, z, t, m)) (q := ([], p, r', z', t', m)) HC.out AS.out hij hj h1 h2 h3 rfl)
        have hbq : b < wr.heap.size := Nat.lt_of_lt_of_le HB.out S0.out.below.size
        clear hlt hasc HC AS hn S10 HB
        obtain ⟨w12, hw12⟩ : ∃ W, wr.alloc (boxP s p r z t m) = W := ⟨_, rfl⟩
        obtain ⟨b12, -, -, -, -, -, -, s12⟩ := box_pd hw12
        have Q12 : QSt w s p r z t m (.slice (some ⟨b, f, none⟩) rs.length n) rs wr.heap.size r z t w12 := ⟨by rw [← hw12]; exact heap_alloc_new _ _, S0.out.on b12⟩
        have hwq : w.heap.size < wr.heap.size := Nat.lt_of_lt_of_le (Array.getElem?_eq_some_iff.1 S0.out.1).1 (Nat.le_refl _)
        obtain ⟨p0, p1, p2, p3, p4, p5⟩ := S0.out.cells
        clear S0 b12 s12
        have g0 : ((rs.length : Int) == 0) = false := beq_false (by omega)
        have g1 : decide (r < (rs.length : Int)) = false := decide_eq_false (by omega)
        by_cases hmo : 0 ≤ mo ∧ mo ≤ 1000
        · obtain ⟨hm0, hm1⟩ := hmo
          have n1 : wr.heap.size ≠ w.heap.size := by omega
          have n2 : w.heap.size ≠ wr.heap.size := by omega
          obtain ⟨p0, p1, p2, p3, p4, p5⟩ := Q12.2.cells
          obtain ⟨q0, q1, q2, q3, q4, q5⟩ := Q12.qells
          have f2 := frozen_of_row _ _ 2 _ _ Q12.1
          have f3 := frozen_of_row _ _ 3 _ _ Q12.1
          have f4 := frozen_of_row _ _ 4 _ _ Q12.1
          obtain ⟨r2, hr2⟩ : ∃ x, x = r + mo := ⟨_, rfl⟩
          obtain ⟨z2, hz2⟩ : ∃ x, x = z + mo := ⟨_, rfl⟩
          obtain ⟨t2, ht2'⟩ : ∃ x, x = t + mo := ⟨_, rfl⟩
          have QP := Lib.hid (Q12.put hwq (fun k f' n' c' e => by cases e; omega) r2 z2 t2)
          have ht2 : Ix64 t2 := ⟨by omega, by omega⟩
          have L1 := Lib.hid (show r ≤ r2 by omega)
          have L2 := Lib.hid (show z ≤ z2 by omega)
          have L3 := Lib.hid (show t ≤ t2 by omega)
          have s1 : IntKind.i64.wrap (r + mo) = r2 := by rw [← hr2]; exact IntWalk.i64_in _ (by omega)
          have s2 : IntKind.i64.wrap (z + mo) = z2 := by rw [← hz2]; exact IntWalk.i64_in _ (by omega)
          have s3 : IntKind.i64.wrap (t + mo) = t2 := by rw [← ht2']; exact IntWalk.i64_in _ (by omega)
          clear Q12 hr2 hz2 ht2'
          go_wp2_with fail
          go_region
          generalize hW13 : (((w12.setCell ⟨wr.heap.size, 2, none⟩ (.int .i64 r2)).setCell ⟨wr.heap.size, 3, none⟩ (.int .i64 z2)).setCell ⟨wr.heap.size, 4, none⟩ (.int .i64 t2)).drew = w13 at QP ⊢
          have QW := QP
          clear QP hW13 hw12 hbq hwq n1 n2 p0 p1 p2 p3 p4 p5 q0 q1 q2 q3 q4 q5 f2 f3 f4 s1 s2 s3
          generalize wr.heap.size = Q at QW ⊢
          obtain ⟨p0, p1, p2, p3, p4, p5⟩ := QW.out.2.cells
          go_wp2_with fail
          go_loopw [9] (fun i wr => ∃ i0 : Nat, i = .int .i64 i0 ∧ i0 ≤ rs.length ∧ Hid (QSt w s p r z t m (.slice (some ⟨b, f, none⟩) rs.length n) rs Q r2 z2 t2 wr)) (fun i _ => rs.length - (intOf i).toNat)
          case atStart => exact ⟨0, rfl, Nat.zero_le _, QW⟩
          case round =>
            clear QW p0 p1 p2 p3 p4 p5
            obtain ⟨i0, rfl, hi, QW⟩ := hrel
            by_cases hil : i0 < rs.length
            · have gi : (i0 : Int) < (rs.length : Int) := by omega
              go_wp2_with fail
              go_loopw [10] (fun k wr => ∃ k0 : Nat, k = .int .i64 k0 ∧ i0 < k0 ∧ k0 ≤ rs.length + 1 ∧ Hid (QSt w s p r z t m (.slice (some ⟨b, f, none⟩) rs.length n) rs Q r2 z2 t2 wr)) (fun k _ => rs.length + 1 - (intOf k).toNat)
              case atStart => exact ⟨i0 + 1, by go_num, by omega, by omega, QW⟩
              case round =>
                clear QW
                obtain ⟨k0, rfl, hik, hk0, QW⟩ := hrel
                by_cases hkl : k0 ≤ rs.length
                · have gk : (k0 : Int) ≤ (rs.length : Int) := by omega
                  obtain ⟨u, hu, lu⟩ := RM.out _ QW.out.2.lst i0 k0 (by omega) hkl
                  have hul : ((rs.drop i0).take (k0 - i0)).length ≤ 9223372036854775807 := by rw [List.length_take, List.length_drop]; omega
                  have huo : OkRis ((rs.drop i0).take (k0 - i0)) := fun x hx => HO.out x (List.mem_of_mem_drop (List.mem_of_mem_take hx))
                  have e1 := CP.out r z t i0 k0 hik hkl (Int.le_refl _) (Int.le_refl _) (Int.le_refl _)
                  have e2 := CP.out r2 z2 t2 i0 k0 hik hkl L1.out L2.out L3.out
                  have C1 := Lib.hid (fun W (hW : Below wr.heap.size wr W) => far_bool (KC.out r z t ht u _ hul huo W (lu.below hW)) hW)
                  have C2 := Lib.hid (fun W (hW : Below wr.heap.size wr W) => far_bool (KC.out r2 z2 t2 ht2 u _ hul huo W (lu.below hW)) hW)
                  rw [e1] at C1
                  rw [e2] at C2
                  obtain ⟨p0, p1, p2, p3, p4, p5⟩ := QW.out.2.cells
                  obtain ⟨q0, q1, q2, q3, q4, q5⟩ := QW.out.qells
                  have si : IntKind.i64.wrap (i0 : Int) = (i0 : Int) := IntWalk.i64_in _ (by omega)
                  clear e1 e2 lu huo hul hkl hi
                  go_wp2_with fail
                  go_region_held3 (fun W => W.cell? ⟨w.heap.size, 0, none⟩ = some (.string s) ∧ W.cell? ⟨w.heap.size, 1, none⟩ = some (.int .i64 p) ∧ W.cell? ⟨w.heap.size, 2, none⟩ = some (.int .i64 r) ∧ W.cell? ⟨w.heap.size, 3, none⟩ = some (.int .i64 z) ∧ W.cell? ⟨w.heap.size, 4, none⟩ = some (.int .i64 t) ∧ W.cell? ⟨w.heap.size, 5, none⟩ = some (.int .i64 m) ∧ W.cell? ⟨Q, 0, none⟩ = some (.string s) ∧ W.cell? ⟨Q, 1, none⟩ = some (.int .i64 p) ∧ W.cell? ⟨Q, 2, none⟩ = some (.int .i64 r2) ∧ W.cell? ⟨Q, 3, none⟩ = some (.int .i64 z2) ∧ W.cell? ⟨Q, 4, none⟩ = some (.int .i64 t2) ∧ W.cell? ⟨Q, 5, none⟩ = some (.int .i64 m)) (first | assumption | (exact ⟨by assumption, by assumption, by assumption, by assumption, by assumption, by assumption, by assumption, by assumption, by assumption, by assumption, by assumption, by assumption⟩)) (first
                    | (go_at_call 13; with_reducible refine (C1.out _ (by first | exact Below.refl _ _ | exact (Below.refl _ _).drew)).mono ?_; rintro e w1 ⟨rfl, b1⟩; obtain ⟨g0, g1, g2, g3, g4, g5⟩ := (QW.out.on b1).pells; obtain ⟨h0, h1, h2, h3, h4, h5⟩ := (QW.out.on b1).qells; clear C1)
                    | (go_at_call 13; with_reducible refine (C2.out _ b1).mono ?_; rintro e w2 ⟨rfl, b2⟩; obtain ⟨j0, j1, j2, j3, j4, j5⟩ := (QW.out.on b2).pells; obtain ⟨l0, l1, l2, l3, l4, l5⟩ := (QW.out.on b2).qells; clear C2))
                  all_goals
                    have Q2 := Lib.hid (QW.out.on b2)
                    clear b1 b2 QW si
                    go_wp2_with fail
                    go_roundw
                    case rel => exact ⟨k0 + 1, by go_num, by omega, by omega, Q2⟩
                    case measure => simp [intOf]; omega
                · have dk2 : decide ((k0 : Int) ≤ (rs.length : Int)) = false := decide_eq_false (by omega)
                  have dk3 : decide (k0 ≤ rs.length) = false := decide_eq_false hkl
                  clear hkl
                  go_wp2_with fail
                  go_roundw
                  case rel => exact ⟨i0 + 1, by go_num, by omega, QW⟩
                  case measure => simp [intOf]; omega
            · have di : decide (i0 < rs.length) = false := by rw [decide_eq_false_iff_not]; exact hil
              obtain ⟨w0, hw0⟩ : ∃ W, wr = W := ⟨_, rfl⟩
              rw [hw0] at QW ⊢
              have S0 := Lib.hid QW.out.2
              clear hil KC RM CP HO QW hw0
              have C := Lib.hid (ex_any w0)
              go_wp2_with fail
              refine C.out.mono ?_
              rintro e w1 ⟨rfl, y1⟩
              have S1 := Lib.hid (S0.out.on y1)
              clear C S0 y1
              go_wp2_with fail
              go_ret
              exact ⟨rfl, S1.out.below⟩
        · by_cases hm0 : 0 ≤ mo
          · have gm : decide (mo ≤ 1000) = false := decide_eq_false (by omega)
            have QW := Lib.hid Q12
            have ht2 := ht
            have L1 := Lib.hid (Int.le_refl r)
            have L2 := Lib.hid (Int.le_refl z)
            have L3 := Lib.hid (Int.le_refl t)
            obtain ⟨q0, q1, q2, q3, q4, q5⟩ := Q12.2.cells
            clear Q12 hbq hwq
            go_wp2_with fail
            clear hw12 p0 p1 p2 p3 p4 p5
            obtain ⟨p0, p1, p2, p3, p4, p5⟩ := QW.out.2.cells
            clear q0 q1 q2 q3 q4 q5
            generalize wr.heap.size = Q at QW ⊢
            go_loopw [9] (fun i wr => ∃ i0 : Nat, i = .int .i64 i0 ∧ i0 ≤ rs.length ∧ Hid (QSt w s p r z t m (.slice (some ⟨b, f, none⟩) rs.length n) rs Q r z t wr)) (fun i _ => rs.length - (intOf i).toNat)
            case atStart => exact ⟨0, rfl, Nat.zero_le _, QW⟩
            case round =>
              clear QW p0 p1 p2 p3 p4 p5
              obtain ⟨i0, rfl, hi, QW⟩ := hrel
              by_cases hil : i0 < rs.length
              · have gi : (i0 : Int) < (rs.length : Int) := by omega
                go_wp2_with fail
                go_loopw [10] (fun k wr => ∃ k0 : Nat, k = .int .i64 k0 ∧ i0 < k0 ∧ k0 ≤ rs.length + 1 ∧ Hid (QSt w s p r z t m (.slice (some ⟨b, f, none⟩) rs.length n) rs Q r z t wr)) (fun k _ => rs.length + 1 - (intOf k).toNat)
                case atStart => exact ⟨i0 + 1, by go_num, by omega, by omega, QW⟩
                case round =>
                  clear QW
                  obtain ⟨k0, rfl, hik, hk0, QW⟩ := hrel
                  by_cases hkl : k0 ≤ rs.length
                  · have gk : (k0 : Int) ≤ (rs.length : Int) := by omega
                    obtain ⟨u, hu, lu⟩ := RM.out _ QW.out.2.lst i0 k0 (by omega) hkl
                    have hul : ((rs.drop i0).take (k0 - i0)).length ≤ 9223372036854775807 := by rw [List.length_take, List.length_drop]; omega
                    have huo : OkRis ((rs.drop i0).take (k0 - i0)) := fun x hx => HO.out x (List.mem_of_mem_drop (List.mem_of_mem_take hx))
                    have e1 := CP.out r z t i0 k0 hik hkl (Int.le_refl _) (Int.le_refl _) (Int.le_refl _)
                    have e2 := CP.out r z t i0 k0 hik hkl L1.out L2.out L3.out
                    have C1 := Lib.hid (fun W (hW : Below wr.heap.size wr W) => far_bool (KC.out r z t ht u _ hul huo W (lu.below hW)) hW)
                    have C2 := Lib.hid (fun W (hW : Below wr.heap.size wr W) => far_bool (KC.out r z t ht2 u _ hul huo W (lu.below hW)) hW)
                    rw [e1] at C1
                    rw [e2] at C2
                    obtain ⟨p0, p1, p2, p3, p4, p5⟩ := QW.out.2.cells
                    obtain ⟨q0, q1, q2, q3, q4, q5⟩ := QW.out.qells
                    have si : IntKind.i64.wrap (i0 : Int) = (i0 : Int) := IntWalk.i64_in _ (by omega)
                    clear e1 e2 lu huo hul hkl hi
                    go_wp2_with fail
                    go_region_held3 (fun W => W.cell? ⟨w.heap.size, 0, none⟩ = some (.string s) ∧ W.cell? ⟨w.heap.size, 1, none⟩ = some (.int .i64 p) ∧ W.cell? ⟨w.heap.size, 2, none⟩ = some (.int .i64 r) ∧ W.cell? ⟨w.heap.size, 3, none⟩ = some (.int .i64 z) ∧ W.cell? ⟨w.heap.size, 4, none⟩ = some (.int .i64 t) ∧ W.cell? ⟨w.heap.size, 5, none⟩ = some (.int .i64 m) ∧ W.cell? ⟨Q, 0, none⟩ = some (.string s) ∧ W.cell? ⟨Q, 1, none⟩ = some (.int .i64 p) ∧ W.cell? ⟨Q, 2, none⟩ = some (.int .i64 r) ∧ W.cell? ⟨Q, 3, none⟩ = some (.int .i64 z) ∧ W.cell? ⟨Q, 4, none⟩ = some (.int .i64 t) ∧ W.cell? ⟨Q, 5, none⟩ = some (.int .i64 m)) (first | assumption | (exact ⟨by assumption, by assumption, by assumption, by assumption, by assumption, by assumption, by assumption, by assumption, by assumption, by assumption, by assumption, by assumption⟩)) (first
                      | (go_at_call 13; with_reducible refine (C1.out _ (by first | exact Below.refl _ _ | exact (Below.refl _ _).drew)).mono ?_; rintro e w1 ⟨rfl, b1⟩; obtain ⟨g0, g1, g2, g3, g4, g5⟩ := (QW.out.on b1).pells; obtain ⟨h0, h1, h2, h3, h4, h5⟩ := (QW.out.on b1).qells; clear C1)
                      | (go_at_call 13; with_reducible refine (C2.out _ b1).mono ?_; rintro e w2 ⟨rfl, b2⟩; obtain ⟨j0, j1, j2, j3, j4, j5⟩ := (QW.out.on b2).pells; obtain ⟨l0, l1, l2, l3, l4, l5⟩ := (QW.out.on b2).qells; clear C2))
                    all_goals
                      have Q2 := Lib.hid (QW.out.on b2)
                      clear b1 b2 QW si
                      go_wp2_with fail
                      go_roundw
                      case rel => exact ⟨k0 + 1, by go_num, by omega, by omega, Q2⟩
                      case measure => simp [intOf]; omega
                  · have dk2 : decide ((k0 : Int) ≤ (rs.length : Int)) = false := decide_eq_false (by omega)
                    have dk3 : decide (k0 ≤ rs.length) = false := decide_eq_false hkl
                    clear hkl
                    go_wp2_with fail
                    go_roundw
                    case rel => exact ⟨i0 + 1, by go_num, by omega, QW⟩
                    case measure => simp [intOf]; omega
              · have di : decide (i0 < rs.length) = false := by rw [decide_eq_false_iff_not]; exact hil
                obtain ⟨w0, hw0⟩ : ∃ W, wr = W := ⟨_, rfl⟩
                rw [hw0] at QW ⊢
                have S0 := Lib.hid QW.out.2
                clear hil KC RM CP HO QW hw0
                have C := Lib.hid (ex_any w0)
                go_wp2_with fail
                refine C.out.mono ?_
                rintro e w1 ⟨rfl, y1⟩
                have S1 := Lib.hid (S0.out.on y1)
                clear C S0 y1
                go_wp2_with fail
                go_ret
                exact ⟨rfl, S1.out.below⟩
          · have gm : decide (0 ≤ mo) = false := decide_eq_false hm0
            have QW := Lib.hid Q12
            have ht2 := ht
            have L1 := Lib.hid (Int.le_refl r)
            have L2 := Lib.hid (Int.le_refl z)
            have L3 := Lib.hid (Int.le_refl t)
            obtain ⟨q0, q1, q2, q3, q4, q5⟩ := Q12.2.cells
            clear Q12 hbq hwq
            go_wp2_with fail
            clear hw12 p0 p1 p2 p3 p4 p5
            obtain ⟨p0, p1, p2, p3, p4, p5⟩ := QW.out.2.cells
            clear q0 q1 q2 q3 q4 q5
            generalize wr.heap.size = Q at QW ⊢
            go_loopw [9] (fun i wr => ∃ i0 : Nat, i = .int .i64 i0 ∧ i0 ≤ rs.length ∧ Hid (QSt w s p r z t m (.slice (some ⟨b, f, none⟩) rs.length n) rs Q r z t wr)) (fun i _ => rs.length - (intOf i).toNat)
            case atStart => exact ⟨0, rfl, Nat.zero_le _, QW⟩
            case round =>
              clear QW p0 p1 p2 p3 p4 p5
              obtain ⟨i0, rfl, hi, QW⟩ := hrel
              by_cases hil : i0 < rs.length
              · have gi : (i0 : Int) < (rs.length : Int) := by omega
                go_wp2_with fail
                go_loopw [10] (fun k wr => ∃ k0 : Nat, k = .int .i64 k0 ∧ i0 < k0 ∧ k0 ≤ rs.length + 1 ∧ Hid (QSt w s p r z t m (.slice (some ⟨b, f, none⟩) rs.length n) rs Q r z t wr)) (fun k _ => rs.length + 1 - (intOf k).toNat)
                case atStart => exact ⟨i0 + 1, by go_num, by omega, by omega, QW⟩
                case round =>
                  clear QW
                  obtain ⟨k0, rfl, hik, hk0, QW⟩ := hrel
                  by_cases hkl : k0 ≤ rs.length
                  · have gk : (k0 : Int) ≤ (rs.length : Int) := by omega
                    obtain ⟨u, hu, lu⟩ := RM.out _ QW.out.2.lst i0 k0 (by omega) hkl
                    have hul : ((rs.drop i0).take (k0 - i0)).length ≤ 9223372036854775807 := by rw [List.length_take, List.length_drop]; omega
                    have huo : OkRis ((rs.drop i0).take (k0 - i0)) := fun x hx => HO.out x (List.mem_of_mem_drop (List.mem_of_mem_take hx))
                    have e1 := CP.out r z t i0 k0 hik hkl (Int.le_refl _) (Int.le_refl _) (Int.le_refl _)
                    have e2 := CP.out r z t i0 k0 hik hkl L1.out L2.out L3.out
                    have C1 := Lib.hid (fun W (hW : Below wr.heap.size wr W) => far_bool (KC.out r z t ht u _ hul huo W (lu.below hW)) hW)
                    have C2 := Lib.hid (fun W (hW : Below wr.heap.size wr W) => far_bool (KC.out r z t ht2 u _ hul huo W (lu.below hW)) hW)
                    rw [e1] at C1
                    rw [e2] at C2
                    obtain ⟨p0, p1, p2, p3, p4, p5⟩ := QW.out.2.cells
                    obtain ⟨q0, q1, q2, q3, q4, q5⟩ := QW.out.qells
                    have si : IntKind.i64.wrap (i0 : Int) = (i0 : Int) := IntWalk.i64_in _ (by omega)
                    clear e1 e2 lu huo hul hkl hi
                    go_wp2_with fail
                    go_region_held3 (fun W => W.cell? ⟨w.heap.size, 0, none⟩ = some (.string s) ∧ W.cell? ⟨w.heap.size, 1, none⟩ = some (.int .i64 p) ∧ W.cell? ⟨w.heap.size, 2, none⟩ = some (.int .i64 r) ∧ W.cell? ⟨w.heap.size, 3, none⟩ = some (.int .i64 z) ∧ W.cell? ⟨w.heap.size, 4, none⟩ = some (.int .i64 t) ∧ W.cell? ⟨w.heap.size, 5, none⟩ = some (.int .i64 m) ∧ W.cell? ⟨Q, 0, none⟩ = some (.string s) ∧ W.cell? ⟨Q, 1, none⟩ = some (.int .i64 p) ∧ W.cell? ⟨Q, 2, none⟩ = some (.int .i64 r) ∧ W.cell? ⟨Q, 3, none⟩ = some (.int .i64 z) ∧ W.cell? ⟨Q, 4, none⟩ = some (.int .i64 t) ∧ W.cell? ⟨Q, 5, none⟩ = some (.int .i64 m)) (first | assumption | (exact ⟨by assumption, by assumption, by assumption, by assumption, by assumption, by assumption, by assumption, by assumption, by assumption, by assumption, by assumption, by assumption⟩)) (first
                      | (go_at_call 13; with_reducible refine (C1.out _ (by first | exact Below.refl _ _ | exact (Below.refl _ _).drew)).mono ?_; rintro e w1 ⟨rfl, b1⟩; obtain ⟨g0, g1, g2, g3, g4, g5⟩ := (QW.out.on b1).pells; obtain ⟨h0, h1, h2, h3, h4, h5⟩ := (QW.out.on b1).qells; clear C1)
                      | (go_at_call 13; with_reducible refine (C2.out _ b1).mono ?_; rintro e w2 ⟨rfl, b2⟩; obtain ⟨j0, j1, j2, j3, j4, j5⟩ := (QW.out.on b2).pells; obtain ⟨l0, l1, l2, l3, l4, l5⟩ := (QW.out.on b2).qells; clear C2))
                    all_goals
                      have Q2 := Lib.hid (QW.out.on b2)
                      clear b1 b2 QW si
                      go_wp2_with fail
                      go_roundw
                      case rel => exact ⟨k0 + 1, by go_num, by omega, by omega, Q2⟩
                      case measure => simp [intOf]; omega
                  · have dk2 : decide ((k0 : Int) ≤ (rs.length : Int)) = false := decide_eq_false (by omega)
                    have dk3 : decide (k0 ≤ rs.length) = false := decide_eq_false hkl
                    clear hkl
                    go_wp2_with fail
                    go_roundw
                    case rel => exact ⟨i0 + 1, by go_num, by omega, QW⟩
                    case measure => simp [intOf]; omega
              · have di : decide (i0 < rs.length) = false := by rw [decide_eq_false_iff_not]; exact hil
                obtain ⟨w0, hw0⟩ : ∃ W, wr = W := ⟨_, rfl⟩
                rw [hw0] at QW ⊢
                have S0 := Lib.hid QW.out.2
                clear hil KC RM CP HO QW hw0
                have C := Lib.hid (ex_any w0)
                go_wp2_with fail
                refine C.out.mono ?_
                rintro e w1 ⟨rfl, y1⟩
                have S1 := Lib.hid (S0.out.on y1)
                clear C S0 y1
                go_wp2_with fail
                go_ret
                exact ⟨rfl, S1.out.below⟩
end Go.Proofs.Ytkpmmojfnhfflaa
