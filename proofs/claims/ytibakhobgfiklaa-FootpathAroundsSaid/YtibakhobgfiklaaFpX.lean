/-
  Two ranges of a row of footpaths exchanged, a row turned about a place (what a stable sort in place goes by). Condition: rows of at most 100000000 elements.
-/
import Derived.Test.YtibakhobgfiklaaFpO
import Derived.BigRegion
namespace Go.Proofs.Ytibakhobgfiklaa
open Go.RowKit

section
variable {α : Type} {pr : α → Fp}
theorem OwnQ.base {w : World} {base g c n : Nat} {l : List α} (h : OwnQ pr w base (.slice (some ⟨g, 0, none⟩) n c) l) : base ≤ g ∧ g < w.heap.size := by
  rcases h.2 with ⟨h0, -⟩ | ⟨g', c', cur, hv, hb, hg, -⟩
  · cases h0
  · cases hv
    exact ⟨hb, (Array.getElem?_eq_some_iff.1 hg).1⟩
/-- Two elements exchanged. -/
theorem OwnQ.two {w0 w : World} {base g c n : Nat} {l : List α} (hl : l.length = n) (h : OwnQ pr w base (.slice (some ⟨g, 0, none⟩) n c) l) (hb : Below base w0 w) {i j : Nat} (hi : i < n) (hj : j < n) (x y : α) :
    OwnQ pr (put4 (put4 w g (i * 4) (pr y)) g (j * 4) (pr x)).drew base (.slice (some ⟨g, 0, none⟩) n c) ((l.set i y).set j x) ∧ Below base w0 (put4 (put4 w g (i * 4) (pr y)) g (j * 4) (pr x)).drew := by
  have h1 := h.put hl hi y
  have h2 := OwnQ.put (by rw [List.length_set]; exact hl) h1 hj x
  exact ⟨h2.below (Below.refl _ _).drew, (put4_below h.base.1 (put4_below h.base.1 hb _ _) _ _).drew⟩
end
set_option maxRecDepth 100000 in
set_option maxHeartbeats 2000000 in
theorem swr_any {α : Type} (pr : α → Fp) (fv : Value) (base g c N a b n : Nat) (A U C V B : List α) (hA : A.length = a) (hU : U.length = n) (hV : V.length = n) (hC : a + n + C.length = b) (hN : b + n + B.length = N) (hN2 : N ≤ 100000000) (w : World)
    (h : OwnQ pr w base (.slice (some ⟨g, 0, none⟩) N c) (A ++ (U ++ (C ++ (V ++ B))))) (hs : base ≤ w.heap.size) :
    Calls Try.prog 92 #[.slice (some ⟨g, 0, none⟩) N c, .int .i64 (a : Int), .int .i64 (b : Int), .int .i64 (n : Int), fv] w fun e w' =>
      e = .returned (.tuple #[]) ∧ OwnQ pr w' base (.slice (some ⟨g, 0, none⟩) N c) (A ++ (V ++ (C ++ (U ++ B)))) ∧ Below base w w' := by
  have H : Hid (OwnQ pr w base (.slice (some ⟨g, 0, none⟩) N c) (srS A U C V B 0)) := by show OwnQ _ _ _ _ _; rw [sr_start]; exact h
  have HA := Lib.hid hA
  have HC := Lib.hid hC
  have HU := Lib.hid hU
  have HV := Lib.hid hV
  have bN : b + n ≤ N := by omega
  have aN : a + n ≤ b := by omega
  have HN : Hid (A.length + n + C.length + n + B.length = N) := by show _ = _; omega
  have HS := Lib.hid hs
  clear h hA hC hU hV hN hs
  go_enter Try.func92, Try.ntmps92
  go_wp2_with fail
  go_loopw [10] (fun i wr => ∃ k : Nat, i = .int .i64 (k : Int) ∧ k ≤ n ∧ Hid (OwnQ pr wr base (.slice (some ⟨g, 0, none⟩) N c) (srS A U C V B k)) ∧ Hid (Below base w wr)) (fun i _ => n - (intOf i).toNat)
  case atStart => exact ⟨0, rfl, Nat.zero_le _, H, Lib.hid (Below.refl _ _)⟩
  case round =>
    clear H
    obtain ⟨k, rfl, hk, HO, HB⟩ := hrel
    by_cases hlt : k < n
    · obtain ⟨x, y, hx, hy, hxy⟩ := sr_step (A := A) (C := C) (B := B) HU.out HV.out hlt
      rw [HA.out] at hx hy hxy
      rw [HC.out] at hy hxy
      obtain ⟨p, hp⟩ : ∃ p, a + k = p := ⟨_, rfl⟩
      obtain ⟨q, hq⟩ : ∃ q, b + k = q := ⟨_, rfl⟩
      rw [hp] at hx hxy
      rw [hq] at hy hxy
      have hl : (srS A U C V B k).length = N := by rw [sr_len HU.out HV.out hk]; exact HN.out
      obtain ⟨x0, x1, x2, x3, r0, r1, r2, r3⟩ := OwnQ.at hl HO.out hx
      obtain ⟨y0, y1, y2, y3, s0, s1, s2, s3⟩ := OwnQ.at hl HO.out hy
      have K0 := OwnQ.two hl HO.out HB.out (i := p) (j := q) (by omega) (by omega) x y
      rw [hxy] at K0
      unfold put4 at K0
      have K := Lib.hid K0
      have wp : IntKind.i64.wrap ((a : Int) + (k : Int)) = (p : Int) := by rw [IntKind.wrap_i64]; omega
      have wq : IntKind.i64.wrap ((b : Int) + (k : Int)) = (q : Int) := by rw [IntKind.wrap_i64]; omega
      have ep : (a : Int) + (k : Int) = (p : Int) := by omega
      have eq' : (b : Int) + (k : Int) = (q : Int) := by omega
      have gk : (k : Int) < (n : Int) := by omega
      have gp : (p : Int) < (N : Int) := by omega
      have gq : (q : Int) < (N : Int) := by omega
      have fp : (0 : Int) ≤ (p : Int) := by omega
      have fq : (0 : Int) ≤ (q : Int) := by omega
      clear hx hy hxy hl K0 HO HB hp hq
      go_wp2_with fail
      go_region
      go_wp2_with fail
      go_roundw
      case rel => exact ⟨k + 1, by go_num, by omega, Lib.hid K.out.1, Lib.hid K.out.2⟩
      case measure => simp [intOf]; omega
    · obtain rfl : k = n := by omega
      have d : decide ((k : Int) < (k : Int)) = false := by simp
      have K : Hid (OwnQ pr wr base (.slice (some ⟨g, 0, none⟩) N c) (A ++ (V ++ (C ++ (U ++ B)))) ∧ Below base w wr) := by
        have := HO.out
        rw [sr_end HU.out HV.out] at this
        exact ⟨this, HB.out⟩
      clear hlt HO HB
      go_wp2_with fail
      go_end0
      exact ⟨rfl, K.out⟩
set_option maxRecDepth 100000 in
set_option maxHeartbeats 2000000 in
theorem rot_any {α : Type} (pr : α → Fp) (fv : Value) (base g c N a m b : Nat) (A U V B : List α) (hA : A.length = a) (hU : a + U.length = m) (hV : m + V.length = b) (hU0 : 0 < U.length) (hV0 : 0 < V.length) (hN : b + B.length = N) (hN2 : N ≤ 100000000) (w : World)
    (h : OwnQ pr w base (.slice (some ⟨g, 0, none⟩) N c) (A ++ (U ++ (V ++ B)))) (hs : base ≤ w.heap.size) :
    Calls Try.prog 88 #[.slice (some ⟨g, 0, none⟩) N c, .int .i64 (a : Int), .int .i64 (m : Int), .int .i64 (b : Int), fv] w fun e w' =>
      e = .returned (.tuple #[]) ∧ OwnQ pr w' base (.slice (some ⟨g, 0, none⟩) N c) (A ++ (V ++ (U ++ B))) ∧ Below base w w' := by
  have H := Lib.hid h
  have HS := Lib.hid hs
  have e0 : (m : Int) - (a : Int) = (U.length : Int) := by omega
  have e1 : (b : Int) - (m : Int) = (V.length : Int) := by omega
  have bm : m ≤ 100000000 := by omega
  have bb : b ≤ 100000000 := by omega
  have bU : U.length ≤ 100000000 := by omega
  have bV : V.length ≤ 100000000 := by omega
  have A0 : Hid (A.length + U.length = m ∧ m + V.length + B.length = N ∧ 0 < U.length ∧ 0 < V.length) := by refine ⟨?_, ?_, ?_, ?_⟩ <;> omega
  clear h hA hU hV hU0 hV0 hN hs
  go_enter Try.func88, Try.ntmps88
  go_wp2_with fail
  clear e0 e1 bU bV bb
  go_loopw [10, 11] (fun i j wr => ∃ (p q : Nat) (A' U' V' B' : List α), i = .int .i64 (p : Int) ∧ j = .int .i64 (q : Int) ∧ Hid (U'.length = p ∧ V'.length = q) ∧ Hid (A'.length + p = m ∧ m + q + B'.length = N ∧ 0 < p ∧ 0 < q) ∧ Hid (OwnQ pr wr base (.slice (some ⟨g, 0, none⟩) N c) (A' ++ (U' ++ (V' ++ B')))) ∧ Hid (A' ++ (V' ++ (U' ++ B')) = A ++ (V ++ (U ++ B))) ∧ Hid (Below base w wr)) (fun i j _ => (intOf i).toNat + (intOf j).toNat)
  case atStart => exact ⟨_, _, A, U, V, B, rfl, rfl, Lib.hid ⟨rfl, rfl⟩, A0, H, Lib.hid rfl, Lib.hid (Below.refl _ _)⟩
  case round =>
    clear H A0
    obtain ⟨p, q, A', U', V', B', rfl, rfl, HL, HN, HO, HE, HB⟩ := hrel
    obtain ⟨a', ha'⟩ : ∃ a', A'.length = a' := ⟨_, rfl⟩
    have hn := HN.out
    rw [ha'] at hn
    obtain ⟨n1, n2, n3, n4⟩ := hn
    have e2 : (m : Int) - (p : Int) = (a' : Int) := by omega
    have bp : p ≤ 100000000 := by omega
    have bq : q ≤ 100000000 := by omega
    have ba : a' ≤ 100000000 := by omega
    have hbw : base ≤ wr.heap.size := Nat.le_trans HS.out HB.out.size
    have HW := Lib.hid hbw
    have HA := Lib.hid ha'
    clear hbw ha' HN
    by_cases hpq : p = q
    · subst hpq
      have t : ((p : Int) != (p : Int)) = false := by simp
      have C := Lib.hid (swr_any pr fv base g c N a' m p A' U' [] V' B' HA.out HL.out.1 HL.out.2 (by show a' + p + 0 = m; omega) (by omega) hN2 wr (by rw [List.nil_append]; exact HO.out) HW.out)
      clear n1 n2 n3 n4
      go_wp2_with fail
      refine C.out.mono ?_
      rintro e w2 ⟨rfl, o2, b2⟩
      have K : Hid (OwnQ pr w2 base (.slice (some ⟨g, 0, none⟩) N c) (A ++ (V ++ (U ++ B))) ∧ Below base w w2) := by
        rw [List.nil_append, HE.out] at o2
        exact ⟨o2, HB.out.trans b2⟩
      clear o2 b2 C HO HB HE
      go_wp2_with fail
      go_end0
      exact ⟨rfl, K.out⟩
    have t := bne_true (a := (p : Int)) (b := (q : Int)) (by omega)
    by_cases hlt : q < p
    · have g1 : (q : Int) < (p : Int) := by omega
      obtain ⟨r, hr⟩ : ∃ r, p - q = r := ⟨_, rfl⟩
      have e3 : (p : Int) - (q : Int) = (r : Int) := by omega
      have hu1 : (U'.take q).length = q := by have := HL.out.1; rw [List.length_take]; omega
      have hu2 : (U'.drop q).length = r := by have := HL.out.1; rw [List.length_drop]; omega
      have C := Lib.hid (swr_any pr fv base g c N a' m q A' (U'.take q) (U'.drop q) V' B' HA.out hu1 HL.out.2 (by rw [hu2]; omega) (by omega) hN2 wr (by rw [← List.append_assoc (U'.take q), List.take_append_drop]; exact HO.out) HW.out)
      have NX : Hid (0 < r ∧ (A' ++ V').length + r = m ∧ r + q = p) := by
        refine ⟨by omega, ?_, by omega⟩
        rw [List.length_append, HA.out, HL.out.2]
        omega
      have LX : Hid ((U'.drop q).length = r ∧ (U'.take q).length = q) := Lib.hid ⟨hu2, hu1⟩
      have EX : Hid ((A' ++ V') ++ (U'.take q ++ (U'.drop q ++ B')) = A ++ (V ++ (U ++ B))) := by
        have := HE.out
        rw [← List.take_append_drop q U'] at this
        simp only [List.append_assoc] at this ⊢
        exact this
      have MX : Hid (m + q + B'.length = N ∧ 0 < q) := Lib.hid ⟨n2, n4⟩
      clear n1 n2 n3 n4 hpq hlt hr hu1 hu2 HE HL HO
      go_wp2_with fail
      refine C.out.mono ?_
      rintro e w2 ⟨rfl, o2, b2⟩
      have O2 : Hid (OwnQ pr w2 base (.slice (some ⟨g, 0, none⟩) N c) ((A' ++ V') ++ (U'.drop q ++ (U'.take q ++ B')))) := by
        show OwnQ _ _ _ _ _
        rw [List.append_assoc]
        exact o2
      have B2 := Lib.hid (HB.out.trans b2)
      clear o2 b2 C HB
      go_wp2_with fail
      go_roundw
      case rel => exact ⟨r, q, A' ++ V', U'.drop q, U'.take q, B', by first | rfl | go_num, by first | rfl | go_num, LX, Lib.hid ⟨NX.out.2.1, MX.out.1, NX.out.1, MX.out.2⟩, O2, EX, B2⟩
      case measure => have := NX.out; have := MX.out; simp [intOf]; omega
    · have d1 : decide ((q : Int) < (p : Int)) = false := by rw [decide_eq_false_iff_not]; omega
      obtain ⟨r, hr⟩ : ∃ r, q - p = r := ⟨_, rfl⟩
      have e3 : (q : Int) - (p : Int) = (r : Int) := by omega
      have e4 : (m : Int) + (q : Int) - (p : Int) = ((m + r : Nat) : Int) := by omega
      have hv1 : (V'.take r).length = r := by have := HL.out.2; rw [List.length_take]; omega
      have hv2 : (V'.drop r).length = p := by have := HL.out.2; rw [List.length_drop]; omega
      have C := Lib.hid (swr_any pr fv base g c N a' (m + r) p A' U' (V'.take r) (V'.drop r) B' HA.out HL.out.1 hv2 (by rw [hv1]; omega) (by omega) hN2 wr (by rw [← List.append_assoc (V'.take r), List.take_append_drop]; exact HO.out) HW.out)
      have NX : Hid (0 < r ∧ A'.length + p = m ∧ r + p = q ∧ m + r + (U' ++ B').length = N) := by
        refine ⟨by omega, by rw [HA.out]; omega, by omega, ?_⟩
        rw [List.length_append, HL.out.1]
        omega
      have LX : Hid ((V'.drop r).length = p ∧ (V'.take r).length = r) := Lib.hid ⟨hv2, hv1⟩
      have EX : Hid (A' ++ (V'.take r ++ (V'.drop r ++ (U' ++ B'))) = A ++ (V ++ (U ++ B))) := by
        have := HE.out
        rw [← List.take_append_drop r V'] at this
        simp only [List.append_assoc] at this ⊢
        exact this
      have MX : Hid (0 < p) := Lib.hid n3
      clear n1 n2 n3 n4 hpq hlt hr hv1 hv2 HE HL HO
      go_wp2_with fail
      refine C.out.mono ?_
      rintro e w2 ⟨rfl, o2, b2⟩
      have O2 : Hid (OwnQ pr w2 base (.slice (some ⟨g, 0, none⟩) N c) (A' ++ (V'.drop r ++ (V'.take r ++ (U' ++ B'))))) := Lib.hid o2
      have B2 := Lib.hid (HB.out.trans b2)
      clear o2 b2 C HB
      go_wp2_with fail
      go_roundw
      case rel => exact ⟨p, r, A', V'.drop r, V'.take r, U' ++ B', by first | rfl | go_num, by first | rfl | go_num, LX, Lib.hid ⟨NX.out.2.1, NX.out.2.2.2, MX.out, NX.out.1⟩, O2, EX, B2⟩
      case measure => have := NX.out; have := MX.out; simp [intOf]; omega
end Go.Proofs.Ytibakhobgfiklaa
