/-
  The reference's ends and kept: what each call answers. Condition: lists of at most 1000 spans.
-/
import Derived.Test.YtmlmdggfcdakhaaVRef
namespace Go.Proofs.Ytmlmdggfcdakhaa
open Go.RowKit

theorem ends_two (x : Int) (u : Value) (cur : List Int) (hc : cur.length ≤ 1000000) (wr : World) (h : LstI wr u cur) : ∀ W, Below wr.heap.size wr W → Calls Try.prog 42 #[u, .int .i64 x] W fun e w' => ∃ v', e = .returned v' ∧ LstI w' v' (insE cur x) ∧ Below wr.heap.size wr w' :=
  fun W hb => (insert_any x u cur hc W (h.below hb)).mono fun _ _ ⟨v', e, l, b⟩ => ⟨v', e, l, hb.trans (b.mono hb.size)⟩
set_option maxRecDepth 100000 in
set_option maxHeartbeats 4000000 in
theorem rends_any (va vb : Value) (a b : List Sp) (ha : a.length ≤ 1000) (hb : b.length ≤ 1000) (w : World) (hA : LstV w va a) (hB : LstV w vb b) :
    Calls Try.prog 31 #[va, vb] w fun e w' => ∃ v', e = .returned v' ∧ LstI w' v' (endsF (endsF [] a) b) ∧ Below w.heap.size w w' := by
  have hh := hA
  obtain ⟨A, ca, rfl, -⟩ := hh
  have hh := hB
  obtain ⟨B, cb, rfl, -⟩ := hh
  have HA := Lib.hid hA
  have HB := Lib.hid hB
  clear hA hB
  go_enter Try.func31, Try.ntmps31
  go_wp2_with fail
  go_loopw [5, 6] (fun u i wr => ∃ k : Nat, i = .int .i64 (k : Int) ∧ k ≤ a.length ∧ Hid (LstI wr u (endsF [] (a.take k))) ∧ Hid (Below w.heap.size w wr)) (fun _ i _ => a.length - (intOf i).toNat)
  case atStart => exact ⟨0, rfl, Nat.zero_le _, Lib.hid (LstI.nil _), Lib.hid (Below.refl _ _)⟩
  case round =>
    obtain ⟨k, rfl, hk, HL, HW⟩ := hrel
    by_cases hlt : k < a.length
    · obtain ⟨s, hs⟩ := at_lt hlt
      obtain ⟨p, o, rfl, hp, m0, m1⟩ := sp_at (HA.out.below HW.out) hs
      have gk : (k : Int) < (a.length : Int) := by omega
      have E := Lib.hid (endsF_next [] hs)
      have n1 : (endsF [] (a.take k)).length ≤ 2000 := by have := endsF_len (a.take k) []; rw [List.length_take] at this; simp at this; omega
      have n2 : (insE (endsF [] (a.take k)) s.1).length ≤ 1000000 := by have := insE_len (endsF [] (a.take k)) s.1; omega
      have C1 := Lib.hid (ends_two s.1 u5 _ (by omega) wr HL.out)
      have b0 := Below.refl wr.heap.size wr
      have C2 := Lib.hid (fun W v' h => ends_two s.2 v' _ n2 W h)
      generalize endsF [] (a.take k) = cur at HL E C1 C2 n1 n2
      clear hs HL n1 n2
      go_wp2_with fail
      go_region_held3 (fun W => W.cell? ⟨p, o + k * 2, none⟩ = some (.int .i64 s.1) ∧ W.cell? ⟨p, o + k * 2 + 1, none⟩ = some (.int .i64 s.2)) (first | assumption | (exact ⟨by assumption, by assumption⟩)) (first | (go_at_call 42; with_reducible refine (C1.out _ (by first | assumption | (apply Below.drew; assumption))).mono ?_; rintro e w1 ⟨v1, rfl, l1, b1⟩; have q0 := (b1.cell (p := ⟨p, o + k * 2, none⟩) hp).trans m0; have q1 := (b1.cell (p := ⟨p, o + k * 2 + 1, none⟩) hp).trans m1; have L1 := Lib.hid l1; have B1 := Lib.hid b1; have hz1 := b1.size; have bb1 := Below.refl w1.heap.size w1; clear l1 b1) | (go_at_call 42; with_reducible refine (C2.out w1 v1 L1.out _ (by first | assumption | (apply Below.drew; assumption))).mono ?_; rintro e w2 ⟨v2, rfl, l2, b2⟩; have r0 := (b2.cell (p := ⟨p, o + k * 2, none⟩) (Nat.lt_of_lt_of_le hp hz1)).trans q0; have r1 := (b2.cell (p := ⟨p, o + k * 2 + 1, none⟩) (Nat.lt_of_lt_of_le hp hz1)).trans q1; have L2 := Lib.hid l2; have B2 := Lib.hid b2; clear l2 b2))
      have L : Hid (LstI w2 v2 (endsF [] (a.take (k + 1)))) := by
        show LstI _ _ _
        rw [E.out]
        exact L2.out
      have W2 : Hid (Below w.heap.size w w2) := HW.out.trans ((B1.out.trans (B2.out.mono hz1)).mono HW.out.size)
      clear E L1 L2 B1 B2 C1 C2 q0 q1 r0 r1 m0 m1 HW
      go_wp2_with fail
      go_roundw
      case rel => exact ⟨k + 1, by go_num, by omega, L, W2⟩
      case measure => simp [intOf]; omega
    · have d : decide (k < a.length) = false := by rw [decide_eq_false_iff_not]; exact hlt
      have L : Hid (LstI wr u5 (endsF [] a)) := by
        have := HL.out
        rw [List.take_of_length_le (by omega)] at this
        exact this
      clear hlt HL hk
      go_wp2_with fail
      go_loopw [5, 7] (fun u i wr => ∃ k : Nat, i = .int .i64 (k : Int) ∧ k ≤ b.length ∧ Hid (LstI wr u (endsF (endsF [] a) (b.take k))) ∧ Hid (Below w.heap.size w wr)) (fun _ i _ => b.length - (intOf i).toNat)
      case atStart => exact ⟨0, rfl, Nat.zero_le _, L, HW⟩
      case round =>
        clear L HW
        obtain ⟨k, rfl, hk, HL, HW⟩ := hrel
        by_cases hlt : k < b.length
        · obtain ⟨s, hs⟩ := at_lt hlt
          obtain ⟨p, o, rfl, hp, m0, m1⟩ := sp_at (HB.out.below HW.out) hs
          have gk : (k : Int) < (b.length : Int) := by omega
          have E := Lib.hid (endsF_next (endsF [] a) hs)
          have n1 : (endsF (endsF [] a) (b.take k)).length ≤ 4000 := by have := endsF_len (b.take k) (endsF [] a); have h2 := endsF_len a []; rw [List.length_take] at this; simp at h2; omega
          have n2 : (insE (endsF (endsF [] a) (b.take k)) s.1).length ≤ 1000000 := by have := insE_len (endsF (endsF [] a) (b.take k)) s.1; omega
          have C1 := Lib.hid (ends_two s.1 u5 _ (by omega) wr HL.out)
          have b0 := Below.refl wr.heap.size wr
          have C2 := Lib.hid (fun W v' h => ends_two s.2 v' _ n2 W h)
          generalize endsF (endsF [] a) (b.take k) = cur at HL E C1 C2 n1 n2
          clear hs HL n1 n2
          go_wp2_with fail
          go_region_held3 (fun W => W.cell? ⟨p, o + k * 2, none⟩ = some (.int .i64 s.1) ∧ W.cell? ⟨p, o + k * 2 + 1, none⟩ = some (.int .i64 s.2)) (first | assumption | (exact ⟨by assumption, by assumption⟩)) (first | (go_at_call 42; with_reducible refine (C1.out _ (by first | assumption | (apply Below.drew; assumption))).mono ?_; rintro e w1 ⟨v1, rfl, l1, b1⟩; have q0 := (b1.cell (p := ⟨p, o + k * 2, none⟩) hp).trans m0; have q1 := (b1.cell (p := ⟨p, o + k * 2 + 1, none⟩) hp).trans m1; have L1 := Lib.hid l1; have B1 := Lib.hid b1; have hz1 := b1.size; have bb1 := Below.refl w1.heap.size w1; clear l1 b1) | (go_at_call 42; with_reducible refine (C2.out w1 v1 L1.out _ (by first | assumption | (apply Below.drew; assumption))).mono ?_; rintro e w2 ⟨v2, rfl, l2, b2⟩; have r0 := (b2.cell (p := ⟨p, o + k * 2, none⟩) (Nat.lt_of_lt_of_le hp hz1)).trans q0; have r1 := (b2.cell (p := ⟨p, o + k * 2 + 1, none⟩) (Nat.lt_of_lt_of_le hp hz1)).trans q1; have L2 := Lib.hid l2; have B2 := Lib.hid b2; clear l2 b2))
          have L : Hid (LstI w2 v2 (endsF (endsF [] a) (b.take (k + 1)))) := by
            show LstI _ _ _
            rw [E.out]
            exact L2.out
          have W2 : Hid (Below w.heap.size w w2) := HW.out.trans ((B1.out.trans (B2.out.mono hz1)).mono HW.out.size)
          clear E L1 L2 B1 B2 C1 C2 q0 q1 r0 r1 m0 m1 HW
          go_wp2_with fail
          go_roundw
          case rel => exact ⟨k + 1, by go_num, by omega, L, W2⟩
          case measure => simp [intOf]; omega
        · have d : decide (k < b.length) = false := by rw [decide_eq_false_iff_not]; exact hlt
          have L : Hid (LstI wr u5 (endsF (endsF [] a) b)) := by
            have := HL.out
            rw [List.take_of_length_le (by omega)] at this
            exact this
          clear hlt HL
          go_wp2_with fail
          go_ret
          exact ⟨_, rfl, L.out, HW.out⟩
/-- Whether an integer is in an operation's result: union, intersection, difference. -/
def opF (kind : Nat) (a b : List Sp) (x : Int) : Bool := if kind = 0 then memS a x || memS b x else if kind = 1 then memS a x && memS b x else memS a x && !memS b x
theorem opF_opr (kind : Nat) (a b : List Sp) : Opr (opF kind a b) a b := by
  by_cases h0 : kind = 0
  · subst h0
    exact opr_or a b
  · by_cases h1 : kind = 1
    · subst h1
      exact opr_and a b
    · have : opF kind a b = fun x => memS a x && !memS b x := funext fun x => by unfold opF; rw [if_neg h0, if_neg h1]
      rw [this]
      exact opr_sub a b
theorem opF_0 (a b : List Sp) : opF 0 a b = fun x => memS a x || memS b x := rfl
theorem opF_1 (a b : List Sp) : opF 1 a b = fun x => memS a x && memS b x := rfl
theorem opF_2 (a b : List Sp) : opF 2 a b = fun x => memS a x && !memS b x := rfl
theorem kept_any (kind : Nat) (hk : kind = 0 ∨ kind = 1 ∨ kind = 2) (x : Int) (va vb : Value) (a b : List Sp) (ha : a.length ≤ 1000) (hb : b.length ≤ 1000) (w : World) (hA : LstV w va a) (hB : LstV w vb b) : Calls Try.prog 32 #[va, vb, .int .i64 (kind : Int), .int .i64 x] w fun e w' => e = .returned (.bool (opF kind a b x)) ∧ w = w' := by
  have C := Lib.hid (rcont_any x va a (by omega) w hA)
  have D := Lib.hid (rcont_any x vb b (by omega) w hB)
  unfold opF
  clear hA hB
  generalize memS a x = p at C ⊢
  generalize memS b x = q at D ⊢
  rcases hk with rfl | rfl | rfl <;> cases p <;> cases q
  all_goals
    go_enter Try.func32, Try.ntmps32
    go_wp2_with (first | (go_at_call 15; with_reducible refine C.out.mono ?_; rintro e w' ⟨rfl, rfl⟩) | (go_at_call 15; with_reducible refine D.out.mono ?_; rintro e w' ⟨rfl, rfl⟩))
    go_ret
    exact ⟨rfl, rfl⟩
end Go.Proofs.Ytmlmdggfcdakhaa
