/-
  The chapter's examples hold. Condition: none.
-/
import Derived.Test.YtnmomkldlajimaaHExa
namespace Go.Proofs.Ytnmomkldlajimaa
open Go.RowKit

theorem exP_ok : ∀ a ∈ exP, Ok2 a := by
  intro a ha
  simp [exP] at ha
  rcases ha with rfl | rfl | rfl <;> exact ⟨by decide, by decide⟩
theorem exS_ok : ∀ a ∈ exS, Ok2 a := by
  intro a ha
  simp [exS] at ha
  rcases ha with rfl | rfl | rfl | rfl <;> exact ⟨by decide, by decide⟩
theorem ex_drain : drainH lUp (pushAll lUp [] 0 exP) = [(1, 0), (2, 0), (3, 0)] := (sort_sel up_ord exP).trans ex_sel
theorem ex_sort : sortH lUp exS = [(0, 2), (0, 4), (1, 1), (1, 3)] := (sort_sel up_ord exS).trans ex_sel2
theorem ex_top {a : Pr × Nat} (ha : (pushAll lUp [] 0 exP)[0]? = some a) : a.1 = (1, 0) := by
  have h := top_sel up_ord exP ha
  rw [show exP[firstI lUp exP]? = some ((1 : Int), (0 : Int)) by decide] at h
  exact (Option.some.inj h).symm
theorem exP_at (k : Nat) (x : Int) (h : exK[k]? = some x) : exP[k]? = some (x, 0) := by
  match k, h with
  | 0, h => cases h; rfl
  | 1, h => cases h; rfl
  | 2, h => cases h; rfl
  | k + 3, h => simp [exK] at h
set_option maxRecDepth 100000 in
set_option maxHeartbeats 4000000 in
theorem ex_any (w : World) : Calls Try.prog 11 #[] w fun e w' => e = .returned (.bool true) ∧ Below w.heap.size w w' := by
  have C := Lib.hid (made_any 0 w)
  go_enter Try.func11, Try.ntmps11
  go_wp2_with fail
  refine C.out.mono ?_
  rintro e w1 ⟨rfl, s1, b1⟩
  have S1 : Hid (St (w1.alloc (.cells #[.int .i64 3, .int .i64 1, .int .i64 2] 3 (0, 0))) w.heap.size (fnM 0) [] 0) := s1.below ((Below.refl _ _).alloc (Nat.le_refl _) _)
  have B1 : Hid (Below w.heap.size w (w1.alloc (.cells #[.int .i64 3, .int .i64 1, .int .i64 2] 3 (0, 0)))) := b1.alloc b1.size _
  have r1 := heap_alloc_new w1 (.cells #[.int .i64 3, .int .i64 1, .int .i64 2] 3 (0, 0))
  have hz : w1.heap.size < (w1.alloc (.cells #[.int .i64 3, .int .i64 1, .int .i64 2] 3 (0, 0))).heap.size := by simp
  clear s1 b1 C
  go_wp2_with fail
  generalize w1.alloc (.cells #[.int .i64 3, .int .i64 1, .int .i64 2] 3 (0, 0)) = w2 at S1 B1 r1 hz ⊢
  have R1 := Lib.hid r1
  clear r1
  go_loopw [13] (fun u wr => ∃ k : Nat, u = .int .i64 (k : Int) ∧ k ≤ 3 ∧ Hid (St wr w.heap.size (fnM 0) (pushAll lUp [] 0 (exP.take k)) k) ∧ Hid (Fr HT w.heap.size w2 wr) ∧ Hid (Below w.heap.size w wr)) (fun u _ => 3 - (intOf u).toNat)
  case atStart => exact ⟨0, rfl, by omega, S1, Lib.hid (Fr.refl _ _ _), B1⟩
  case round =>
    obtain ⟨k, rfl, hk, HS, HF, HB⟩ := hrel
    by_cases hlt : k < 3
    · obtain ⟨x, hx⟩ := at_lt (l := exK) (k := k) hlt
      have rr := HF.out.other R1.out (fun h => by rcases h with h | h <;> cases h)
      have x0 : wr.cell? ⟨w1.heap.size, k, none⟩ = some (.int .i64 x) := by
        rw [cell_of_row _ _ k _ _ _ rr]
        match k, hx with
        | 0, hx => cases hx; rfl
        | 1, hx => cases hx; rfl
        | 2, hx => cases hx; rfl
        | k + 3, hx => simp [exK] at hx
      have hp := exP_at k x hx
      have hlen := pushAll_len lUp (exP.take k) [] 0
      rw [List.length_nil, List.length_take, Nat.zero_add] at hlen
      have hl3 : exP.length = 3 := rfl
      have C := Lib.hid (push_any fun_up w.heap.size k (pushAll lUp [] 0 (exP.take k)) (x, 0) (ok_at exP_ok hp) (by omega) (by omega) wr HS.out)
      have E : Hid (pushAll lUp [] 0 (exP.take (k + 1)) = pushH lUp (pushAll lUp [] 0 (exP.take k)) k (x, 0)) := by
        rw [take_one exP k _ hp, pushAll_snoc, List.length_take, Nat.min_eq_left (by omega), Nat.zero_add]
        exact rfl
      have gk : (k : Int) < 3 := by omega
      clear hx rr hp hlen hl3
      go_wp2_with fail
      refine C.out.mono ?_
      rintro e w3 ⟨rfl, s3, f3⟩
      have S3 : Hid (St w3 w.heap.size (fnM 0) (pushAll lUp [] 0 (exP.take (k + 1))) (k + 1)) := by rw [E.out]; exact s3
      have F3 : Hid (Fr HT w.heap.size w2 w3) := HF.out.trans f3
      have B3 : Hid (Below w.heap.size w w3) := HB.out.trans (f3.below HB.out.size)
      clear s3 f3 x0 HS HF HB C E
      go_wp2_with fail
      go_roundw
      case rel => exact ⟨k + 1, by go_num, by omega, S3, F3, B3⟩
      case measure => simp [intOf]; omega
    · have hk3 : k = 3 := by omega
      subst hk3
      clear HF R1 hz
      rw [show exP.take 3 = exP from rfl] at HS
      have hlen := pushAll_len lUp exP [] 0
      rw [show exP.length = 3 from rfl, List.length_nil] at hlen
      obtain ⟨a, ha⟩ := at_lt (l := pushAll lUp [] 0 exP) (k := 0) (by omega)
      have ea := ex_top ha
      have C := Lib.hid (peek_yes w.heap.size 3 (pushAll lUp [] 0 exP) a ha (by omega) wr HS.out)
      rw [ea] at C
      clear ha ea hlt
      go_wp2_with fail
      refine C.out.mono ?_
      rintro e w3 ⟨rfl, b3⟩
      have b3' : Below wr.heap.size wr (w3.alloc (.cells #[.int .i64 1, .int .i64 0] 28 (0, 0))) := b3.alloc b3.size _
      have S3 : Hid (St (w3.alloc (.cells #[.int .i64 1, .int .i64 0] 28 (0, 0))) w.heap.size (fnM 0) (pushAll lUp [] 0 exP) 3) := HS.out.below b3'
      have B3 : Hid (Below w.heap.size w (w3.alloc (.cells #[.int .i64 1, .int .i64 0] 28 (0, 0)))) := HB.out.trans (b3'.mono HB.out.size)
      have r3 := heap_alloc_new w3 (.cells #[.int .i64 1, .int .i64 0] 28 (0, 0))
      clear HS HB C b3 b3'
      go_wp2_with fail
      generalize w3.alloc (.cells #[.int .i64 1, .int .i64 0] 28 (0, 0)) = w4 at S3 B3 r3 ⊢
      refine (drain_any fun_up w.heap.size 3 (pushAll lUp [] 0 exP) (by omega) w4 S3.out).mono ?_
      rintro e w5 ⟨v5, rfl, o5, s5, f5⟩
      rw [ex_drain] at o5
      have r5 := f5.other r3 not_ht
      have B5 : Hid (Below w.heap.size w w5) := B3.out.trans (f5.below B3.out.size)
      have O5 := Lib.hid (OwnG.lst o5)
      have S5 := Lib.hid s5
      have R5 := Lib.hid r5
      clear r3 o5 s5 f5 r5 S3 B3 hlen
      go_wp2_with fail
      have b6 : Below w5.heap.size w5 (w5.alloc (.cells #[.int .i64 1, .int .i64 1, .int .i64 0, .int .i64 2, .int .i64 1, .int .i64 3, .int .i64 0, .int .i64 4] 28 (0, 0))) := (Below.refl _ _).alloc (Nat.le_refl _) _
      refine (sort_any fun_up _ exS exS_ok (by decide) _ (lstG_lit (enc := pc) w5 #[.int .i64 1, .int .i64 1, .int .i64 0, .int .i64 2, .int .i64 1, .int .i64 3, .int .i64 0, .int .i64 4] 28 exS rfl 4 rfl)).mono ?_
      rintro e w7 ⟨v7, rfl, o7, b7⟩
      rw [ex_sort] at o7
      have b57 : Below w5.heap.size w5 w7 := b6.trans (b7.mono b6.size)
      have B7 : Hid (Below w.heap.size w w7) := B5.out.trans (b57.mono B5.out.size)
      have O7 := Lib.hid (OwnG.lst o7)
      have V5 := Lib.hid (O5.out.below b57)
      have S7 := Lib.hid (S5.out.below b57)
      have r7 := (b57.block _ (Tag.lt ⟨_, _, R5.out⟩)).trans R5.out
      have x0 : w7.cell? ⟨w3.heap.size, 0, none⟩ = some (.int .i64 1) := by rw [cell_of_row _ _ 0 _ _ _ r7]; rfl
      have L := Lib.hid (len_any w.heap.size 3 [] w7 S7.out)
      clear r7 o7 b7 b57 b6 B5 O5 S5 R5
      go_wp2_with fail
      refine L.out.mono ?_
      rintro e w' ⟨rfl, rfl⟩
      go_wp2_with fail
      refine (rel (W := w7) (same_any v5 _ [(1, 0), (2, 0), (3, 0)] (by decide) _ (V5.out.below ((Below.refl _ _).alloc (Nat.le_refl _) _)) (lstG_lit (enc := pc) w7 #[.int .i64 1, .int .i64 0, .int .i64 2, .int .i64 0, .int .i64 3, .int .i64 0] 28 [(1, 0), (2, 0), (3, 0)] rfl 3 rfl)) ((Below.refl _ _).alloc (Nat.le_refl _) _)).mono ?_
      rintro e w8 ⟨rfl, b8⟩
      have O8 := Lib.hid (O7.out.below b8)
      have B8 : Hid (Below w.heap.size w w8) := B7.out.trans (b8.mono B7.out.size)
      clear b8 O7 V5 S7 L B7 x0
      go_wp2_with fail
      refine (rel (W := w8) (same_any v7 _ [(0, 2), (0, 4), (1, 1), (1, 3)] (by decide) _ (O8.out.below ((Below.refl _ _).alloc (Nat.le_refl _) _)) (lstG_lit (enc := pc) w8 #[.int .i64 0, .int .i64 2, .int .i64 0, .int .i64 4, .int .i64 1, .int .i64 1, .int .i64 1, .int .i64 3] 28 [(0, 2), (0, 4), (1, 1), (1, 3)] rfl 4 rfl)) ((Below.refl _ _).alloc (Nat.le_refl _) _)).mono ?_
      rintro e w9 ⟨rfl, b9⟩
      have B9 : Hid (Below w.heap.size w w9) := B8.out.trans (b9.mono B8.out.size)
      clear b9 O8 B8
      go_wp2_with fail
      go_ret
      exact ⟨rfl, B9.out⟩
end Go.Proofs.Ytnmomkldlajimaa
