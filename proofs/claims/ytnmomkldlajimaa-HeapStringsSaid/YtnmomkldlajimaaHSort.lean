/-
  Sort of pairs by a heap; by no function: the elements as they stand. Condition: keys are ints; at most 10^6 elements.
-/
import Derived.Test.YtnmomkldlajimaaHDrn
namespace Go.Proofs.Ytnmomkldlajimaa
open Go.RowKit

/-- An element of a slice of pairs that came in. -/
theorem LstG.pair {w : World} {v : Value} {l : List Pr} (h : LstP w v l) {i : Nat} {a : Pr} (ha : l[i]? = some a) : ∃ b o c, v = .slice (some ⟨b, o, none⟩) l.length c ∧ b < w.heap.size ∧ w.cell? ⟨b, o + i * 2, none⟩ = some (.int .i64 a.1) ∧ w.cell? ⟨b, o + i * 2 + 1, none⟩ = some (.int .i64 a.2) := by
  obtain ⟨A, c, hv, _, _, hx⟩ := h
  have hi := (List.getElem?_eq_some_iff.1 ha).1
  obtain ⟨b, o, rfl, hb, hc⟩ := hx (by omega)
  refine ⟨b, o, c, hv, hb, hc _ _ (fl_at pc_len ha 0 (by omega)), ?_⟩
  have := hc _ _ (fl_at pc_len ha 1 (by omega))
  rwa [← Nat.add_assoc] at this
set_option maxRecDepth 100000 in
set_option maxHeartbeats 4000000 in
theorem sort_any {fn : Value} {less : Pr → Pr → Bool} (hf : Fun fn less) (v : Value) (l : List Pr) (hk : ∀ a ∈ l, Ok2 a) (hl : l.length ≤ 1000000) (w : World) (h : LstP w v l) :
    Calls Try.prog 28 #[v, fn] w fun e w' => ∃ v', e = .returned v' ∧ OwnP w' w.heap.size v' (sortH less l) ∧ Below w.heap.size w w' := by
  have C := Lib.hid (new_any hf w)
  have HF := Lib.hid hf
  obtain ⟨K, rfl, -, -⟩ := hf
  have FN := fun W => fn_not_nil 54 (.func K) #[] #[] Try.underlying54 W
  have hh := h
  obtain ⟨A, c, rfl, -⟩ := hh
  have H := Lib.hid h
  have HK := Lib.hid hk
  clear h hk
  go_enter Try.func28, Try.ntmps28
  go_wp2_with fail
  refine C.out.mono ?_
  rintro e w1 ⟨rfl, s1, b1⟩
  have S1 := Lib.hid s1
  have B1 := Lib.hid b1
  have hz : w.heap.size < w1.heap.size := s1.lt
  clear s1 b1 C
  go_wp2_with fail
  go_loopw [16] (fun u wr => ∃ k : Nat, u = .int .i64 (k : Int) ∧ k ≤ l.length ∧ Hid (St wr w.heap.size (.func (.func K) #[] #[]) (pushAll less [] 0 (l.take k)) k) ∧ Hid (Below w.heap.size w wr)) (fun u _ => l.length - (intOf u).toNat)
  case atStart => exact ⟨0, rfl, Nat.zero_le _, S1, B1⟩
  case round =>
    obtain ⟨k, rfl, hk, HS, HB⟩ := hrel
    by_cases hlt : k < l.length
    · obtain ⟨x, hx⟩ := at_lt hlt
      obtain ⟨b, o, c', hv, hb, x0, x1⟩ := LstG.pair H.out hx
      cases hv
      rw [← HB.out.cell (p := ⟨b, _, none⟩) hb] at x0 x1
      have hlen := pushAll_len less (l.take k) [] 0
      rw [List.length_nil, List.length_take, Nat.zero_add] at hlen
      have C := Lib.hid (fun W hw => push_any HF.out w.heap.size k (pushAll less [] 0 (l.take k)) x (HK.out x (List.mem_iff_getElem?.2 ⟨k, hx⟩)) (by omega) (by omega) W hw)
      have hbr : b < wr.heap.size := Nat.lt_of_lt_of_le hb HB.out.size
      have E : Hid (pushAll less [] 0 (l.take (k + 1)) = pushH less (pushAll less [] 0 (l.take k)) k x) := by
        rw [take_one l k x hx, pushAll_snoc, List.length_take, Nat.min_eq_left (by omega), Nat.zero_add]
        exact rfl
      have gk : (k : Int) < (l.length : Int) := by omega
      clear hx hlen
      go_wp2_with fail
      refine (C.out _ (HS.out.below ((Below.refl _ _).alloc (Nat.le_refl _) _))).mono ?_
      rintro e w2 ⟨rfl, s2, f2⟩
      have S2 : Hid (St w2 w.heap.size (.func (.func K) #[] #[]) (pushAll less [] 0 (l.take (k + 1))) (k + 1)) := by rw [E.out]; exact s2
      have B2 : Hid (Below w.heap.size w w2) := (HB.out.alloc HB.out.size _).trans (f2.below (by have := HB.out.size; simp; omega))
      clear s2 f2 x0 x1 HS HB C E
      go_wp2_with fail
      go_roundw
      case rel => exact ⟨k + 1, by go_num, by omega, S2, B2⟩
      case measure => simp [intOf]; omega
    · have hkl : k = l.length := by omega
      subst hkl
      rw [List.take_length] at HS
      have hlen := pushAll_len less l [] 0
      rw [List.length_nil, Nat.zero_add] at hlen
      have D := Lib.hid (drain_any HF.out w.heap.size l.length (pushAll less [] 0 l) (by omega) wr HS.out)
      clear hlen HS
      go_wp2_with fail
      refine D.out.mono ?_
      rintro e w2 ⟨v', rfl, o2, s2, f2⟩
      have R : Hid (OwnP w2 w.heap.size v' (sortH less l) ∧ Below w.heap.size w w2) := ⟨o2.down HB.out.size, HB.out.trans (f2.below HB.out.size)⟩
      clear o2 s2 f2 D HB
      go_wp2_with fail
      go_ret
      exact ⟨_, rfl, R.out⟩
end Go.Proofs.Ytnmomkldlajimaa
