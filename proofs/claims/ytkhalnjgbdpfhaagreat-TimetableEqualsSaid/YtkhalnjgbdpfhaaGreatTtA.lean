/-
  Sizes of the program's timetables: what the call answers; nothing that existed before the call has changed behind it. Condition: few elements.
-/
import Derived.Test.YtkhalnjgbdpfhaaGreatTtX
namespace Go.Proofs.YtkhalnjgbdpfhaaGreat
open Go.RowKit

theorem info_11a : (Tryz.prog.info? 45).map (·.size) = some 11 := by kernel_rfl
theorem sumT_alla (l : List Tp) : sumT (l.take l.length) = sumT l := by rw [List.take_of_length_le (Nat.le_refl _)]
set_option maxRecDepth 100000 in
set_option maxHeartbeats 4000000 in
theorem szC : SzC := by
  intro a c T w hf _ _ h
  show Calls Tryz.prog 13 #[ttV a c T] w fun e w' => e = .returned (szV T) ∧ Below w.heap.size w w'
  obtain ⟨w7, hw7⟩ : ∃ W, w.alloc (boxTt a c T) = W := ⟨_, rfl⟩
  obtain ⟨b7, s7, c7⟩ := box_tt hw7
  have b8 : Below w7.heap.size w7 (w7.alloc (.cells #[.int .i64 0, .int .i64 0, .int .i64 0, .int .i64 0, .int .i64 0, .int .i64 0, .int .i64 0, .int .i64 0, .int .i64 0, .int .i64 0, .int .i64 0] 45 (0, 0))) := (Below.refl _ _).alloc (Nat.le_refl _) _
  have B8 := Lib.hid (b7.trans (b8.mono b7.size))
  have H := Lib.hid ((h.below b7).below b8)
  obtain ⟨p0, p1, p2, p3, p4, p5, p6, p7, p8, p9, p10, p11, p12⟩ := row_tt ((b8.block _ s7).trans c7)
  have FC := Lib.hid (fun (j : Nat) x (hj : T.tr[j]? = some x) => (few_iff.1 hf).2 x (List.mem_of_getElem? hj))
  have FN := Lib.hid (few_iff.1 hf).1
  have S7 := Lib.hid s7
  have B7 := Lib.hid b7
  clear b7 b8 c7 h hf s7 B8
  go_enter Tryz.func13, Tryz.ntmps13
  go_wp2_with fail
  go_loop [3, 8] (fun n i => ∃ k : Nat, i = .int .i64 k ∧ n = .int .i64 (sumT (T.tr.take k)) ∧ k ≤ T.tr.length ∧ Hid (sumT (T.tr.take k) ≤ 40 * k)) (fun _ i => T.tr.length - (intOf i).toNat)
  case atStart => exact ⟨0, rfl, rfl, Nat.zero_le _, Lib.hid (by rw [List.take_zero]; exact Nat.le_refl _)⟩
  case round =>
    obtain ⟨k, rfl, rfl, hk, hs⟩ := hrel
    by_cases hlt : k < T.tr.length
    · obtain ⟨⟨id, r, ca, f, v, cl⟩, hx⟩ := at_lt hlt
      obtain ⟨nm, hnm⟩ : ∃ nm, str id = nm := ⟨_, rfl⟩
      obtain ⟨b, o, B, m, hA, rfl, hb, r0, r1, r2, r3, r4, -, hcl, -⟩ := trip_at H.out.tr hx hnm
      have gk : (k : Int) < (T.tr.length : Int) := by omega
      have h40 : cl.length ≤ 40 := FC.out k _ hx
      have e : sumT (T.tr.take (k + 1)) = sumT (T.tr.take k) + cl.length := sumT_next hx
      have hk4 : T.tr.length ≤ 40 := FN.out.2.2.2.2.1
      have gs : (sumT (T.tr.take k) : Int) + (cl.length : Int) ≤ 9223372036854775807 := by have := hs.out; omega
      have N : Hid (sumT (T.tr.take (k + 1)) ≤ 40 * (k + 1)) := Lib.hid (by rw [e]; have := hs.out; omega)
      rw [hA] at p4
      have E := Lib.hid e
      clear hx hnm hb hA e hs
      go_wp2_with fail
      go_round
      case rel => exact ⟨k + 1, by go_num, by rw [E.out]; go_num, by omega, N⟩
      case measure => simp [intOf]; omega
    · have dk : decide (k < T.tr.length) = false := by rw [decide_eq_false_iff_not]; exact hlt
      have ek : k = T.tr.length := by omega
      subst ek
      rw [sumT_alla]
      clear hs hlt hk FC H FN
      go_wp2_with fail
      refine bodyPost_ret (results_cell_row rfl _ _ w7.heap.size 45 #[.int .i64 T.st.length, .int .i64 T.ro.length, .int .i64 T.ca.length, .int .i64 T.ex.length, .int .i64 T.tr.length, .int .i64 (sumT T.tr), .int .i64 T.fr.length, .int .i64 T.th.length, .int .i64 T.gu.length, .int .i64 T.pa.length, .int .i64 T.pr.length] (0, 0) _ rfl (heap_alloc_new w7 _) Tryz.underlying45 rfl info_11a) rfl ?_
      exact ⟨rfl, B7.out.trans (((Below.refl w7.heap.size w7).alloc (Nat.le_refl _) _).mono B7.out.size)⟩
end Go.Proofs.YtkhalnjgbdpfhaaGreat
