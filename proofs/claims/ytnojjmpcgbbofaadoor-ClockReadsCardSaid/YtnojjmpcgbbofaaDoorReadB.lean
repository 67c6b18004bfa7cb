/-
  ParseDuration of the reference of package clock at hours, minutes and seconds: what the call answers; nothing that existed before the call has changed behind it. Condition: the text has at most 4096 bytes; what its callees answer.
-/
import Derived.Test.YtnojjmpcgbbofaaDoorRead
namespace Go.Proofs.YtnojjmpcgbbofaaDoor
open Go.RowKit

set_option maxHeartbeats 1000000 in
theorem rp_big (s r z R y H : ByteArray) (c1 c4 c3 sec : Int) (f : ByteArray → Int)
    (k1 : ∀ W, (Instr.index 9 (.string s) (.int .i64 (s.size - 1))).run Tryd.prog W = .ok (.int .u8 c1) W)
    (s1 : ∀ W, (Instr.slice 9 (.string s) none (some (.int .i64 (s.size - 1))) none).run Tryd.prog W = .ok (.string r) W)
    (k4 : ∀ W, (Instr.index 9 (.string s) (.int .i64 (s.size - 4))).run Tryd.prog W = .ok (.int .u8 c4) W)
    (s3 : ∀ W, (Instr.slice 9 (.string s) (some (.int .i64 (s.size - 3))) (some (.int .i64 (s.size - 1))) none).run Tryd.prog W = .ok (.string z) W)
    (s4 : ∀ W, (Instr.slice 9 (.string s) none (some (.int .i64 (s.size - 4))) none).run Tryd.prog W = .ok (.string R) W)
    (k3 : ∀ W, (Instr.index 9 (.string R) (.int .i64 (R.size - 3))).run Tryd.prog W = .ok (.int .u8 c3) W)
    (s2 : ∀ W, (Instr.slice 9 (.string R) (some (.int .i64 (R.size - 2))) none none).run Tryd.prog W = .ok (.string y) W)
    (s5 : ∀ W, (Instr.slice 9 (.string R) none (some (.int .i64 (R.size - 3))) none).run Tryd.prog W = .ok (.string H) W)
    (cp : ∀ w : World, Calls Tryd.prog 43 #[.string r] w fun e w' => e = .returned (.bool false) ∧ w = w')
    (cb : ∀ w : World, Calls Tryd.prog 45 #[.string z] w fun e w' => e = .returned (.bool true) ∧ w = w')
    (cz : ∀ w : World, Calls Tryd.prog 44 #[.string z] w fun e w' => e = .returned (.int .i64 sec) ∧ w = w')
    (cpr : ∀ w : World, Calls Tryd.prog 43 #[.string R] w fun e w' => e = .returned (.bool false) ∧ w = w')
    (cby : ∀ w : World, Calls Tryd.prog 45 #[.string y] w fun e w' => e = .returned (.bool true) ∧ w = w')
    (cph : ∀ w : World, Calls Tryd.prog 43 #[.string H] w fun e w' => e = .returned (.bool true) ∧ w = w')
    (cx : ∀ x : ByteArray, x = H ∨ x = y → ∀ w : World, Calls Tryd.prog 44 #[.string x] w fun e w' => e = .returned (.int .i64 (f x)) ∧ w = w')
    (g2 : 5 ≤ s.size)
    (gm : s.size ≤ 4096)
    (i2 : ¬ (s.size : Int) < 2)
    (i5 : ¬ (s.size : Int) < 5)
    (t1 : (c1 != 115) = false)
    (t4 : (c4 != 109) = false)
    (g4 : 4 ≤ R.size)
    (gr : R.size ≤ 4096)
    (i4 : ¬ (R.size : Int) < 4)
    (t3 : (c3 != 104) = false)
    (u0 : 0 ≤ sec)
    (u1 : sec < 60)
    (xh : (f H == 0) = false)
    (h0 : 0 ≤ f H)
    (h1 : f H ≤ 1000000)
    (y0 : 0 ≤ f y)
    (y1 : f y < 60)
    (xt : 359999 < 3600 * f H + 60 * f y + sec) (w : World) :
    Calls Tryd.prog 25 #[.string s] w fun e w' => e = .returned (.tuple #[.int .i64 0, .int .i64 2]) ∧ Below w.heap.size w w' := by
  have CP := Lib.hid cp
  have CB := Lib.hid cb
  have CZ := Lib.hid cz
  have CPR := Lib.hid cpr
  have CBY := Lib.hid cby
  have CPH := Lib.hid cph
  have CX := Lib.hid cx
  clear cp cb cz cpr cby cph cx
  go_enter Tryd.func25, Tryd.ntmps25
  go_wp2_with fail
  refine (CP.out _).mono ?_
  rintro e w0 ⟨rfl, rfl⟩
  go_wp2_with fail
  refine (CB.out _).mono ?_
  rintro e w0 ⟨rfl, rfl⟩
  go_wp2_with fail
  go_quiet ((go_at_call 44; exact Calls.quiet_of_same ((CZ.out _).mono fun _ _ ⟨h1, h2⟩ => ⟨h1, h2.symm⟩)))
  have b1 := below_drewN (Below.refl w.heap.size w) nq
  generalize w.drewN nq = w1 at b1 ⊢
  go_wp2_with fail
  refine (CPR.out _).mono ?_
  rintro e w0 ⟨rfl, rfl⟩
  go_wp2_with fail
  refine (CBY.out _).mono ?_
  rintro e w0 ⟨rfl, rfl⟩
  go_wp2_with fail
  refine (CPH.out _).mono ?_
  rintro e w0 ⟨rfl, rfl⟩
  go_wp2_with fail
  refine (CX.out H (Or.inl rfl) _).mono ?_
  rintro e w0 ⟨rfl, rfl⟩
  go_wp2_with fail
  go_quiet ((go_at_call 44; exact Calls.quiet_of_same ((CX.out _ (by first | exact Or.inl rfl | exact Or.inr rfl) _).mono fun _ _ ⟨h1, h2⟩ => ⟨h1, h2.symm⟩)))
  have b2 := below_drewN b1 nq
  generalize w1.drewN nq = w2 at b2 ⊢
  go_wp2_with fail
  go_ret2
  exact ⟨rfl, b2⟩
set_option maxHeartbeats 1000000 in
theorem rp_ok (s r z R y H : ByteArray) (c1 c4 c3 sec : Int) (f : ByteArray → Int)
    (k1 : ∀ W, (Instr.index 9 (.string s) (.int .i64 (s.size - 1))).run Tryd.prog W = .ok (.int .u8 c1) W)
    (s1 : ∀ W, (Instr.slice 9 (.string s) none (some (.int .i64 (s.size - 1))) none).run Tryd.prog W = .ok (.string r) W)
    (k4 : ∀ W, (Instr.index 9 (.string s) (.int .i64 (s.size - 4))).run Tryd.prog W = .ok (.int .u8 c4) W)
    (s3 : ∀ W, (Instr.slice 9 (.string s) (some (.int .i64 (s.size - 3))) (some (.int .i64 (s.size - 1))) none).run Tryd.prog W = .ok (.string z) W)
    (s4 : ∀ W, (Instr.slice 9 (.string s) none (some (.int .i64 (s.size - 4))) none).run Tryd.prog W = .ok (.string R) W)
    (k3 : ∀ W, (Instr.index 9 (.string R) (.int .i64 (R.size - 3))).run Tryd.prog W = .ok (.int .u8 c3) W)
    (s2 : ∀ W, (Instr.slice 9 (.string R) (some (.int .i64 (R.size - 2))) none none).run Tryd.prog W = .ok (.string y) W)
    (s5 : ∀ W, (Instr.slice 9 (.string R) none (some (.int .i64 (R.size - 3))) none).run Tryd.prog W = .ok (.string H) W)
    (cp : ∀ w : World, Calls Tryd.prog 43 #[.string r] w fun e w' => e = .returned (.bool false) ∧ w = w')
    (cb : ∀ w : World, Calls Tryd.prog 45 #[.string z] w fun e w' => e = .returned (.bool true) ∧ w = w')
    (cz : ∀ w : World, Calls Tryd.prog 44 #[.string z] w fun e w' => e = .returned (.int .i64 sec) ∧ w = w')
    (cpr : ∀ w : World, Calls Tryd.prog 43 #[.string R] w fun e w' => e = .returned (.bool false) ∧ w = w')
    (cby : ∀ w : World, Calls Tryd.prog 45 #[.string y] w fun e w' => e = .returned (.bool true) ∧ w = w')
    (cph : ∀ w : World, Calls Tryd.prog 43 #[.string H] w fun e w' => e = .returned (.bool true) ∧ w = w')
    (cx : ∀ x : ByteArray, x = H ∨ x = y → ∀ w : World, Calls Tryd.prog 44 #[.string x] w fun e w' => e = .returned (.int .i64 (f x)) ∧ w = w')
    (g2 : 5 ≤ s.size)
    (gm : s.size ≤ 4096)
    (i2 : ¬ (s.size : Int) < 2)
    (i5 : ¬ (s.size : Int) < 5)
    (t1 : (c1 != 115) = false)
    (t4 : (c4 != 109) = false)
    (g4 : 4 ≤ R.size)
    (gr : R.size ≤ 4096)
    (i4 : ¬ (R.size : Int) < 4)
    (t3 : (c3 != 104) = false)
    (u0 : 0 ≤ sec)
    (u1 : sec < 60)
    (xh : (f H == 0) = false)
    (h0 : 0 ≤ f H)
    (h1 : f H ≤ 1000000)
    (y0 : 0 ≤ f y)
    (y1 : f y < 60)
    (xt : ¬ 359999 < 3600 * f H + 60 * f y + sec) (w : World) :
    Calls Tryd.prog 25 #[.string s] w fun e w' => e = .returned (.tuple #[.int .i64 (3600 * f H + 60 * f y + sec), .int .i64 0]) ∧ Below w.heap.size w w' := by
  have CP := Lib.hid cp
  have CB := Lib.hid cb
  have CZ := Lib.hid cz
  have CPR := Lib.hid cpr
  have CBY := Lib.hid cby
  have CPH := Lib.hid cph
  have CX := Lib.hid cx
  clear cp cb cz cpr cby cph cx
  go_enter Tryd.func25, Tryd.ntmps25
  go_wp2_with fail
  refine (CP.out _).mono ?_
  rintro e w0 ⟨rfl, rfl⟩
  go_wp2_with fail
  refine (CB.out _).mono ?_
  rintro e w0 ⟨rfl, rfl⟩
  go_wp2_with fail
  go_quiet ((go_at_call 44; exact Calls.quiet_of_same ((CZ.out _).mono fun _ _ ⟨h1, h2⟩ => ⟨h1, h2.symm⟩)))
  have b1 := below_drewN (Below.refl w.heap.size w) nq
  generalize w.drewN nq = w1 at b1 ⊢
  go_wp2_with fail
  refine (CPR.out _).mono ?_
  rintro e w0 ⟨rfl, rfl⟩
  go_wp2_with fail
  refine (CBY.out _).mono ?_
  rintro e w0 ⟨rfl, rfl⟩
  go_wp2_with fail
  refine (CPH.out _).mono ?_
  rintro e w0 ⟨rfl, rfl⟩
  go_wp2_with fail
  refine (CX.out H (Or.inl rfl) _).mono ?_
  rintro e w0 ⟨rfl, rfl⟩
  go_wp2_with fail
  go_quiet ((go_at_call 44; exact Calls.quiet_of_same ((CX.out _ (by first | exact Or.inl rfl | exact Or.inr rfl) _).mono fun _ _ ⟨h1, h2⟩ => ⟨h1, h2.symm⟩)))
  have b2 := below_drewN b1 nq
  generalize w1.drewN nq = w2 at b2 ⊢
  go_wp2_with fail
  go_ret2
  exact ⟨rfl, b2⟩
end Go.Proofs.YtnojjmpcgbbofaaDoor
