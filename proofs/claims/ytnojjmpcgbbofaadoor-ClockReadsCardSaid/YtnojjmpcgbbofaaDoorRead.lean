/-
  ParseDuration of the reference of package clock, way by way: what each call answers; nothing that existed before the call has changed behind it. Condition: the text has at most 4096 bytes; what its callees answer.
-/
import Derived.Test.YtnojjmpcgbbofaaDoorRDur
import Derived.Deep.QuietTactic
import Derived.BigQuiet
namespace Go.Proofs.YtnojjmpcgbbofaaDoor
open Go.RowKit

theorem rp_short (s : ByteArray) (h : s.size < 2) (w : World) :
    Calls Tryd.prog 25 #[.string s] w fun e w' => e = .returned (.tuple #[.int .i64 0, .int .i64 3]) ∧ Below w.heap.size w w' := by
  have i : (s.size : Int) < 2 := by omega
  go_enter Tryd.func25, Tryd.ntmps25
  go_wp2_with fail
  go_ret2
  exact ⟨rfl, Below.refl _ _⟩
theorem rp_end (s : ByteArray) (c1 : Int)
    (k1 : ∀ W, (Instr.index 9 (.string s) (.int .i64 (s.size - 1))).run Tryd.prog W = .ok (.int .u8 c1) W)
    (g2 : 2 ≤ s.size)
    (gm : s.size ≤ 4096)
    (i2 : ¬ (s.size : Int) < 2)
    (t1 : (c1 != 115) = true) (w : World) :
    Calls Tryd.prog 25 #[.string s] w fun e w' => e = .returned (.tuple #[.int .i64 0, .int .i64 3]) ∧ Below w.heap.size w w' := by
  go_enter Tryd.func25, Tryd.ntmps25
  go_wp2_with fail
  go_ret2
  exact ⟨rfl, Below.refl _ _⟩
theorem rp_plain (s r : ByteArray) (c1 v : Int)
    (k1 : ∀ W, (Instr.index 9 (.string s) (.int .i64 (s.size - 1))).run Tryd.prog W = .ok (.int .u8 c1) W)
    (s1 : ∀ W, (Instr.slice 9 (.string s) none (some (.int .i64 (s.size - 1))) none).run Tryd.prog W = .ok (.string r) W)
    (cp : ∀ w : World, Calls Tryd.prog 43 #[.string r] w fun e w' => e = .returned (.bool true) ∧ w = w')
    (cv : ∀ w : World, Calls Tryd.prog 44 #[.string r] w fun e w' => e = .returned (.int .i64 v) ∧ w = w')
    (g2 : 2 ≤ s.size)
    (gm : s.size ≤ 4096)
    (i2 : ¬ (s.size : Int) < 2)
    (t1 : (c1 != 115) = false)
    (tv : v < 60) (w : World) :
    Calls Tryd.prog 25 #[.string s] w fun e w' => e = .returned (.tuple #[.int .i64 v, .int .i64 0]) ∧ Below w.heap.size w w' := by
  have CP := Lib.hid cp
  have CV := Lib.hid cv
  clear cp cv
  go_enter Tryd.func25, Tryd.ntmps25
  go_wp2_with fail
  refine (CP.out _).mono ?_
  rintro e w0 ⟨rfl, rfl⟩
  go_wp2_with fail
  refine (CV.out _).mono ?_
  rintro e w0 ⟨rfl, rfl⟩
  go_wp2_with fail
  refine (CV.out _).mono ?_
  rintro e w0 ⟨rfl, rfl⟩
  go_wp2_with fail
  go_ret2
  exact ⟨rfl, Below.refl _ _⟩
theorem rp_n5a (s r : ByteArray) (c1 : Int)
    (k1 : ∀ W, (Instr.index 9 (.string s) (.int .i64 (s.size - 1))).run Tryd.prog W = .ok (.int .u8 c1) W)
    (s1 : ∀ W, (Instr.slice 9 (.string s) none (some (.int .i64 (s.size - 1))) none).run Tryd.prog W = .ok (.string r) W)
    (cp : ∀ w : World, Calls Tryd.prog 43 #[.string r] w fun e w' => e = .returned (.bool false) ∧ w = w')
    (g2 : 2 ≤ s.size)
    (gm : s.size ≤ 4096)
    (i2 : ¬ (s.size : Int) < 2)
    (t1 : (c1 != 115) = false)
    (i5 : (s.size : Int) < 5) (w : World) :
    Calls Tryd.prog 25 #[.string s] w fun e w' => e = .returned (.tuple #[.int .i64 0, .int .i64 3]) ∧ Below w.heap.size w w' := by
  have CP := Lib.hid cp
  clear cp
  go_enter Tryd.func25, Tryd.ntmps25
  go_wp2_with fail
  refine (CP.out _).mono ?_
  rintro e w0 ⟨rfl, rfl⟩
  go_wp2_with fail
  go_ret2
  exact ⟨rfl, Below.refl _ _⟩
theorem rp_n5b (s r : ByteArray) (c1 v : Int)
    (k1 : ∀ W, (Instr.index 9 (.string s) (.int .i64 (s.size - 1))).run Tryd.prog W = .ok (.int .u8 c1) W)
    (s1 : ∀ W, (Instr.slice 9 (.string s) none (some (.int .i64 (s.size - 1))) none).run Tryd.prog W = .ok (.string r) W)
    (cp : ∀ w : World, Calls Tryd.prog 43 #[.string r] w fun e w' => e = .returned (.bool true) ∧ w = w')
    (cv : ∀ w : World, Calls Tryd.prog 44 #[.string r] w fun e w' => e = .returned (.int .i64 v) ∧ w = w')
    (g2 : 2 ≤ s.size)
    (gm : s.size ≤ 4096)
    (i2 : ¬ (s.size : Int) < 2)
    (t1 : (c1 != 115) = false)
    (tv : ¬ v < 60)
    (i5 : (s.size : Int) < 5) (w : World) :
    Calls Tryd.prog 25 #[.string s] w fun e w' => e = .returned (.tuple #[.int .i64 0, .int .i64 3]) ∧ Below w.heap.size w w' := by
  have CP := Lib.hid cp
  have CV := Lib.hid cv
  clear cp cv
  go_enter Tryd.func25, Tryd.ntmps25
  go_wp2_with fail
  refine (CP.out _).mono ?_
  rintro e w0 ⟨rfl, rfl⟩
  go_wp2_with fail
  refine (CV.out _).mono ?_
  rintro e w0 ⟨rfl, rfl⟩
  go_wp2_with fail
  go_ret2
  exact ⟨rfl, Below.refl _ _⟩
theorem rp_ma (s r : ByteArray) (c1 c4 : Int)
    (k1 : ∀ W, (Instr.index 9 (.string s) (.int .i64 (s.size - 1))).run Tryd.prog W = .ok (.int .u8 c1) W)
    (s1 : ∀ W, (Instr.slice 9 (.string s) none (some (.int .i64 (s.size - 1))) none).run Tryd.prog W = .ok (.string r) W)
    (k4 : ∀ W, (Instr.index 9 (.string s) (.int .i64 (s.size - 4))).run Tryd.prog W = .ok (.int .u8 c4) W)
    (cp : ∀ w : World, Calls Tryd.prog 43 #[.string r] w fun e w' => e = .returned (.bool false) ∧ w = w')
    (g2 : 5 ≤ s.size)
    (gm : s.size ≤ 4096)
    (i2 : ¬ (s.size : Int) < 2)
    (i5 : ¬ (s.size : Int) < 5)
    (t1 : (c1 != 115) = false)
    (t4 : (c4 != 109) = true) (w : World) :
    Calls Tryd.prog 25 #[.string s] w fun e w' => e = .returned (.tuple #[.int .i64 0, .int .i64 3]) ∧ Below w.heap.size w w' := by
  have CP := Lib.hid cp
  clear cp
  go_enter Tryd.func25, Tryd.ntmps25
  go_wp2_with fail
  refine (CP.out _).mono ?_
  rintro e w0 ⟨rfl, rfl⟩
  go_wp2_with fail
  go_ret2
  exact ⟨rfl, Below.refl _ _⟩
theorem rp_belowa (s r z : ByteArray) (c1 c4 : Int)
    (k1 : ∀ W, (Instr.index 9 (.string s) (.int .i64 (s.size - 1))).run Tryd.prog W = .ok (.int .u8 c1) W)
    (s1 : ∀ W, (Instr.slice 9 (.string s) none (some (.int .i64 (s.size - 1))) none).run Tryd.prog W = .ok (.string r) W)
    (k4 : ∀ W, (Instr.index 9 (.string s) (.int .i64 (s.size - 4))).run Tryd.prog W = .ok (.int .u8 c4) W)
    (s3 : ∀ W, (Instr.slice 9 (.string s) (some (.int .i64 (s.size - 3))) (some (.int .i64 (s.size - 1))) none).run Tryd.prog W = .ok (.string z) W)
    (cp : ∀ w : World, Calls Tryd.prog 43 #[.string r] w fun e w' => e = .returned (.bool false) ∧ w = w')
    (cb : ∀ w : World, Calls Tryd.prog 45 #[.string z] w fun e w' => e = .returned (.bool false) ∧ w = w')
    (g2 : 5 ≤ s.size)
    (gm : s.size ≤ 4096)
    (i2 : ¬ (s.size : Int) < 2)
    (i5 : ¬ (s.size : Int) < 5)
    (t1 : (c1 != 115) = false)
    (t4 : (c4 != 109) = false) (w : World) :
    Calls Tryd.prog 25 #[.string s] w fun e w' => e = .returned (.tuple #[.int .i64 0, .int .i64 3]) ∧ Below w.heap.size w w' := by
  have CP := Lib.hid cp
  have CB := Lib.hid cb
  clear cp cb
  go_enter Tryd.func25, Tryd.ntmps25
  go_wp2_with fail
  refine (CP.out _).mono ?_
  rintro e w0 ⟨rfl, rfl⟩
  go_wp2_with fail
  refine (CB.out _).mono ?_
  rintro e w0 ⟨rfl, rfl⟩
  go_wp2_with fail
  go_ret2
  exact ⟨rfl, Below.refl _ _⟩
theorem rp_mb (s r : ByteArray) (c1 c4 v : Int)
    (k1 : ∀ W, (Instr.index 9 (.string s) (.int .i64 (s.size - 1))).run Tryd.prog W = .ok (.int .u8 c1) W)
    (s1 : ∀ W, (Instr.slice 9 (.string s) none (some (.int .i64 (s.size - 1))) none).run Tryd.prog W = .ok (.string r) W)
    (k4 : ∀ W, (Instr.index 9 (.string s) (.int .i64 (s.size - 4))).run Tryd.prog W = .ok (.int .u8 c4) W)
    (cp : ∀ w : World, Calls Tryd.prog 43 #[.string r] w fun e w' => e = .returned (.bool true) ∧ w = w')
    (cv : ∀ w : World, Calls Tryd.prog 44 #[.string r] w fun e w' => e = .returned (.int .i64 v) ∧ w = w')
    (g2 : 5 ≤ s.size)
    (gm : s.size ≤ 4096)
    (i2 : ¬ (s.size : Int) < 2)
    (i5 : ¬ (s.size : Int) < 5)
    (t1 : (c1 != 115) = false)
    (tv : ¬ v < 60)
    (t4 : (c4 != 109) = true) (w : World) :
    Calls Tryd.prog 25 #[.string s] w fun e w' => e = .returned (.tuple #[.int .i64 0, .int .i64 3]) ∧ Below w.heap.size w w' := by
  have CP := Lib.hid cp
  have CV := Lib.hid cv
  clear cp cv
  go_enter Tryd.func25, Tryd.ntmps25
  go_wp2_with fail
  refine (CP.out _).mono ?_
  rintro e w0 ⟨rfl, rfl⟩
  go_wp2_with fail
  refine (CV.out _).mono ?_
  rintro e w0 ⟨rfl, rfl⟩
  go_wp2_with fail
  go_ret2
  exact ⟨rfl, Below.refl _ _⟩
theorem rp_belowb (s r z : ByteArray) (c1 c4 v : Int)
    (k1 : ∀ W, (Instr.index 9 (.string s) (.int .i64 (s.size - 1))).run Tryd.prog W = .ok (.int .u8 c1) W)
    (s1 : ∀ W, (Instr.slice 9 (.string s) none (some (.int .i64 (s.size - 1))) none).run Tryd.prog W = .ok (.string r) W)
    (k4 : ∀ W, (Instr.index 9 (.string s) (.int .i64 (s.size - 4))).run Tryd.prog W = .ok (.int .u8 c4) W)
    (s3 : ∀ W, (Instr.slice 9 (.string s) (some (.int .i64 (s.size - 3))) (some (.int .i64 (s.size - 1))) none).run Tryd.prog W = .ok (.string z) W)
    (cp : ∀ w : World, Calls Tryd.prog 43 #[.string r] w fun e w' => e = .returned (.bool true) ∧ w = w')
    (cv : ∀ w : World, Calls Tryd.prog 44 #[.string r] w fun e w' => e = .returned (.int .i64 v) ∧ w = w')
    (cb : ∀ w : World, Calls Tryd.prog 45 #[.string z] w fun e w' => e = .returned (.bool false) ∧ w = w')
    (g2 : 5 ≤ s.size)
    (gm : s.size ≤ 4096)
    (i2 : ¬ (s.size : Int) < 2)
    (i5 : ¬ (s.size : Int) < 5)
    (t1 : (c1 != 115) = false)
    (tv : ¬ v < 60)
    (t4 : (c4 != 109) = false) (w : World) :
    Calls Tryd.prog 25 #[.string s] w fun e w' => e = .returned (.tuple #[.int .i64 0, .int .i64 3]) ∧ Below w.heap.size w w' := by
  have CP := Lib.hid cp
  have CV := Lib.hid cv
  have CB := Lib.hid cb
  clear cp cv cb
  go_enter Tryd.func25, Tryd.ntmps25
  go_wp2_with fail
  refine (CP.out _).mono ?_
  rintro e w0 ⟨rfl, rfl⟩
  go_wp2_with fail
  refine (CV.out _).mono ?_
  rintro e w0 ⟨rfl, rfl⟩
  go_wp2_with fail
  refine (CB.out _).mono ?_
  rintro e w0 ⟨rfl, rfl⟩
  go_wp2_with fail
  go_ret2
  exact ⟨rfl, Below.refl _ _⟩
theorem rp_min (s r z R : ByteArray) (c1 c4 sec vr : Int)
    (k1 : ∀ W, (Instr.index 9 (.string s) (.int .i64 (s.size - 1))).run Tryd.prog W = .ok (.int .u8 c1) W)
    (s1 : ∀ W, (Instr.slice 9 (.string s) none (some (.int .i64 (s.size - 1))) none).run Tryd.prog W = .ok (.string r) W)
    (k4 : ∀ W, (Instr.index 9 (.string s) (.int .i64 (s.size - 4))).run Tryd.prog W = .ok (.int .u8 c4) W)
    (s3 : ∀ W, (Instr.slice 9 (.string s) (some (.int .i64 (s.size - 3))) (some (.int .i64 (s.size - 1))) none).run Tryd.prog W = .ok (.string z) W)
    (s4 : ∀ W, (Instr.slice 9 (.string s) none (some (.int .i64 (s.size - 4))) none).run Tryd.prog W = .ok (.string R) W)
    (cp : ∀ w : World, Calls Tryd.prog 43 #[.string r] w fun e w' => e = .returned (.bool false) ∧ w = w')
    (cb : ∀ w : World, Calls Tryd.prog 45 #[.string z] w fun e w' => e = .returned (.bool true) ∧ w = w')
    (cz : ∀ w : World, Calls Tryd.prog 44 #[.string z] w fun e w' => e = .returned (.int .i64 sec) ∧ w = w')
    (cpr : ∀ w : World, Calls Tryd.prog 43 #[.string R] w fun e w' => e = .returned (.bool true) ∧ w = w')
    (cvr : ∀ w : World, Calls Tryd.prog 44 #[.string R] w fun e w' => e = .returned (.int .i64 vr) ∧ w = w')
    (g2 : 5 ≤ s.size)
    (gm : s.size ≤ 4096)
    (i2 : ¬ (s.size : Int) < 2)
    (i5 : ¬ (s.size : Int) < 5)
    (t1 : (c1 != 115) = false)
    (t4 : (c4 != 109) = false)
    (u0 : 0 ≤ sec)
    (u1 : sec < 60)
    (x0 : 0 < vr)
    (x1 : vr < 60) (w : World) :
    Calls Tryd.prog 25 #[.string s] w fun e w' => e = .returned (.tuple #[.int .i64 (60 * vr + sec), .int .i64 0]) ∧ Below w.heap.size w w' := by
  have CP := Lib.hid cp
  have CB := Lib.hid cb
  have CZ := Lib.hid cz
  have CPR := Lib.hid cpr
  have CVR := Lib.hid cvr
  clear cp cb cz cpr cvr
  go_enter Tryd.func25, Tryd.ntmps25
  go_wp2_with fail
  refine (CP.out _).mono ?_
  rintro e w0 ⟨rfl, rfl⟩
  go_wp2_with fail
  refine (CB.out _).mono ?_
  rintro e w0 ⟨rfl, rfl⟩
  go_wp2_with fail
  go_quiet ((go_at_call 44; exact Calls.quiet_of_same ((CZ.out _).mono fun _ _ ⟨h1, h2⟩ => ⟨h1, h2.symm⟩)))
  have b1 := below_drewN (Below.refl w.heap.size w) nq
  generalize w.drewN nq = w1 at b1 ⊢
  go_wp2_with fail
  refine (CPR.out _).mono ?_
  rintro e w0 ⟨rfl, rfl⟩
  go_wp2_with fail
  refine (CVR.out _).mono ?_
  rintro e w0 ⟨rfl, rfl⟩
  go_wp2_with fail
  refine (CVR.out _).mono ?_
  rintro e w0 ⟨rfl, rfl⟩
  go_wp2_with fail
  refine (CVR.out _).mono ?_
  rintro e w0 ⟨rfl, rfl⟩
  go_wp2_with fail
  go_ret2
  exact ⟨rfl, b1⟩
theorem rp_k4a (s r z R : ByteArray) (c1 c4 sec : Int)
    (k1 : ∀ W, (Instr.index 9 (.string s) (.int .i64 (s.size - 1))).run Tryd.prog W = .ok (.int .u8 c1) W)
    (s1 : ∀ W, (Instr.slice 9 (.string s) none (some (.int .i64 (s.size - 1))) none).run Tryd.prog W = .ok (.string r) W)
    (k4 : ∀ W, (Instr.index 9 (.string s) (.int .i64 (s.size - 4))).run Tryd.prog W = .ok (.int .u8 c4) W)
    (s3 : ∀ W, (Instr.slice 9 (.string s) (some (.int .i64 (s.size - 3))) (some (.int .i64 (s.size - 1))) none).run Tryd.prog W = .ok (.string z) W)
    (s4 : ∀ W, (Instr.slice 9 (.string s) none (some (.int .i64 (s.size - 4))) none).run Tryd.prog W = .ok (.string R) W)
    (cp : ∀ w : World, Calls Tryd.prog 43 #[.string r] w fun e w' => e = .returned (.bool false) ∧ w = w')
    (cb : ∀ w : World, Calls Tryd.prog 45 #[.string z] w fun e w' => e = .returned (.bool true) ∧ w = w')
    (cz : ∀ w : World, Calls Tryd.prog 44 #[.string z] w fun e w' => e = .returned (.int .i64 sec) ∧ w = w')
    (cpr : ∀ w : World, Calls Tryd.prog 43 #[.string R] w fun e w' => e = .returned (.bool false) ∧ w = w')
    (g2 : 5 ≤ s.size)
    (gm : s.size ≤ 4096)
    (i2 : ¬ (s.size : Int) < 2)
    (i5 : ¬ (s.size : Int) < 5)
    (t1 : (c1 != 115) = false)
    (t4 : (c4 != 109) = false)
    (i4 : (R.size : Int) < 4) (w : World) :
    Calls Tryd.prog 25 #[.string s] w fun e w' => e = .returned (.tuple #[.int .i64 0, .int .i64 3]) ∧ Below w.heap.size w w' := by
  have CP := Lib.hid cp
  have CB := Lib.hid cb
  have CZ := Lib.hid cz
  have CPR := Lib.hid cpr
  clear cp cb cz cpr
  go_enter Tryd.func25, Tryd.ntmps25
  go_wp2_with fail
  refine (CP.out _).mono ?_
  rintro e w0 ⟨rfl, rfl⟩
  go_wp2_with fail
  refine (CB.out _).mono ?_
  rintro e w0 ⟨rfl, rfl⟩
  go_wp2_with fail
  go_quiet ((go_at_call 44; exact Calls.quiet_of_same ((CZ.out _).mono fun _ _ ⟨h1, h2⟩ => ⟨h1, h2.symm⟩)))
  have b1 := below_drewN (Below.refl w.heap.size w) nq
  generalize w.drewN nq = w1 at b1 ⊢
  go_wp2_with fail
  refine (CPR.out _).mono ?_
  rintro e w0 ⟨rfl, rfl⟩
  go_wp2_with fail
  go_ret2
  exact ⟨rfl, b1⟩
theorem rp_ha (s r z R : ByteArray) (c1 c4 c3 sec : Int)
    (k1 : ∀ W, (Instr.index 9 (.string s) (.int .i64 (s.size - 1))).run Tryd.prog W = .ok (.int .u8 c1) W)
    (s1 : ∀ W, (Instr.slice 9 (.string s) none (some (.int .i64 (s.size - 1))) none).run Tryd.prog W = .ok (.string r) W)
    (k4 : ∀ W, (Instr.index 9 (.string s) (.int .i64 (s.size - 4))).run Tryd.prog W = .ok (.int .u8 c4) W)
    (s3 : ∀ W, (Instr.slice 9 (.string s) (some (.int .i64 (s.size - 3))) (some (.int .i64 (s.size - 1))) none).run Tryd.prog W = .ok (.string z) W)
    (s4 : ∀ W, (Instr.slice 9 (.string s) none (some (.int .i64 (s.size - 4))) none).run Tryd.prog W = .ok (.string R) W)
    (k3 : ∀ W, (Instr.index 9 (.string R) (.int .i64 (R.size - 3))).run Tryd.prog W = .ok (.int .u8 c3) W)
    (cp : ∀ w : World, Calls Tryd.prog 43 #[.string r] w fun e w' => e = .returned (.bool false) ∧ w = w')
    (cb : ∀ w : World, Calls Tryd.prog 45 #[.string z] w fun e w' => e = .returned (.bool true) ∧ w = w')
    (cz : ∀ w : World, Calls Tryd.prog 44 #[.string z] w fun e w' => e = .returned (.int .i64 sec) ∧ w = w')
    (cpr : ∀ w : World, Calls Tryd.prog 43 #[.string R] w fun e w' => e = .returned (.bool false) ∧ w = w')
    (g2 : 5 ≤ s.size)
    (gm : s.size ≤ 4096)
    (i2 : ¬ (s.size : Int) < 2)
    (i5 : ¬ (s.size : Int) < 5)
    (t1 : (c1 != 115) = false)
    (t4 : (c4 != 109) = false)
    (g4 : 4 ≤ R.size)
    (gr : R.size ≤ 4096)
    (i4 : ¬ (R.size : Int) < 4)
    (t3 : (c3 != 104) = true) (w : World) :
    Calls Tryd.prog 25 #[.string s] w fun e w' => e = .returned (.tuple #[.int .i64 0, .int .i64 3]) ∧ Below w.heap.size w w' := by
  have CP := Lib.hid cp
  have CB := Lib.hid cb
  have CZ := Lib.hid cz
  have CPR := Lib.hid cpr
  clear cp cb cz cpr
  go_enter Tryd.func25, Tryd.ntmps25
  go_wp2_with fail
  refine (CP.out _).mono ?_
  rintro e w0 ⟨rfl, rfl⟩
  go_wp2_with fail
  refine (CB.out _).mono ?_
  rintro e w0 ⟨rfl, rfl⟩
  go_wp2_with fail
  go_quiet ((go_at_call 44; exact Calls.quiet_of_same ((CZ.out _).mono fun _ _ ⟨h1, h2⟩ => ⟨h1, h2.symm⟩)))
  have b1 := below_drewN (Below.refl w.heap.size w) nq
  generalize w.drewN nq = w1 at b1 ⊢
  go_wp2_with fail
  refine (CPR.out _).mono ?_
  rintro e w0 ⟨rfl, rfl⟩
  go_wp2_with fail
  go_ret2
  exact ⟨rfl, b1⟩
theorem rp_k4b (s r z R : ByteArray) (c1 c4 sec vr : Int)
    (k1 : ∀ W, (Instr.index 9 (.string s) (.int .i64 (s.size - 1))).run Tryd.prog W = .ok (.int .u8 c1) W)
    (s1 : ∀ W, (Instr.slice 9 (.string s) none (some (.int .i64 (s.size - 1))) none).run Tryd.prog W = .ok (.string r) W)
    (k4 : ∀ W, (Instr.index 9 (.string s) (.int .i64 (s.size - 4))).run Tryd.prog W = .ok (.int .u8 c4) W)
    (s3 : ∀ W, (Instr.slice 9 (.string s) (some (.int .i64 (s.size - 3))) (some (.int .i64 (s.size - 1))) none).run Tryd.prog W = .ok (.string z) W)
    (s4 : ∀ W, (Instr.slice 9 (.string s) none (some (.int .i64 (s.size - 4))) none).run Tryd.prog W = .ok (.string R) W)
    (cp : ∀ w : World, Calls Tryd.prog 43 #[.string r] w fun e w' => e = .returned (.bool false) ∧ w = w')
    (cb : ∀ w : World, Calls Tryd.prog 45 #[.string z] w fun e w' => e = .returned (.bool true) ∧ w = w')
    (cz : ∀ w : World, Calls Tryd.prog 44 #[.string z] w fun e w' => e = .returned (.int .i64 sec) ∧ w = w')
    (cpr : ∀ w : World, Calls Tryd.prog 43 #[.string R] w fun e w' => e = .returned (.bool true) ∧ w = w')
    (cvr : ∀ w : World, Calls Tryd.prog 44 #[.string R] w fun e w' => e = .returned (.int .i64 vr) ∧ w = w')
    (g2 : 5 ≤ s.size)
    (gm : s.size ≤ 4096)
    (i2 : ¬ (s.size : Int) < 2)
    (i5 : ¬ (s.size : Int) < 5)
    (t1 : (c1 != 115) = false)
    (t4 : (c4 != 109) = false)
    (x0 : ¬ 0 < vr)
    (i4 : (R.size : Int) < 4) (w : World) :
    Calls Tryd.prog 25 #[.string s] w fun e w' => e = .returned (.tuple #[.int .i64 0, .int .i64 3]) ∧ Below w.heap.size w w' := by
  have CP := Lib.hid cp
  have CB := Lib.hid cb
  have CZ := Lib.hid cz
  have CPR := Lib.hid cpr
  have CVR := Lib.hid cvr
  clear cp cb cz cpr cvr
  go_enter Tryd.func25, Tryd.ntmps25
  go_wp2_with fail
  refine (CP.out _).mono ?_
  rintro e w0 ⟨rfl, rfl⟩
  go_wp2_with fail
  refine (CB.out _).mono ?_
  rintro e w0 ⟨rfl, rfl⟩
  go_wp2_with fail
  go_quiet ((go_at_call 44; exact Calls.quiet_of_same ((CZ.out _).mono fun _ _ ⟨h1, h2⟩ => ⟨h1, h2.symm⟩)))
  have b1 := below_drewN (Below.refl w.heap.size w) nq
  generalize w.drewN nq = w1 at b1 ⊢
  go_wp2_with fail
  refine (CPR.out _).mono ?_
  rintro e w0 ⟨rfl, rfl⟩
  go_wp2_with fail
  refine (CVR.out _).mono ?_
  rintro e w0 ⟨rfl, rfl⟩
  go_wp2_with fail
  go_ret2
  exact ⟨rfl, b1⟩
theorem rp_hb (s r z R : ByteArray) (c1 c4 c3 sec vr : Int)
    (k1 : ∀ W, (Instr.index 9 (.string s) (.int .i64 (s.size - 1))).run Tryd.prog W = .ok (.int .u8 c1) W)
    (s1 : ∀ W, (Instr.slice 9 (.string s) none (some (.int .i64 (s.size - 1))) none).run Tryd.prog W = .ok (.string r) W)
    (k4 : ∀ W, (Instr.index 9 (.string s) (.int .i64 (s.size - 4))).run Tryd.prog W = .ok (.int .u8 c4) W)
    (s3 : ∀ W, (Instr.slice 9 (.string s) (some (.int .i64 (s.size - 3))) (some (.int .i64 (s.size - 1))) none).run Tryd.prog W = .ok (.string z) W)
    (s4 : ∀ W, (Instr.slice 9 (.string s) none (some (.int .i64 (s.size - 4))) none).run Tryd.prog W = .ok (.string R) W)
    (k3 : ∀ W, (Instr.index 9 (.string R) (.int .i64 (R.size - 3))).run Tryd.prog W = .ok (.int .u8 c3) W)
    (cp : ∀ w : World, Calls Tryd.prog 43 #[.string r] w fun e w' => e = .returned (.bool false) ∧ w = w')
    (cb : ∀ w : World, Calls Tryd.prog 45 #[.string z] w fun e w' => e = .returned (.bool true) ∧ w = w')
    (cz : ∀ w : World, Calls Tryd.prog 44 #[.string z] w fun e w' => e = .returned (.int .i64 sec) ∧ w = w')
    (cpr : ∀ w : World, Calls Tryd.prog 43 #[.string R] w fun e w' => e = .returned (.bool true) ∧ w = w')
    (cvr : ∀ w : World, Calls Tryd.prog 44 #[.string R] w fun e w' => e = .returned (.int .i64 vr) ∧ w = w')
    (g2 : 5 ≤ s.size)
    (gm : s.size ≤ 4096)
    (i2 : ¬ (s.size : Int) < 2)
    (i5 : ¬ (s.size : Int) < 5)
    (t1 : (c1 != 115) = false)
    (t4 : (c4 != 109) = false)
    (x0 : ¬ 0 < vr)
    (g4 : 4 ≤ R.size)
    (gr : R.size ≤ 4096)
    (i4 : ¬ (R.size : Int) < 4)
    (t3 : (c3 != 104) = true) (w : World) :
    Calls Tryd.prog 25 #[.string s] w fun e w' => e = .returned (.tuple #[.int .i64 0, .int .i64 3]) ∧ Below w.heap.size w w' := by
  have CP := Lib.hid cp
  have CB := Lib.hid cb
  have CZ := Lib.hid cz
  have CPR := Lib.hid cpr
  have CVR := Lib.hid cvr
  clear cp cb cz cpr cvr
  go_enter Tryd.func25, Tryd.ntmps25
  go_wp2_with fail
  refine (CP.out _).mono ?_
  rintro e w0 ⟨rfl, rfl⟩
  go_wp2_with fail
  refine (CB.out _).mono ?_
  rintro e w0 ⟨rfl, rfl⟩
  go_wp2_with fail
  go_quiet ((go_at_call 44; exact Calls.quiet_of_same ((CZ.out _).mono fun _ _ ⟨h1, h2⟩ => ⟨h1, h2.symm⟩)))
  have b1 := below_drewN (Below.refl w.heap.size w) nq
  generalize w.drewN nq = w1 at b1 ⊢
  go_wp2_with fail
  refine (CPR.out _).mono ?_
  rintro e w0 ⟨rfl, rfl⟩
  go_wp2_with fail
  refine (CVR.out _).mono ?_
  rintro e w0 ⟨rfl, rfl⟩
  go_wp2_with fail
  go_ret2
  exact ⟨rfl, b1⟩
theorem rp_k4c (s r z R : ByteArray) (c1 c4 sec vr : Int)
    (k1 : ∀ W, (Instr.index 9 (.string s) (.int .i64 (s.size - 1))).run Tryd.prog W = .ok (.int .u8 c1) W)
    (s1 : ∀ W, (Instr.slice 9 (.string s) none (some (.int .i64 (s.size - 1))) none).run Tryd.prog W = .ok (.string r) W)
    (k4 : ∀ W, (Instr.index 9 (.string s) (.int .i64 (s.size - 4))).run Tryd.prog W = .ok (.int .u8 c4) W)
    (s3 : ∀ W, (Instr.slice 9 (.string s) (some (.int .i64 (s.size - 3))) (some (.int .i64 (s.size - 1))) none).run Tryd.prog W = .ok (.string z) W)
    (s4 : ∀ W, (Instr.slice 9 (.string s) none (some (.int .i64 (s.size - 4))) none).run Tryd.prog W = .ok (.string R) W)
    (cp : ∀ w : World, Calls Tryd.prog 43 #[.string r] w fun e w' => e = .returned (.bool false) ∧ w = w')
    (cb : ∀ w : World, Calls Tryd.prog 45 #[.string z] w fun e w' => e = .returned (.bool true) ∧ w = w')
    (cz : ∀ w : World, Calls Tryd.prog 44 #[.string z] w fun e w' => e = .returned (.int .i64 sec) ∧ w = w')
    (cpr : ∀ w : World, Calls Tryd.prog 43 #[.string R] w fun e w' => e = .returned (.bool true) ∧ w = w')
    (cvr : ∀ w : World, Calls Tryd.prog 44 #[.string R] w fun e w' => e = .returned (.int .i64 vr) ∧ w = w')
    (g2 : 5 ≤ s.size)
    (gm : s.size ≤ 4096)
    (i2 : ¬ (s.size : Int) < 2)
    (i5 : ¬ (s.size : Int) < 5)
    (t1 : (c1 != 115) = false)
    (t4 : (c4 != 109) = false)
    (x0 : 0 < vr)
    (x1 : ¬ vr < 60)
    (i4 : (R.size : Int) < 4) (w : World) :
    Calls Tryd.prog 25 #[.string s] w fun e w' => e = .returned (.tuple #[.int .i64 0, .int .i64 3]) ∧ Below w.heap.size w w' := by
  have CP := Lib.hid cp
  have CB := Lib.hid cb
  have CZ := Lib.hid cz
  have CPR := Lib.hid cpr
  have CVR := Lib.hid cvr
  clear cp cb cz cpr cvr
  go_enter Tryd.func25, Tryd.ntmps25
  go_wp2_with fail
  refine (CP.out _).mono ?_
  rintro e w0 ⟨rfl, rfl⟩
  go_wp2_with fail
  refine (CB.out _).mono ?_
  rintro e w0 ⟨rfl, rfl⟩
  go_wp2_with fail
  go_quiet ((go_at_call 44; exact Calls.quiet_of_same ((CZ.out _).mono fun _ _ ⟨h1, h2⟩ => ⟨h1, h2.symm⟩)))
  have b1 := below_drewN (Below.refl w.heap.size w) nq
  generalize w.drewN nq = w1 at b1 ⊢
  go_wp2_with fail
  refine (CPR.out _).mono ?_
  rintro e w0 ⟨rfl, rfl⟩
  go_wp2_with fail
  refine (CVR.out _).mono ?_
  rintro e w0 ⟨rfl, rfl⟩
  go_wp2_with fail
  refine (CVR.out _).mono ?_
  rintro e w0 ⟨rfl, rfl⟩
  go_wp2_with fail
  go_ret2
  exact ⟨rfl, b1⟩
theorem rp_hc (s r z R : ByteArray) (c1 c4 c3 sec vr : Int)
    (k1 : ∀ W, (Instr.index 9 (.string s) (.int .i64 (s.size - 1))).run Tryd.prog W = .ok (.int .u8 c1) W)
    (s1 : ∀ W, (Instr.slice 9 (.string s) none (some (.int .i64 (s.size - 1))) none).run Tryd.prog W = .ok (.string r) W)
    (k4 : ∀ W, (Instr.index 9 (.string s) (.int .i64 (s.size - 4))).run Tryd.prog W = .ok (.int .u8 c4) W)
    (s3 : ∀ W, (Instr.slice 9 (.string s) (some (.int .i64 (s.size - 3))) (some (.int .i64 (s.size - 1))) none).run Tryd.prog W = .ok (.string z) W)
    (s4 : ∀ W, (Instr.slice 9 (.string s) none (some (.int .i64 (s.size - 4))) none).run Tryd.prog W = .ok (.string R) W)
    (k3 : ∀ W, (Instr.index 9 (.string R) (.int .i64 (R.size - 3))).run Tryd.prog W = .ok (.int .u8 c3) W)
    (cp : ∀ w : World, Calls Tryd.prog 43 #[.string r] w fun e w' => e = .returned (.bool false) ∧ w = w')
    (cb : ∀ w : World, Calls Tryd.prog 45 #[.string z] w fun e w' => e = .returned (.bool true) ∧ w = w')
    (cz : ∀ w : World, Calls Tryd.prog 44 #[.string z] w fun e w' => e = .returned (.int .i64 sec) ∧ w = w')
    (cpr : ∀ w : World, Calls Tryd.prog 43 #[.string R] w fun e w' => e = .returned (.bool true) ∧ w = w')
    (cvr : ∀ w : World, Calls Tryd.prog 44 #[.string R] w fun e w' => e = .returned (.int .i64 vr) ∧ w = w')
    (g2 : 5 ≤ s.size)
    (gm : s.size ≤ 4096)
    (i2 : ¬ (s.size : Int) < 2)
    (i5 : ¬ (s.size : Int) < 5)
    (t1 : (c1 != 115) = false)
    (t4 : (c4 != 109) = false)
    (x0 : 0 < vr)
    (x1 : ¬ vr < 60)
    (g4 : 4 ≤ R.size)
    (gr : R.size ≤ 4096)
    (i4 : ¬ (R.size : Int) < 4)
    (t3 : (c3 != 104) = true) (w : World) :
    Calls Tryd.prog 25 #[.string s] w fun e w' => e = .returned (.tuple #[.int .i64 0, .int .i64 3]) ∧ Below w.heap.size w w' := by
  have CP := Lib.hid cp
  have CB := Lib.hid cb
  have CZ := Lib.hid cz
  have CPR := Lib.hid cpr
  have CVR := Lib.hid cvr
  clear cp cb cz cpr cvr
  go_enter Tryd.func25, Tryd.ntmps25
  go_wp2_with fail
  refine (CP.out _).mono ?_
  rintro e w0 ⟨rfl, rfl⟩
  go_wp2_with fail
  refine (CB.out _).mono ?_
  rintro e w0 ⟨rfl, rfl⟩
  go_wp2_with fail
  go_quiet ((go_at_call 44; exact Calls.quiet_of_same ((CZ.out _).mono fun _ _ ⟨h1, h2⟩ => ⟨h1, h2.symm⟩)))
  have b1 := below_drewN (Below.refl w.heap.size w) nq
  generalize w.drewN nq = w1 at b1 ⊢
  go_wp2_with fail
  refine (CPR.out _).mono ?_
  rintro e w0 ⟨rfl, rfl⟩
  go_wp2_with fail
  refine (CVR.out _).mono ?_
  rintro e w0 ⟨rfl, rfl⟩
  go_wp2_with fail
  refine (CVR.out _).mono ?_
  rintro e w0 ⟨rfl, rfl⟩
  go_wp2_with fail
  go_ret2
  exact ⟨rfl, b1⟩
theorem rp_y (s r z R y : ByteArray) (c1 c4 c3 sec : Int)
    (k1 : ∀ W, (Instr.index 9 (.string s) (.int .i64 (s.size - 1))).run Tryd.prog W = .ok (.int .u8 c1) W)
    (s1 : ∀ W, (Instr.slice 9 (.string s) none (some (.int .i64 (s.size - 1))) none).run Tryd.prog W = .ok (.string r) W)
    (k4 : ∀ W, (Instr.index 9 (.string s) (.int .i64 (s.size - 4))).run Tryd.prog W = .ok (.int .u8 c4) W)
    (s3 : ∀ W, (Instr.slice 9 (.string s) (some (.int .i64 (s.size - 3))) (some (.int .i64 (s.size - 1))) none).run Tryd.prog W = .ok (.string z) W)
    (s4 : ∀ W, (Instr.slice 9 (.string s) none (some (.int .i64 (s.size - 4))) none).run Tryd.prog W = .ok (.string R) W)
    (k3 : ∀ W, (Instr.index 9 (.string R) (.int .i64 (R.size - 3))).run Tryd.prog W = .ok (.int .u8 c3) W)
    (s2 : ∀ W, (Instr.slice 9 (.string R) (some (.int .i64 (R.size - 2))) none none).run Tryd.prog W = .ok (.string y) W)
    (cp : ∀ w : World, Calls Tryd.prog 43 #[.string r] w fun e w' => e = .returned (.bool false) ∧ w = w')
    (cb : ∀ w : World, Calls Tryd.prog 45 #[.string z] w fun e w' => e = .returned (.bool true) ∧ w = w')
    (cz : ∀ w : World, Calls Tryd.prog 44 #[.string z] w fun e w' => e = .returned (.int .i64 sec) ∧ w = w')
    (cpr : ∀ w : World, Calls Tryd.prog 43 #[.string R] w fun e w' => e = .returned (.bool false) ∧ w = w')
    (cby : ∀ w : World, Calls Tryd.prog 45 #[.string y] w fun e w' => e = .returned (.bool false) ∧ w = w')
    (g2 : 5 ≤ s.size)
    (gm : s.size ≤ 4096)
    (i2 : ¬ (s.size : Int) < 2)
    (i5 : ¬ (s.size : Int) < 5)
    (t1 : (c1 != 115) = false)
    (t4 : (c4 != 109) = false)
    (g4 : 4 ≤ R.size)
    (gr : R.size ≤ 4096)
    (i4 : ¬ (R.size : Int) < 4)
    (t3 : (c3 != 104) = false) (w : World) :
    Calls Tryd.prog 25 #[.string s] w fun e w' => e = .returned (.tuple #[.int .i64 0, .int .i64 3]) ∧ Below w.heap.size w w' := by
  have CP := Lib.hid cp
  have CB := Lib.hid cb
  have CZ := Lib.hid cz
  have CPR := Lib.hid cpr
  have CBY := Lib.hid cby
  clear cp cb cz cpr cby
  go_enter Tryd.func25, Tryd.ntmps25
  go_wp2_with fail
  refine (CP.out _).mono ?_
  rintro e w0 ⟨rfl, rfl⟩
  go_wp2_with fail
  refine (CB.out _).mono ?_
  rintro e w0 ⟨rfl, rfl⟩
  go_wp2_with fail
  go_quiet ((go_at_call 44; exact Calls.quiet_of_same ((CZ.out _).mono fun _ _ ⟨h1, h2⟩ => ⟨h1, h2.symm⟩)))
  have b1 := below_drewN (Below.refl w.heap.size w) nq
  generalize w.drewN nq = w1 at b1 ⊢
  go_wp2_with fail
  refine (CPR.out _).mono ?_
  rintro e w0 ⟨rfl, rfl⟩
  go_wp2_with fail
  refine (CBY.out _).mono ?_
  rintro e w0 ⟨rfl, rfl⟩
  go_wp2_with fail
  go_ret2
  exact ⟨rfl, b1⟩
theorem rp_hp (s r z R y H : ByteArray) (c1 c4 c3 sec : Int)
    (k1 : ∀ W, (Instr.index 9 (.string s) (.int .i64 (s.size - 1))).run Tryd.prog W = .ok (.int .u8 c1) W)
    (s1 : ∀ W, (Instr.slice 9 (.string s) none (some (.int .i64 (s.size - 1))) none).run Tryd.prog W = .ok (.string r) W)
    (k4 : ∀ W, (Instr.index 9 (.string s) (.int .i64 (s.size - 4))).run Tryd.prog W = .ok (.int .u8 c4) W)
    (s3 : ∀ W, (Instr.slice 9 (.string s) (some (.int .i64 (s.size - 3))) (some (.int .i64 (s.size - 1))) none).run Tryd.prog W = .ok (.string z) W)
    (s4 : ∀ W, (Instr.slice 9 (.string s) none (some (.int .i64 (s.size - 4))) none).run Tryd.prog W = .ok (.string R) W)
    (k3 : ∀ W, (Instr.index 9 (.string R) (.int .i64 (R.size - 3))).run Tryd.prog W = .ok (.int .u8 c3) W)
    (s2 : ∀ W, (Instr.slice 9 (.string R) (some (.int .i64 (R.size - 2))) none none).run Tryd.prog W = .ok (.string y) W)
    (s5 : ∀ W, (Instr.slice 9 (.string R) none (some (.int .i64 (R.size - 3))) none).run Tryd.prog W = .ok (.string H) W)
    (cp : ∀ w : World, Calls Tryd.prog 43 #[.string r] w fun e w' => e = .returned (.bool false) ∧ w = w')
    (cb : ∀ w : World, Calls Tryd.prog 45 #[.string z] w fun e w' => e = .returned (.bool true) ∧ w = w')
    (cz : ∀ w : World, Calls Tryd.prog 44 #[.string z] w fun e w' => e = .returned (.int .i64 sec) ∧ w = w')
    (cpr : ∀ w : World, Calls Tryd.prog 43 #[.string R] w fun e w' => e = .returned (.bool false) ∧ w = w')
    (cby : ∀ w : World, Calls Tryd.prog 45 #[.string y] w fun e w' => e = .returned (.bool true) ∧ w = w')
    (cph : ∀ w : World, Calls Tryd.prog 43 #[.string H] w fun e w' => e = .returned (.bool false) ∧ w = w')
    (g2 : 5 ≤ s.size)
    (gm : s.size ≤ 4096)
    (i2 : ¬ (s.size : Int) < 2)
    (i5 : ¬ (s.size : Int) < 5)
    (t1 : (c1 != 115) = false)
    (t4 : (c4 != 109) = false)
    (g4 : 4 ≤ R.size)
    (gr : R.size ≤ 4096)
    (i4 : ¬ (R.size : Int) < 4)
    (t3 : (c3 != 104) = false) (w : World) :
    Calls Tryd.prog 25 #[.string s] w fun e w' => e = .returned (.tuple #[.int .i64 0, .int .i64 3]) ∧ Below w.heap.size w w' := by
  have CP := Lib.hid cp
  have CB := Lib.hid cb
  have CZ := Lib.hid cz
  have CPR := Lib.hid cpr
  have CBY := Lib.hid cby
  have CPH := Lib.hid cph
  clear cp cb cz cpr cby cph
  go_enter Tryd.func25, Tryd.ntmps25
  go_wp2_with fail
  refine (CP.out _).mono ?_
  rintro e w0 ⟨rfl, rfl⟩
  go_wp2_with fail
  refine (CB.out _).mono ?_
  rintro e w0 ⟨rfl, rfl⟩
  go_wp2_with fail
  go_quiet ((go_at_call 44; exact Calls.quiet_of_same ((CZ.out _).mono fun _ _ ⟨h1, h2⟩ => ⟨h1, h2.symm⟩)))
  have b1 := below_drewN (Below.refl w.heap.size w) nq
  generalize w.drewN nq = w1 at b1 ⊢
  go_wp2_with fail
  refine (CPR.out _).mono ?_
  rintro e w0 ⟨rfl, rfl⟩
  go_wp2_with fail
  refine (CBY.out _).mono ?_
  rintro e w0 ⟨rfl, rfl⟩
  go_wp2_with fail
  refine (CPH.out _).mono ?_
  rintro e w0 ⟨rfl, rfl⟩
  go_wp2_with fail
  go_ret2
  exact ⟨rfl, b1⟩
theorem rp_hz (s r z R y H : ByteArray) (c1 c4 c3 sec vh : Int)
    (k1 : ∀ W, (Instr.index 9 (.string s) (.int .i64 (s.size - 1))).run Tryd.prog W = .ok (.int .u8 c1) W)
    (s1 : ∀ W, (Instr.slice 9 (.string s) none (some (.int .i64 (s.size - 1))) none).run Tryd.prog W = .ok (.string r) W)
    (k4 : ∀ W, (Instr.index 9 (.string s) (.int .i64 (s.size - 4))).run Tryd.prog W = .ok (.int .u8 c4) W)
    (s3 : ∀ W, (Instr.slice 9 (.string s) (some (.int .i64 (s.size - 3))) (some (.int .i64 (s.size - 1))) none).run Tryd.prog W = .ok (.string z) W)
    (s4 : ∀ W, (Instr.slice 9 (.string s) none (some (.int .i64 (s.size - 4))) none).run Tryd.prog W = .ok (.string R) W)
    (k3 : ∀ W, (Instr.index 9 (.string R) (.int .i64 (R.size - 3))).run Tryd.prog W = .ok (.int .u8 c3) W)
    (s2 : ∀ W, (Instr.slice 9 (.string R) (some (.int .i64 (R.size - 2))) none none).run Tryd.prog W = .ok (.string y) W)
    (s5 : ∀ W, (Instr.slice 9 (.string R) none (some (.int .i64 (R.size - 3))) none).run Tryd.prog W = .ok (.string H) W)
    (cp : ∀ w : World, Calls Tryd.prog 43 #[.string r] w fun e w' => e = .returned (.bool false) ∧ w = w')
    (cb : ∀ w : World, Calls Tryd.prog 45 #[.string z] w fun e w' => e = .returned (.bool true) ∧ w = w')
    (cz : ∀ w : World, Calls Tryd.prog 44 #[.string z] w fun e w' => e = .returned (.int .i64 sec) ∧ w = w')
    (cpr : ∀ w : World, Calls Tryd.prog 43 #[.string R] w fun e w' => e = .returned (.bool false) ∧ w = w')
    (cby : ∀ w : World, Calls Tryd.prog 45 #[.string y] w fun e w' => e = .returned (.bool true) ∧ w = w')
    (cph : ∀ w : World, Calls Tryd.prog 43 #[.string H] w fun e w' => e = .returned (.bool true) ∧ w = w')
    (cvh : ∀ w : World, Calls Tryd.prog 44 #[.string H] w fun e w' => e = .returned (.int .i64 vh) ∧ w = w')
    (g2 : 5 ≤ s.size)
    (gm : s.size ≤ 4096)
    (i2 : ¬ (s.size : Int) < 2)
    (i5 : ¬ (s.size : Int) < 5)
    (t1 : (c1 != 115) = false)
    (t4 : (c4 != 109) = false)
    (g4 : 4 ≤ R.size)
    (gr : R.size ≤ 4096)
    (i4 : ¬ (R.size : Int) < 4)
    (t3 : (c3 != 104) = false)
    (xh : (vh == 0) = true) (w : World) :
    Calls Tryd.prog 25 #[.string s] w fun e w' => e = .returned (.tuple #[.int .i64 0, .int .i64 3]) ∧ Below w.heap.size w w' := by
  have CP := Lib.hid cp
  have CB := Lib.hid cb
  have CZ := Lib.hid cz
  have CPR := Lib.hid cpr
  have CBY := Lib.hid cby
  have CPH := Lib.hid cph
  have CVH := Lib.hid cvh
  clear cp cb cz cpr cby cph cvh
  go_enter Tryd.func25, Tryd.ntmps25
  go_wp2_with fail
  refine (CP.out _).mono ?_
  rintro e w0 ⟨rfl, rfl⟩
  go_wp2_with fail
  refine (CB.out _).mono ?_
  rintro e w0 ⟨rfl, rfl⟩
  go_wp2_with fail
  go_quiet ((go_at_call 44; exact Calls.quiet_of_same ((CZ.out _).mono fun _ _ ⟨h1, h2⟩ => ⟨h1, h2.symm⟩)))
  have b1 := below_drewN (Below.refl w.heap.size w) nq
  generalize w.drewN nq = w1 at b1 ⊢
  go_wp2_with fail
  refine (CPR.out _).mono ?_
  rintro e w0 ⟨rfl, rfl⟩
  go_wp2_with fail
  refine (CBY.out _).mono ?_
  rintro e w0 ⟨rfl, rfl⟩
  go_wp2_with fail
  refine (CPH.out _).mono ?_
  rintro e w0 ⟨rfl, rfl⟩
  go_wp2_with fail
  refine (CVH.out _).mono ?_
  rintro e w0 ⟨rfl, rfl⟩
  go_wp2_with fail
  go_ret2
  exact ⟨rfl, b1⟩
end Go.Proofs.YtnojjmpcgbbofaaDoor
