/-
  The number of elements and the least element of a word: what Len and Min (and the two functions of math/bits that they call) answer; they change nothing. Condition: words below 2^64; the table of math/bits as its initialiser lays it.
-/
import Derived.Test.YtlpemdhjbpekaaaDoorBOps
namespace Go.Proofs.YtlpemdhjbpekaaaDoor
open Go.RowKit

/-- The table of math/bits is as its initialiser lays it. -/
def tab64 : List Int := Lib.deBruijn64tab.map fun n : Nat => (n : Int)
def Good (w : World) : Prop := Lib.TabIs Tryd.prog w "math/bits.deBruijn64tab" .u8 tab64
theorem gTab : Tryd.prog.globalNamed "math/bits.deBruijn64tab" = some 1 := by kernel_rfl
theorem var_size {w : World} {n : String} {g : Nat} {cs : Array Value} (hg : Tryd.prog.globalNamed n = some g) (h : w.var? Tryd.prog n = some cs) : g < w.heap.size := by
  unfold World.var? at h
  simp only [hg, Option.bind_some] at h
  by_cases hs : g < w.heap.size
  · exact hs
  · rw [Array.getElem?_eq_none (by omega)] at h
    cases h
theorem Good.below {w w' : World} (h : Good w) (b : Below w.heap.size w w') : Good w' := var?_below b gTab (var_size gTab h) h
theorem Good.tab {w : World} (h : Good w) (r : Nat) (hr : r < 64) : w.cell? ⟨1, r, none⟩ = some (.int .u8 (tab64.getD r 0)) := Lib.TabIs.cell h gTab r hr

theorem and127 (v : Int) (h0 : 0 ≤ v) (h1 : v < 9223372036854775808) : bits BinOp.and IntKind.i64 v 127 = v % 128 := by
  obtain ⟨V, rfl⟩ := Int.eq_ofNat_of_zero_le h0
  have e1 : (BitVec.ofInt 64 (V : Int)).toNat = V := by
    rw [BitVec.ofInt_natCast, BitVec.toNat_ofNat]
    exact Nat.mod_eq_of_lt (by omega)
  have e2 : (BitVec.ofInt 64 (127 : Int)).toNat = 127 := rfl
  show IntKind.i64.wrap ((BitVec.ofInt 64 (V : Int) &&& BitVec.ofInt 64 (127 : Int)).toNat : Int) = _
  rw [BitVec.toNat_and, e1, e2, show (127 : Nat) = 2 ^ 7 - 1 by rfl, Nat.and_two_pow_sub_one_eq_mod]
  rw [IntWalk.i64_in _ (by omega)]
  omega
theorem wrap_in (n : Nat) (h : W64 n) : IntKind.u64.wrap (n : Int) = (n : Int) := by
  rw [IntKind.wrap_u64]
  exact Int.emod_eq_of_lt (Int.natCast_nonneg _) (by unfold W64 at h; omega)
/-! ### The least element -/
theorem neg_wrap (x : Nat) (h0 : x ≠ 0) (hx : W64 x) : IntKind.u64.wrap (-(x : Int)) = ((18446744073709551616 - x : Nat) : Int) := by
  rw [IntKind.wrap_u64]
  unfold W64 at hx
  omega
set_option maxHeartbeats 1000000 in
theorem tz_core (X m a p k : Int) (idx : Nat) (hX : (X == 0) = false) (h1 : IntKind.u64.wrap (-X) = m) (h2 : bits BinOp.and IntKind.u64 X m = a) (h3 : IntKind.u64.wrap (a * 285870213051353865) = p) (h4 : p / 288230376151711744 = idx) (hi : idx < 64)
    (w : World) (hc : w.cell? ⟨1, idx, none⟩ = some (.int .u8 k)) (k0 : 0 ≤ k) (k1 : k < 64) : Calls Tryd.prog 49 #[.int .u64 X] w fun e w' => e = .returned (.int .i64 k) ∧ w = w' := by
  go_enter Tryd.func49, Tryd.ntmps49
  go_wp2_with fail
  go_ret
  exact ⟨rfl, rfl⟩
theorem tz_any (x : Nat) (hx : W64 x) (h0 : x ≠ 0) (w : World) (hg : Good w) : Calls Tryd.prog 49 #[.int .u64 (x : Int)] w fun e w' => e = .returned (.int .i64 ((Lib.ctz 64 x : Nat) : Int)) ∧ w = w' := by
  obtain ⟨hlow, hk⟩ := Lib.lowest_bit 64 x h0 hx
  obtain ⟨hi, htab⟩ := Lib.deBruijn64_at _ hk
  have hc := hg.tab _ hi
  have e : tab64.getD (2 ^ Lib.ctz 64 x * 285870213051353865 % 18446744073709551616 / 288230376151711744) 0 = ((Lib.ctz 64 x : Nat) : Int) := by
    conv => rhs; rw [← htab]
    unfold tab64
    rw [List.getD_eq_getElem?_getD, List.getD_eq_getElem?_getD, List.getElem?_map]
    cases Lib.deBruijn64tab[2 ^ Lib.ctz 64 x * 285870213051353865 % 18446744073709551616 / 288230376151711744]? <;> rfl
  rw [e] at hc
  have hp := pow_lt64 hk
  refine tz_core x ((18446744073709551616 - x : Nat) : Int) ((2 ^ Lib.ctz 64 x : Nat) : Int) ((2 ^ Lib.ctz 64 x * 285870213051353865 % 18446744073709551616 : Nat) : Int) _ _ (beq_false (by omega)) (neg_wrap x h0 hx) ?_ ?_ ?_ hi w hc (Int.natCast_nonneg _) (by omega)
  · rw [bits_and_u64_nat x _ hx (by omega)]
    exact congrArg _ hlow
  · rw [IntKind.wrap_u64, Int.natCast_emod, Int.natCast_mul]
    rfl
  · rw [Int.natCast_ediv]
    rfl
/-- The least element, 0 if there is none. -/
def minB (s : Nat) : Nat := if s = 0 then 0 else Lib.ctz 64 s
theorem min_any (x : Nat) (hx : W64 x) (w : World) (hg : Good w) : Calls Tryd.prog 42 #[.int .u64 (x : Int)] w fun e w' => e = .returned (.tuple #[.int .i64 ((minB x : Nat) : Int), .bool (decide (x ≠ 0))]) ∧ w = w' := by
  by_cases h0 : x = 0
  · subst h0
    go_enter Tryd.func42, Tryd.ntmps42
    go_wp2_with fail
    go_ret2
    exact ⟨rfl, rfl⟩
  · have M := Lib.hid (tz_any x hx h0 w hg)
    have R := Lib.hid (show minB x = Lib.ctz 64 x by unfold minB; rw [if_neg h0])
    have g : ((x : Int) == 0) = false := beq_false (by omega)
    have D := Lib.hid (show decide (x ≠ 0) = true by simp [h0])
    rw [D.out, R.out]
    clear h0
    generalize Lib.ctz 64 x = k at M ⊢
    go_enter Tryd.func42, Tryd.ntmps42
    go_wp2_with fail
    refine (M.out).mono ?_
    rintro e w' ⟨rfl, rfl⟩
    go_wp2_with fail
    go_ret2
    exact ⟨rfl, rfl⟩
/-- The least element of a set is its least bit. -/
theorem min_low {s : Nat} (hs : W64 s) (h0 : s ≠ 0) : minB s < 64 ∧ s.testBit (minB s) = true ∧ ∀ j, j < minB s → s.testBit j = false := by
  unfold minB
  rw [if_neg h0]
  obtain ⟨m, hm, hk⟩ := Lib.ctzFrom_spec 64 s (by omega) hs
  have e : Lib.ctz 64 s = Lib.ctzFrom 64 s := by simp [Lib.ctz, h0]
  rw [e]
  generalize Lib.ctzFrom 64 s = k at hm hk
  have hp := Nat.two_pow_pos k
  refine ⟨hk, ?_, fun j hj => ?_⟩
  · rw [hm, Nat.testBit_two_pow_mul]
    simp [Nat.testBit_zero]
  · rw [hm, Nat.testBit_two_pow_mul]
    simp
    omega
end Go.Proofs.YtlpemdhjbpekaaaDoor
