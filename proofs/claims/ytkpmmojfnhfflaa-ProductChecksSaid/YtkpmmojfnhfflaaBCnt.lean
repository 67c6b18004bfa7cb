/-
  The number of elements and the least element of a word: what Len and Min (and the two functions of math/bits that they call) answer; they change nothing. Condition: words below 2^64; the table of math/bits as its initialiser lays it.
-/
import Derived.Test.YtkpmmojfnhfflaaBOps
namespace Go.Proofs.Ytkpmmojfnhfflaa
open Go.RowKit

/-- The table of math/bits is as its initialiser lays it. -/
def tab64 : List Int := Lib.deBruijn64tab.map fun n : Nat => (n : Int)
def Good (w : World) : Prop := Lib.TabIs Try.prog w "math/bits.deBruijn64tab" .u8 tab64
theorem var_size {w : World} {n : String} {g : Nat} {cs : Array Value} (hg : Try.prog.globalNamed n = some g) (h : w.var? Try.prog n = some cs) : g < w.heap.size := by
  unfold World.var? at h
  simp only [hg, Option.bind_some] at h
  by_cases hs : g < w.heap.size
  · exact hs
  · rw [Array.getElem?_eq_none (by omega)] at h
    cases h
theorem and127 (v : Int) (h0 : 0 ≤ v) (h1 : v < 9223372036854775808) : bits BinOp.and IntKind.i64 v 127 = v % 128 := by
  obtain ⟨V, rfl⟩ := Int.eq_ofNat_of_zero_le h0
  have e1 : (BitVec.ofInt 64 (V : Int)).toNat = V := by
    rw [BitVec.ofInt_natCast, BitVec.toNat_ofNat]
    exact Nat.mod_eq_of_lt (by omega)
  have e2 : (BitVec.ofInt 64 (127 : Int)).toNat = 127 := rfl
  show IntKind.i64.wrap ((BitVec.ofInt 64 (V : Int) &&& BitVec.ofInt 64 (127 : Int)).toNat : Int) = _
  rw [BitVec.toNat_and, e1, e2, show (127 : Nat) = 2 ^ 7 - 1 by rfl, Nat.and_two_pow_sub_one_eq_mod]
  rw [IntWalk.i64_in _ (by omega)]
  omega
theorem wrap_in (n : Nat) (h : W64 n) : IntKind.u64.wrap (n : Int) = (n : Int) := by
  rw [IntKind.wrap_u64]
  exact Int.emod_eq_of_lt (Int.natCast_nonneg _) (by unfold W64 at h; omega)
set_option maxHeartbeats 1000000 in
theorem ones_core (X a1 a2 a b1 b2 b c y z u v r : Int) (h1 : bits BinOp.and IntKind.u64 (X / 2) 6148914691236517205 = a1) (h2 : bits BinOp.and IntKind.u64 X 6148914691236517205 = a2) (h3 : IntKind.u64.wrap (a1 + a2) = a)
    (h4 : bits BinOp.and IntKind.u64 (a / 4) 3689348814741910323 = b1) (h5 : bits BinOp.and IntKind.u64 a 3689348814741910323 = b2) (h6 : IntKind.u64.wrap (b1 + b2) = b)
    (h7 : IntKind.u64.wrap (b / 16 + b) = c) (h8 : bits BinOp.and IntKind.u64 c 1085102592571150095 = y) (h9 : IntKind.u64.wrap (y + y / 256) = z) (h10 : IntKind.u64.wrap (z + z / 65536) = u) (h11 : IntKind.u64.wrap (u + u / 4294967296) = v)
    (v0 : 0 ≤ v) (v1 : v < 9223372036854775808) (h12 : bits BinOp.and IntKind.i64 v 127 = r) (w : World) : Calls Try.prog 45 #[.int .u64 X] w fun e w' => e = .returned (.int .i64 r) ∧ w = w' := by
  go_enter Try.func45, Try.ntmps45
  go_wp2_with fail
  go_ret
  exact ⟨rfl, rfl⟩
/-- OnesCount64: the number of the elements. -/
theorem ones_any (x : Nat) (hx : W64 x) (w : World) : Calls Try.prog 45 #[.int .u64 (x : Int)] w fun e w' => e = .returned (.int .i64 (((elems x).length : Nat) : Int)) ∧ w = w' := by
  obtain ⟨a, ha⟩ : ∃ a, a = (x / 2 &&& 6148914691236517205) + (x &&& 6148914691236517205) := ⟨_, rfl⟩
  obtain ⟨b, hb⟩ : ∃ b, b = (a / 4 &&& 3689348814741910323) + (a &&& 3689348814741910323) := ⟨_, rfl⟩
  obtain ⟨y, hy⟩ : ∃ y, y = (b / 16 + b) &&& 1085102592571150095 := ⟨_, rfl⟩
  obtain ⟨l1, l2, l3, l4, l5, l6, l7, l8⟩ := pop_all x a b y ha hb hy
  unfold W64 at hx
  refine ones_core x ((x / 2 &&& 6148914691236517205 : Nat) : Int) ((x &&& 6148914691236517205 : Nat) : Int) a ((a / 4 &&& 3689348814741910323 : Nat) : Int) ((a &&& 3689348814741910323 : Nat) : Int) b ((b / 16 + b : Nat) : Int) y ((y + y / 256 : Nat) : Int) ((y + y / 256 + (y + y / 256) / 65536 : Nat) : Int)
    ((y + y / 256 + (y + y / 256) / 65536 + (y + y / 256 + (y + y / 256) / 65536) / 4294967296 : Nat) : Int) _ ?_ ?_ ?_ ?_ ?_ ?_ ?_ ?_ ?_ ?_ ?_ (Int.natCast_nonneg _) (by omega) ?_ w
  · exact bits_and_u64_nat (x / 2) 6148914691236517205 (by omega) (by decide)
  · exact bits_and_u64_nat x 6148914691236517205 hx (by decide)
  · rw [← Int.natCast_add, ← ha]; exact wrap_in a l1
  · exact bits_and_u64_nat (a / 4) 3689348814741910323 (by omega) (by decide)
  · exact bits_and_u64_nat a 3689348814741910323 l1 (by decide)
  · rw [← Int.natCast_add, ← hb]; exact wrap_in b l2
  · exact wrap_in (b / 16 + b) l3
  · rw [hy]; exact bits_and_u64_nat (b / 16 + b) 1085102592571150095 l3 (by decide)
  · exact wrap_in (y + y / 256) l5
  · exact wrap_in (y + y / 256 + (y + y / 256) / 65536) l6
  · exact wrap_in (y + y / 256 + (y + y / 256) / 65536 + (y + y / 256 + (y + y / 256) / 65536) / 4294967296) (by unfold W64; omega)
  · rw [and127 _ (Int.natCast_nonneg _) (by omega), ← l8]; rfl
theorem len_any (x : Nat) (hx : W64 x) (w : World) : Calls Try.prog 32 #[.int .u64 (x : Int)] w fun e w' => e = .returned (.int .i64 (((elems x).length : Nat) : Int)) ∧ w = w' := by
  have M := Lib.hid (fun W => ones_any x hx W)
  generalize (elems x).length = r at M ⊢
  go_enter Try.func32, Try.ntmps32
  go_wp2_with fail
  refine (M.out _).mono ?_
  rintro e w' ⟨rfl, rfl⟩
  go_wp2_with fail
  go_ret
  exact ⟨rfl, rfl⟩

/-! ### The least element -/
theorem neg_wrap (x : Nat) (h0 : x ≠ 0) (hx : W64 x) : IntKind.u64.wrap (-(x : Int)) = ((18446744073709551616 - x : Nat) : Int) := by
  rw [IntKind.wrap_u64]
  unfold W64 at hx
  omega
/-- The least element, 0 if there is none. -/
def minB (s : Nat) : Nat := if s = 0 then 0 else Lib.ctz 64 s
/-- The least element of a set is its least bit. -/
theorem min_low {s : Nat} (hs : W64 s) (h0 : s ≠ 0) : minB s < 64 ∧ s.testBit (minB s) = true ∧ ∀ j, j < minB s → s.testBit j = false := by
  unfold minB
  rw [if_neg h0]
  obtain ⟨m, hm, hk⟩ := Lib.ctzFrom_spec 64 s (by omega) hs
  have e : Lib.ctz 64 s = Lib.ctzFrom 64 s := by simp [Lib.ctz, h0]
  rw [e]
  generalize Lib.ctzFrom 64 s = k at hm hk
  have hp := Nat.two_pow_pos k
  refine ⟨hk, ?_, fun j hj => ?_⟩
  · rw [hm, Nat.testBit_two_pow_mul]
    simp [Nat.testBit_zero]
  · rw [hm, Nat.testBit_two_pow_mul]
    simp
    omega
end Go.Proofs.Ytkpmmojfnhfflaa
