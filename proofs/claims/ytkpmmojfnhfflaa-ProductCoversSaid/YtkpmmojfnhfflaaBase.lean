/-
  What every walk of ours uses: contracts told of an earlier world, results and tests spelt as the walk spells them, strings indexed, sliced, joined and made of bytes. Condition: none beyond each theorem's own hypotheses.
-/
import Derived.Test.YtkpmmojfnhfflaaRows
import Derived.Test.YtkpmmojfnhfflaaDigits
import Derived.WalkKit
import Derived.WalkSpells
import Derived.WalkLawsBesides
import Derived.WalkSmall
import Derived.Lib.Hide
import Derived.Lib.LaidTab
import Derived.Laws.RangeString
import Derived.Laws.RangeAny
import Derived.Laws.BytesArg
import Derived.LoopN
import Derived.Sort.Grow
import Derived.ShutString
import Derived.Deep.RegionHeld3
import Derived.Deep.QuietTactic
import Derived.BigQuiet
namespace Go.Proofs.Ytkpmmojfnhfflaa
open Go.RowKit

/-- A contract told of an earlier world. -/
theorem rel {P : Program} {f : FuncId} {args : Array Value} {w W : World} {x : Ending} (h : Calls P f args w fun e w' => e = x ∧ Below w.heap.size w w') (hb : Below W.heap.size W w) :
    Calls P f args w fun e w' => e = x ∧ Below W.heap.size W w' :=
  h.mono fun _ _ ⟨he, hc⟩ => ⟨he, hb.trans (hc.mono hb.size)⟩
theorem below_drewN {B : Nat} {a w : World} (h : Below B a w) (n : Nat) : Below B a (w.drewN n) := ⟨h.os, h.tape, h.output, h.size, h.block⟩
/-- A contract that leaves the world alone, told so. -/
theorem still {P : Program} {f : FuncId} {args : Array Value} {w : World} {x : Ending} (h : Calls P f args w fun e w' => e = x ∧ w = w') :
    Calls P f args w fun e w' => e = x ∧ Below w.heap.size w w' :=
  h.mono fun _ _ ⟨he, hc⟩ => ⟨he, hc ▸ Below.refl _ _⟩

theorem results_tmp4 {fn : Func} {t u v x : Tmp} (h : fn.results = #[.tmp t, .tmp u, .tmp v, .tmp x]) (tmps : Array Value) (P : Program) (w : World) :
    (results fn tmps).run P w = .ok (.tuple #[tmps.getD t undef, tmps.getD u undef, tmps.getD v undef, tmps.getD x undef]) w := by simp [results, h]

theorem run_at (s : ByteArray) (i : Nat) (h : i < s.size) (W : World) : (Instr.index 9 (.string s) (.int .i64 i)).run Try.prog W = .ok (.int .u8 s[i].toNat) W := by
  go_simp
theorem below_iter (w : World) (s : ByteArray) (k : Nat) : Below w.heap.size w (w.iter s k) := (Below.refl _ _).alloc (Nat.le_refl _) _

theorem beq_false {a b : Int} (h : a ≠ b) : (a == b) = false := by rw [beq_eq_false_iff_ne]; exact h
theorem bne_true {a b : Int} (h : a ≠ b) : (a != b) = true := by rw [bne, beq_false h]; rfl

theorem beq_true {a b : Int} (h : a = b) : (a == b) = true := by rw [beq_iff_eq]; exact h

theorem neq_false {a b : Int} (h : a = b) : (a != b) = false := by rw [h]; simp

theorem str_app (a b : List UInt8) : str a ++ str b = str (a ++ b) := by
  apply ByteArray.ext
  simp [str]
theorem ret_str {a b : ByteArray} (h : a = b) {n : Int} : Ending.returned (.tuple #[.string a, .int .i64 n]) = Ending.returned (.tuple #[.string b, .int .i64 n]) := by rw [h]
theorem two_eq (x : Int) (h0 : 0 ≤ x) : [UInt8.ofNat (48 + x / 10).toNat, UInt8.ofNat (48 + x % 10).toNat] = two x := by
  unfold two
  rw [show (48 + x / 10).toNat = 48 + x.toNat / 10 by omega, show (48 + x % 10).toNat = 48 + x.toNat % 10 by omega]

theorem ret_text {a b : List UInt8} (h : a = b) {n : Int} : Ending.returned (.tuple #[.string (str a), .int .i64 n]) = Ending.returned (.tuple #[.string (str b), .int .i64 n]) := by rw [h]
theorem ret_int {k : IntKind} {a b : Int} (h : a = b) : Ending.returned (.int k a) = .returned (.int k b) := by rw [h]
theorem ret_bool {a b : Bool} (h : a = b) : Ending.returned (.bool a) = .returned (.bool b) := by rw [h]
theorem ret_intb {a b : Int} {c : Bool} (h : a = b) : Ending.returned (.tuple #[.int .i64 a, .bool c]) = .returned (.tuple #[.int .i64 b, .bool c]) := by rw [h]
theorem ret_civ {a b c x y z : Int} (h1 : a = x) (h2 : b = y) (h3 : c = z) : Ending.returned (.tuple #[.int .i64 a, .int .i64 b, .int .i64 c, .bool true]) = Ending.returned (.tuple #[.int .i64 x, .int .i64 y, .int .i64 z, .bool true]) := by rw [h1, h2, h3]
theorem ret_two {a b c d : Int} (h : a = c) (k : b = d) : Ending.returned (.tuple #[.int .i64 a, .int .i64 b]) = .returned (.tuple #[.int .i64 c, .int .i64 d]) := by rw [h, k]

theorem size_str (l : List UInt8) : (str l).size = l.length := by show l.toArray.size = _; simp
theorem below_grow (w : World) (k : Nat) (os : Array Obj) : Below w.heap.size w (Sort.grow (w.drewN k) os) :=
  ⟨rfl, rfl, rfl, by simp, fun j hj => Sort.heap_grow_old (w.drewN k) os hj⟩
theorem ret_sstr {a b : ByteArray} (h : a = b) : Ending.returned (.string a) = Ending.returned (.string b) := by rw [h]
theorem idx_run (l : List UInt8) (i : Nat) (c : UInt8) (h : l[i]? = some c) (e : Int) (he : e = i) (W : World) : (Instr.index 9 (.string (str l)) (.int .i64 e)).run Try.prog W = .ok (.int .u8 c.toNat) W := by
  subst he
  have hi : i < l.length := (List.getElem?_eq_some_iff.1 h).1
  rw [run_at (str l) i (by rw [size_str]; exact hi) W]
  have : (str l)[i]'(by rw [size_str]; exact hi) = c := (List.getElem?_eq_some_iff.1 h).2
  rw [this]
theorem slh_run (l : List UInt8) (j : Nat) (hj : j ≤ l.length) (m : List UInt8) (hm : l.take j = m) (e : Int) (he : e = j) (W : World) : (Instr.slice 9 (.string (str l)) none (some (.int .i64 e)) none).run Try.prog W = .ok (.string (str m)) W := by
  subst he hm
  rw [run_slice_string_h W 9 (str l) Try.underlying9 .i64 j (by omega) (by rw [size_str]; omega)]
  congr 2
  rw [Lib.extract_eq]
  simp
theorem sll_run (l : List UInt8) (j : Nat) (hj : j ≤ l.length) (m : List UInt8) (hm : l.drop j = m) (e : Int) (he : e = j) (W : World) : (Instr.slice 9 (.string (str l)) (some (.int .i64 e)) none none).run Try.prog W = .ok (.string (str m)) W := by
  subst he hm
  rw [run_slice_string_l W 9 (str l) Try.underlying9 .i64 j (by omega) (by rw [size_str]; omega)]
  congr 2
  rw [Lib.extract_eq, size_str]
  simp
  rw [List.take_of_length_le (by simp)]
theorem slb_run (l : List UInt8) (i j : Nat) (hi : i ≤ j) (hj : j ≤ l.length) (m : List UInt8) (hm : (l.drop i).take (j - i) = m) (e f : Int) (he : e = i) (hf : f = j) (W : World) : (Instr.slice 9 (.string (str l)) (some (.int .i64 e)) (some (.int .i64 f)) none).run Try.prog W = .ok (.string (str m)) W := by
  subst he hf hm
  rw [run_slice_string W 9 (str l) .i64 .i64 i j Try.underlying9 (by omega) (by omega) (by rw [size_str]; omega)]
  congr 2
  rw [Lib.extract_eq]
  simp

theorem ret_pair {a b : Int × Int} (h : a = b) : Ending.returned (.tuple #[.int .i64 a.1, .int .i64 a.2]) = Ending.returned (.tuple #[.int .i64 b.1, .int .i64 b.2]) := by rw [h]

/-- x == nil at a slice. -/
theorem run_equalIn_sl (d : Nat) (t : TypeId) (A : Option Addr) (n c : Nat) {e : TypeId} (h : Try.prog.underlying t = some (.slice e)) (w : World) : (Op.equalIn (d + 1) t (.slice A n c) (.slice none 0 0)).run Try.prog w = .ok A.isNone w := by
  cases A <;> simp [Op.equalIn, run_underlying h]
theorem run_equal_sl (t : TypeId) (A : Option Addr) (n c : Nat) {e : TypeId} (h : Try.prog.underlying t = some (.slice e)) (w : World) : (Op.equal t (.slice A n c) (.slice none 0 0)).run Try.prog w = .ok A.isNone w := run_equalIn_sl 9999 t A n c h w
theorem slice_is_nil (t : TypeId) (A : Option Addr) (n c : Nat) {e : TypeId} (h : Try.prog.underlying t = some (.slice e)) (w : World) : (binOp BinOp.eql t (.slice A n c) (.slice none 0 0)).run Try.prog w = .ok (.bool A.isNone) w := by
  simp only [binOp]
  simp [run_equal_sl t A n c h w]
end Go.Proofs.Ytkpmmojfnhfflaa
