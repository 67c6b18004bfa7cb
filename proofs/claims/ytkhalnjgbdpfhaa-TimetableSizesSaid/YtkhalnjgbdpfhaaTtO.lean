/-
  The laws TimetableSizes, TimetableParts and TimetableShrinks, from what the program's own Check and Sizes answer: each answers true for every input; nothing that existed before the call has changed behind it. Condition: lengths of 63 bits.
-/
import Derived.Test.YtkhalnjgbdpfhaaTtA
import Derived.Test.YtkhalnjgbdpfhaaTtB
import Derived.Test.YtkhalnjgbdpfhaaTtK
import Derived.Test.YtkhalnjgbdpfhaaTtV
import Derived.Test.YtkhalnjgbdpfhaaTtW
namespace Go.Proofs.Ytkhalnjgbdpfhaa
open Go.RowKit

theorem sizes_fin (a : Nat → Option Addr) (c : Nat → Nat) (T : Tt) (ln : LnTt T) (ok : OkTt T) (w : World) (h : TtL w a c T) : Calls Try.prog 3 #[ttV a c T] w fun e w' => e = .returned (.bool true) ∧ Below w.heap.size w w' := sizes_law ckC szC a c T ln ok w h
theorem parts_fin (a : Nat → Option Addr) (c : Nat → Nat) (T : Tt) (ln : LnTt T) (ok : OkTt T) (w : World) (h : TtL w a c T) : Calls Try.prog 4 #[ttV a c T] w fun e w' => e = .returned (.bool true) ∧ Below w.heap.size w w' := parts_law ckC szC a c T ln ok w h
theorem shrinks_fin (a : Nat → Option Addr) (c : Nat → Nat) (T : Tt) (ln : LnTt T) (ok : OkTt T) (k : Int) (w : World) (h : TtL w a c T) : Calls Try.prog 5 #[ttV a c T, .int .i64 k] w fun e w' => e = .returned (.bool true) ∧ Below w.heap.size w w' := shrinks_law ckC szC a c T ln ok k w h
end Go.Proofs.Ytkhalnjgbdpfhaa
