/-
  The laws TimetableChecks, TimetableClones and TimetableEquals, from what the program's own Check, Clone, Equal and Sizes answer: each answers true for every input; nothing that existed before the call has changed behind it. Condition: lengths of 63 bits.
-/
import Derived.Test.YtkhalnjgbdpfhaaGreatTtA
import Derived.Test.YtkhalnjgbdpfhaaGreatTtB
import Derived.Test.YtkhalnjgbdpfhaaGreatTtI
import Derived.Test.YtkhalnjgbdpfhaaGreatTtJ
import Derived.Test.YtkhalnjgbdpfhaaGreatTtL
namespace Go.Proofs.YtkhalnjgbdpfhaaGreat
open Go.RowKit

theorem checks_fin (a : Nat → Option Addr) (c : Nat → Nat) (T : Tt) (ln : LnTt T) (ok : OkTt T) (w : World) (h : TtL w a c T) : Calls Tryz.prog 3 #[ttV a c T] w fun e w' => e = .returned (.bool true) ∧ Below w.heap.size w w' := checks_law ckC szC a c T ln ok w h
theorem clones_fin (a : Nat → Option Addr) (c : Nat → Nat) (T : Tt) (ln : LnTt T) (ok : OkTt T) (w : World) (h : TtL w a c T) : Calls Tryz.prog 4 #[ttV a c T] w fun e w' => e = .returned (.bool true) ∧ Below w.heap.size w w' := clones_law ckC szC eqC clC a c T ln ok w h
theorem equals_fin (a : Nat → Option Addr) (c : Nat → Nat) (T : Tt) (_ : LnTt T) (_ : OkTt T) (a' : Nat → Option Addr) (c' : Nat → Nat) (U : Tt) (_ : LnTt U) (_ : OkTt U) (w : World) (h : TtL w a c T) (h' : TtL w a' c' U) : Calls Tryz.prog 5 #[ttV a c T, ttV a' c' U] w fun e w' => e = .returned (.bool true) ∧ Below w.heap.size w w' := equals_law ckC szC eqC a c T a' c' U w h h'
end Go.Proofs.YtkhalnjgbdpfhaaGreat
