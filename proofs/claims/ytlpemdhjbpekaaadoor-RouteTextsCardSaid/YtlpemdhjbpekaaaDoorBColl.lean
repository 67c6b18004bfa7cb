/-
  All and List of package bitset: the iterator that a call hands back, and the list of the elements; nothing that existed before the call has changed behind it. Condition: words below 2^64; the table of math/bits as its initialiser lays it.
-/
import Derived.Test.YtlpemdhjbpekaaaDoorBAll
import Derived.RangeFuncBox
namespace Go.Proofs.YtlpemdhjbpekaaaDoor
open Go.RowKit Go.Shelf
attribute [local go_sem] Oper.semAt_some

theorem all_any (s : Nat) (w : World) : Calls Tryd.prog 35 #[.int .u64 (s : Int)] w fun e w' => e = .returned (.func (.func 41) #[] #[.pointer (some ⟨w.heap.size, 0, none⟩)]) ∧ w' = w.alloc (.cells #[.int .u64 (s : Int)] 37) := by
  go_enter Tryd.func35, Tryd.ntmps35
  go_wp2_with fail
  go_ret
  exact ⟨rfl, rfl⟩
end Go.Proofs.YtlpemdhjbpekaaaDoor
