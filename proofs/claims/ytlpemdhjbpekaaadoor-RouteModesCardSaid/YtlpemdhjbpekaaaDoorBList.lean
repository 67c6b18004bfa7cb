/-
  The reference's List and Min of a set of small ints: what each call answers; nothing that existed before the call has changed behind it. Condition: words below 2^64.
-/
import Derived.Test.YtlpemdhjbpekaaaDoorBRef
namespace Go.Proofs.YtlpemdhjbpekaaaDoor
open Go.RowKit

theorem OwnI.alloc {w : World} {base : Nat} {v : Value} {l : List Int} (h : OwnI w base v l) (o : Obj) : OwnI (w.alloc o) base v l := World.ownsRow.alloc h o
end Go.Proofs.YtlpemdhjbpekaaaDoor
