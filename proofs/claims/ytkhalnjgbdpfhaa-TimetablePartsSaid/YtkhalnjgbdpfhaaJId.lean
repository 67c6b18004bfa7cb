/-
  The reference's Name: what the call answers; the world is as it was. Condition: none.
-/
import Derived.Test.YtkhalnjgbdpfhaaShV
namespace Go.Proofs.Ytkhalnjgbdpfhaa
open Go.RowKit

end Go.Proofs.Ytkhalnjgbdpfhaa
