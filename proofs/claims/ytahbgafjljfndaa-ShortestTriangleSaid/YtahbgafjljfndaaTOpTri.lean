/-
  A law of this package beside the opening of its arguments. Condition: none.
-/
import Derived.Test.YtahbgafjljfndaaTOpen
import Derived.Test.YtahbgafjljfndaaTTri
