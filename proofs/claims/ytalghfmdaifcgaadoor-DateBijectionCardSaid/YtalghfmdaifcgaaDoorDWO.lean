/-
  The walks of the laws DateWeeks, DateOrders and DateBijection, and what the rows' condition gives them, together. Condition: none.
-/
import Derived.Test.YtalghfmdaifcgaaDoorDGood
import Derived.Test.YtalghfmdaifcgaaDoorDOrders
import Derived.Test.YtalghfmdaifcgaaDoorDBij2
