/-
  The closed facts about the program that the law FeedLines's row asks for. Condition: none.
-/
import Derived.Test.YtpifdbphmnifdaaGreatDoorRows
import Derived.Test.YtpifdbphmnifdaaGreatDoorChecked
import Derived.JoinedCond
import Derived.ProofKit
import Derived.OpenShut
set_option maxRecDepth 100000
set_option maxHeartbeats 8000000
namespace Go.Proofs.YtpifdbphmnifdaaGreatDoor
open Go Go.ChangeShapes Go.WideShapes Go.ChangeAt Go.RowKit
theorem feedLines_bt {a b:Bool} (ha:a = true) (hb:b = true):(a && b) = true:=by rw [ha,hb]; rfl
theorem feedLines_closed:joinedFacts Tryz.pinned.checked.prog 8 Tryz.f8 (OpenSpec.ofChange Rows.feedLinesSpec).bare Rows.feedLinesRow = true:=by
 unfold joinedFacts
 exact (feedLines_bt (feedLines_bt (feedLines_bt (feedLines_bt (feedLines_bt (feedLines_bt (feedLines_bt (feedLines_bt (feedLines_bt (feedLines_bt (feedLines_bt (feedLines_bt (feedLines_bt (feedLines_bt (feedLines_bt (feedLines_bt (feedLines_bt (feedLines_bt (feedLines_bt (feedLines_bt (feedLines_bt (feedLines_bt (feedLines_bt (feedLines_bt (feedLines_bt (feedLines_bt (feedLines_bt (feedLines_bt (feedLines_bt (feedLines_bt (feedLines_bt (by as_aux_lemma=>kernel_rfl) (by as_aux_lemma=>kernel_rfl)) (by as_aux_lemma=>kernel_rfl)) (by as_aux_lemma=>kernel_rfl)) (by as_aux_lemma=>kernel_rfl)) (by as_aux_lemma=>kernel_rfl)) (by as_aux_lemma=>kernel_rfl)) (by as_aux_lemma=>kernel_rfl)) (by as_aux_lemma=>kernel_rfl)) (by as_aux_lemma=>kernel_rfl)) (by as_aux_lemma=>kernel_rfl)) (by as_aux_lemma=>kernel_rfl)) (by as_aux_lemma=>kernel_rfl)) (by as_aux_lemma=>kernel_rfl)) (by as_aux_lemma=>kernel_rfl)) (by as_aux_lemma=>kernel_rfl)) (by as_aux_lemma=>kernel_rfl)) (by as_aux_lemma=>kernel_rfl)) (by as_aux_lemma=>kernel_rfl)) (by as_aux_lemma=>kernel_rfl)) (by as_aux_lemma=>kernel_rfl)) (by as_aux_lemma=>kernel_rfl)) (by as_aux_lemma=>kernel_rfl)) (by as_aux_lemma=>kernel_rfl)) (by as_aux_lemma=>kernel_rfl)) (by as_aux_lemma=>kernel_rfl)) (by as_aux_lemma=>kernel_rfl)) (by as_aux_lemma=>kernel_rfl)) (by as_aux_lemma=>kernel_rfl)) (by as_aux_lemma=>kernel_rfl)) (by as_aux_lemma=>kernel_rfl)) (by as_aux_lemma=>kernel_rfl))
end Go.Proofs.YtpifdbphmnifdaaGreatDoor
