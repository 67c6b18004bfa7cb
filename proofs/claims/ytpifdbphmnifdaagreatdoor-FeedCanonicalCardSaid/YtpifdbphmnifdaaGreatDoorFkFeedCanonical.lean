/-
  The closed facts about the program that the law FeedCanonical's row asks for. Condition: none.
-/
import Derived.Test.YtpifdbphmnifdaaGreatDoorRows
import Derived.Test.YtpifdbphmnifdaaGreatDoorChecked
import Derived.JoinedCond
import Derived.ProofKit
import Derived.OpenShut
set_option maxRecDepth 100000
set_option maxHeartbeats 8000000
namespace Go.Proofs.YtpifdbphmnifdaaGreatDoor
section
open Go Go.ChangeShapes Go.WideShapes Go.ChangeAt Go.RowKit
theorem feedCanonical_bt {a b:Bool} (ha:a=true) (hb:b=true):(a&&b)=true:=by rw [ha,hb];rfl
theorem feedCanonical_closed:joinedFacts Tryz.pinned.checked.prog 6 Tryz.f6 (OpenSpec.ofChange Rows.feedCanonicalSpec).bare Rows.feedCanonicalRow=true:=by
 unfold joinedFacts;exact (feedCanonical_bt (feedCanonical_bt (feedCanonical_bt (feedCanonical_bt (feedCanonical_bt (feedCanonical_bt (feedCanonical_bt (feedCanonical_bt (feedCanonical_bt (feedCanonical_bt (feedCanonical_bt (feedCanonical_bt (feedCanonical_bt (feedCanonical_bt (feedCanonical_bt (feedCanonical_bt (feedCanonical_bt (feedCanonical_bt (feedCanonical_bt (feedCanonical_bt (feedCanonical_bt (feedCanonical_bt (feedCanonical_bt (feedCanonical_bt (feedCanonical_bt (feedCanonical_bt (feedCanonical_bt (feedCanonical_bt (feedCanonical_bt (feedCanonical_bt (feedCanonical_bt (by as_aux_lemma=>kernel_rfl) (by as_aux_lemma=>kernel_rfl)) (by as_aux_lemma=>kernel_rfl)) (by as_aux_lemma=>kernel_rfl)) (by as_aux_lemma=>kernel_rfl)) (by as_aux_lemma=>kernel_rfl)) (by as_aux_lemma=>kernel_rfl)) (by as_aux_lemma=>kernel_rfl)) (by as_aux_lemma=>kernel_rfl)) (by as_aux_lemma=>kernel_rfl)) (by as_aux_lemma=>kernel_rfl)) (by as_aux_lemma=>kernel_rfl)) (by as_aux_lemma=>kernel_rfl)) (by as_aux_lemma=>kernel_rfl)) (by as_aux_lemma=>kernel_rfl)) (by as_aux_lemma=>kernel_rfl)) (by as_aux_lemma=>kernel_rfl)) (by as_aux_lemma=>kernel_rfl)) (by as_aux_lemma=>kernel_rfl)) (by as_aux_lemma=>kernel_rfl)) (by as_aux_lemma=>kernel_rfl)) (by as_aux_lemma=>kernel_rfl)) (by as_aux_lemma=>kernel_rfl)) (by as_aux_lemma=>kernel_rfl)) (by as_aux_lemma=>kernel_rfl)) (by as_aux_lemma=>kernel_rfl)) (by as_aux_lemma=>kernel_rfl)) (by as_aux_lemma=>kernel_rfl)) (by as_aux_lemma=>kernel_rfl)) (by as_aux_lemma=>kernel_rfl)) (by as_aux_lemma=>kernel_rfl)) (by as_aux_lemma=>kernel_rfl))
end
end Go.Proofs.YtpifdbphmnifdaaGreatDoor
