/-
  The closed facts about the program that the law FeedFormats's row asks for. Condition: none.
-/
import Derived.Test.YtpifdbphmnifdaaGreatDoorRows
import Derived.Test.YtpifdbphmnifdaaGreatDoorChecked
import Derived.JoinedCond
import Derived.ProofKit
import Derived.OpenShut
set_option maxRecDepth 100000
set_option maxHeartbeats 8000000
namespace Go.Proofs.YtpifdbphmnifdaaGreatDoor
section
open Go Go.ChangeShapes Go.WideShapes Go.ChangeAt Go.RowKit
theorem feedFormats_bt {a b:Bool} (ha:a=true) (hb:b=true):(a&&b)=true:=by rw [ha,hb];rfl
theorem feedFormats_closed:joinedFacts Tryz.pinned.checked.prog 4 Tryz.f4 (OpenSpec.ofChange Rows.feedFormatsSpec).bare Rows.feedFormatsRow=true:=by
 unfold joinedFacts;exact (feedFormats_bt (feedFormats_bt (feedFormats_bt (feedFormats_bt (feedFormats_bt (feedFormats_bt (feedFormats_bt (feedFormats_bt (feedFormats_bt (feedFormats_bt (feedFormats_bt (feedFormats_bt (feedFormats_bt (feedFormats_bt (feedFormats_bt (feedFormats_bt (feedFormats_bt (feedFormats_bt (feedFormats_bt (feedFormats_bt (feedFormats_bt (feedFormats_bt (feedFormats_bt (feedFormats_bt (feedFormats_bt (feedFormats_bt (feedFormats_bt (feedFormats_bt (feedFormats_bt (feedFormats_bt (feedFormats_bt (by as_aux_lemma=>kernel_rfl) (by as_aux_lemma=>kernel_rfl)) (by as_aux_lemma=>kernel_rfl)) (by as_aux_lemma=>kernel_rfl)) (by as_aux_lemma=>kernel_rfl)) (by as_aux_lemma=>kernel_rfl)) (by as_aux_lemma=>kernel_rfl)) (by as_aux_lemma=>kernel_rfl)) (by as_aux_lemma=>kernel_rfl)) (by as_aux_lemma=>kernel_rfl)) (by as_aux_lemma=>kernel_rfl)) (by as_aux_lemma=>kernel_rfl)) (by as_aux_lemma=>kernel_rfl)) (by as_aux_lemma=>kernel_rfl)) (by as_aux_lemma=>kernel_rfl)) (by as_aux_lemma=>kernel_rfl)) (by as_aux_lemma=>kernel_rfl)) (by as_aux_lemma=>kernel_rfl)) (by as_aux_lemma=>kernel_rfl)) (by as_aux_lemma=>kernel_rfl)) (by as_aux_lemma=>kernel_rfl)) (by as_aux_lemma=>kernel_rfl)) (by as_aux_lemma=>kernel_rfl)) (by as_aux_lemma=>kernel_rfl)) (by as_aux_lemma=>kernel_rfl)) (by as_aux_lemma=>kernel_rfl)) (by as_aux_lemma=>kernel_rfl)) (by as_aux_lemma=>kernel_rfl)) (by as_aux_lemma=>kernel_rfl)) (by as_aux_lemma=>kernel_rfl)) (by as_aux_lemma=>kernel_rfl)) (by as_aux_lemma=>kernel_rfl))
end
end Go.Proofs.YtpifdbphmnifdaaGreatDoor
