/-
  The law FeedFormats answers true for every input, and each argument reads afterwards as it read before: the row's statement and its card. Condition: the listed variables of the library start as their own initialisers lay them, which the card ties to the program's text.
-/
import Derived.Test.YtpifdbphmnifdaaGreatDoorFgFeedFormats
set_option maxRecDepth 100000
set_option maxHeartbeats 8000000
namespace Go.Proofs.YtpifdbphmnifdaaGreatDoor
section
open Go.ChangeShapes Go.WideShapes Go.ChangeAt Go.RowKit
open Go.ChangeMaps (open_string shut_string)
theorem feedFormats_card:Rows.FeedFormatsCardSaid :=
 Claim7.holds_tied_plain_at .later [] _ _ _ _ feedFormats_said (fun _ h=>by cases h) (by as_aux_lemma=>kernel_rfl) (fun _ h=>by cases h) feedFormats_row_tie rfl ⟨rfl,rfl⟩ (by as_aux_lemma=>kernel_rfl) rfl feedFormats_plain (by as_aux_lemma=>kernel_rfl)
end
end Go.Proofs.YtpifdbphmnifdaaGreatDoor
