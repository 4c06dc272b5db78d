/-
  UpdateOf: of any state and any place the gap and how far it is are the document's, or the error.
-/
import Derived.Test.YtlomfjacgomhdaaGreatDoorUOf
import Derived.Test.YtlomfjacgomhdaaGreatDoorM22
namespace Go.Proofs.YtlomfjacgomhdaaGreatDoor
open Ud Up
theorem xUpdateOf : Rows.UpdateOfCardSaid := FUpdateOf.card (uof_walk (fun X P x y a b c hm hp bX bP hf W => uof_yes X P x y a b c W hm hp bX bP hf))
end Go.Proofs.YtlomfjacgomhdaaGreatDoor
