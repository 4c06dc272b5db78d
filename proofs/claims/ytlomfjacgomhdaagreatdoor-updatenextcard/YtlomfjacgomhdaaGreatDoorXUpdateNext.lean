/-
  UpdateNext: any state that has seen any place is the document's, or the error.
-/
import Derived.Test.YtlomfjacgomhdaaGreatDoorUNext
import Derived.Test.YtlomfjacgomhdaaGreatDoorM22
namespace Go.Proofs.YtlomfjacgomhdaaGreatDoor
open Ud Up
theorem xUpdateNext : Rows.UpdateNextCardSaid := FUpdateNext.card (unext_walk (fun X P x y a b c hm hp bX bP hf W => uof_yes X P x y a b c W hm hp bX bP hf))
end Go.Proofs.YtlomfjacgomhdaaGreatDoor
