/-
  LikeOf: how likely the gap of whatever place is from whatever state is the document's, or the error; its condition: the library's variable errors.errorType holds what the program's text lays there, which the card ties.
-/
import Derived.Test.YtdgcnaijndocnaaGreatDoorM38
import Derived.Test.YtdgcnaijndocnaaGreatDoorLkU
import Derived.Test.YtdgcnaijndocnaaGreatDoorM35
namespace Go.Proofs.YtdgcnaijndocnaaGreatDoor
open Ud Up
theorem xLikeOf : Rows.LikeOfCardSaid := FLikeOf.card (likeof_walk likePkg (fun X P x y a b c W hm hp bX bP hf => uof_yes X P x y a b c W hm hp bX bP hf))
end Go.Proofs.YtdgcnaijndocnaaGreatDoor
