/-
  The place of an id in a list of hits, in plain words.
  No program is named here.
-/
import Derived.Test.YtkodenmpadehjabHitGround
namespace Go.Proofs.Ytkodenmpadehjab
open Go.RowKit

/-- The place of an id in a list. -/
def rankFrom : List (Int × Int) → Nat → Int → Int × Int
  | [], _, _ => (4, 0)
  | h :: r, i, id => if h.1 = id then (0, i) else rankFrom r (i + 1) id
def rankOf (hs : List (Int × Int)) (id : Int) : Int × Int := if hitsFault hs = 0 then rankFrom hs 0 id else (hitsFault hs, 0)

end Go.Proofs.Ytkodenmpadehjab
