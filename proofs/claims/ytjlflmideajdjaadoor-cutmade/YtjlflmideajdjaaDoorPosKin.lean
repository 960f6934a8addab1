/- What Index, Leaves, Parent, Sibling, Kids, Right, Under and Since answer. -/
import Derived.Test.YtjlflmideajdjaaDoorPosSpot
import Derived.Deep.QuietTactic
import Derived.BigQuiet
import Derived.Deep.RegionHeld3
namespace Go.Proofs.YtjlflmideajdjaaDoor
open Go.RowKit

end Go.Proofs.YtjlflmideajdjaaDoor
