/- What Index, Leaves, Parent, Sibling, Kids, Right, Under and Since answer. -/
import Derived.Test.YtddmfpiflnjmjaaDoorPosSpot
import Derived.Deep.QuietTactic
import Derived.BigQuiet
import Derived.Deep.RegionHeld3
namespace Go.Proofs.YtddmfpiflnjmjaaDoor
open Go.RowKit

end Go.Proofs.YtddmfpiflnjmjaaDoor
