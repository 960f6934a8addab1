/- What the document's answers for layer 3 give: Power, Nodes, Leaf, Leaves. -/
import Derived.Test.YtddmfpiflnjmjabDoorPosPlace
namespace Go.Proofs.YtddmfpiflnjmjabDoor
open Go.RowKit

end Go.Proofs.YtddmfpiflnjmjabDoor
