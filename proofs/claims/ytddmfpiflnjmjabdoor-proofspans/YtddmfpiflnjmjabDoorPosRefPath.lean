/- What the document's Path gives. -/
import Derived.Test.YtddmfpiflnjmjabDoorPosRefPeak
import Derived.Test.YtddmfpiflnjmjabDoorPosHas
namespace Go.Proofs.YtddmfpiflnjmjabDoor
open Go.RowKit

end Go.Proofs.YtddmfpiflnjmjabDoor
