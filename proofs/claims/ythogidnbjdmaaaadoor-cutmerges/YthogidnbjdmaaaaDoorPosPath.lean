/- What rise, Peak and Path answer. -/
import Derived.Test.YthogidnbjdmaaaaDoorPosOk
import Derived.Test.YthogidnbjdmaaaaDoorPosPeaksCall
import Derived.Deep.AppendLies
namespace Go.Proofs.YthogidnbjdmaaaaDoor
open Go.RowKit

end Go.Proofs.YthogidnbjdmaaaaDoor
