import Derived.Test.YtncdgjaadlpncaaWps
namespace Go.Proofs.Ytncdgjaadlpncaa
open Go.RowKit

end Go.Proofs.Ytncdgjaadlpncaa
