import Derived.Test.YtcdjfflmgjpobaaWps
namespace Go.Proofs.Ytcdjfflmgjpobaa
open Go.RowKit

end Go.Proofs.Ytcdjfflmgjpobaa
