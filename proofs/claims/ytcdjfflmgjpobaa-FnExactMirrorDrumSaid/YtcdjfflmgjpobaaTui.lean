import Derived.Test.YtcdjfflmgjpobaaTur
namespace Go.Proofs.Ytcdjfflmgjpobaa
open Go.RowKit

end Go.Proofs.Ytcdjfflmgjpobaa
