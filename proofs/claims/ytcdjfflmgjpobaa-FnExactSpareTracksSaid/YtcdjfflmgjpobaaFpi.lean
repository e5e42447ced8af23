import Derived.Test.YtcdjfflmgjpobaaFps
namespace Go.Proofs.Ytcdjfflmgjpobaa
open Go.RowKit

end Go.Proofs.Ytcdjfflmgjpobaa
