import Derived.Test.YtcdjfflmgjpobaaDoorFps
namespace Go.Proofs.YtcdjfflmgjpobaaDoor
open Go.RowKit

end Go.Proofs.YtcdjfflmgjpobaaDoor
