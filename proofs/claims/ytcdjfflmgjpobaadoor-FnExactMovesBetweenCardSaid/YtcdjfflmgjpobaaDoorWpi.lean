import Derived.Test.YtcdjfflmgjpobaaDoorWps
namespace Go.Proofs.YtcdjfflmgjpobaaDoor
open Go.RowKit

end Go.Proofs.YtcdjfflmgjpobaaDoor
