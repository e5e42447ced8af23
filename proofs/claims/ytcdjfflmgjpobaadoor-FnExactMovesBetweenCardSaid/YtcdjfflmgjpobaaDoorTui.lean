import Derived.Test.YtcdjfflmgjpobaaDoorTur
namespace Go.Proofs.YtcdjfflmgjpobaaDoor
open Go.RowKit

end Go.Proofs.YtcdjfflmgjpobaaDoor
