import Derived.Test.YtakdnmakgblamaaWps
namespace Go.Proofs.Ytakdnmakgblamaa
open Go.RowKit

end Go.Proofs.Ytakdnmakgblamaa
