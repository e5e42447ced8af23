import Derived.Test.YtehcghaficbhiaaWps
namespace Go.Proofs.Ytehcghaficbhiaa
open Go.RowKit

end Go.Proofs.Ytehcghaficbhiaa
