import Derived.Test.YtmjpecneaenlpaaDoorGan
namespace Go.Proofs.YtmjpecneaenlpaaDoor
open Go.RowKit
end Go.Proofs.YtmjpecneaenlpaaDoor
