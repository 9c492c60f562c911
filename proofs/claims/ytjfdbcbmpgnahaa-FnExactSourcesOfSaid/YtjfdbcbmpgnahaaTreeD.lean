/- Contracts: how deep the node i is (the reference); the tree of the node i (the program). -/
import Derived.Test.YtjfdbcbmpgnahaaPipeS
import Derived.Test.YtjfdbcbmpgnahaaTree
namespace Go.Proofs.Ytjfdbcbmpgnahaa
open Go.RowKit Go.Sort

/-- The cells of a node. -/
def five (x : Nd) : Array Value := #[.int .i64 x.k, .int .i64 x.a, .int .i64 x.b, .int .i64 x.n, .int .i64 x.m]

end Go.Proofs.Ytjfdbcbmpgnahaa
