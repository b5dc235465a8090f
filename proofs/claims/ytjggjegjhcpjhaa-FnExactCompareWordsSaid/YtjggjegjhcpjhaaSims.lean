/-
  Chapter 2: SimpleMap of the model; the contracts.
-/
import Derived.Test.YtjggjegjhcpjhaaSim
namespace Go.Proofs.Ytjggjegjhcpjhaa
open Go.RowKit Rm

end Go.Proofs.Ytjggjegjhcpjhaa
