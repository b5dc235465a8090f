/-
  Chapter 5: the model: the places of two maps; points made simple if they are a map.
-/
import Derived.Test.YtjggjegjhcpjhaaGreatCs
import Derived.Test.YtjggjegjhcpjhaaGreatDf
import Derived.Test.YtjggjegjhcpjhaaGreatSims
namespace Go.Proofs.YtjggjegjhcpjhaaGreat
open Go.RowKit Rm

end Go.Proofs.YtjggjegjhcpjhaaGreat
