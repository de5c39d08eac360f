/-
  A small triangle reflected, by the program. Conditions: places within the lists, labels of at least 0.
-/
import Derived.Test.YtdkcngilmdpbgaaPutP
namespace Go.Proofs.Ytdkcngilmdpbgaa
open Go.RowKit

end Go.Proofs.Ytdkcngilmdpbgaa
