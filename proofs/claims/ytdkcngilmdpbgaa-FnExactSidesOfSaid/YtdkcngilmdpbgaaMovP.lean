/-
  All small triangles of a puzzle put where a closure says: the program's two moves. Conditions: Size 1 to 7, lists of its length.
-/
import Derived.Test.YtdkcngilmdpbgaaMirP
import Derived.Test.YtdkcngilmdpbgaaNewP
namespace Go.Proofs.Ytdkcngilmdpbgaa
open Go.RowKit

end Go.Proofs.Ytdkcngilmdpbgaa
