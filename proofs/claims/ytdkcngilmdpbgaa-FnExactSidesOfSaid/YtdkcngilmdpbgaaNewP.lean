/-
  New puzzles of the program. Conditions: Size at most 7.
-/
import Derived.Test.YtdkcngilmdpbgaaRotC
namespace Go.Proofs.Ytdkcngilmdpbgaa
open Go.RowKit

end Go.Proofs.Ytdkcngilmdpbgaa
