/-
  Contracts of the program's ComposePerms and InversePerm. Conditions: lengths below 2^40.
-/
import Derived.Test.YtdappakjbclffaaImplB
namespace Go.Proofs.Ytdappakjbclffaa
open Go.RowKit

end Go.Proofs.Ytdappakjbclffaa
