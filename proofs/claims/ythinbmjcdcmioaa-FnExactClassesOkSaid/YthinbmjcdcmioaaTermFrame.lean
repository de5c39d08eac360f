/-
  Opening a slice of terms that came in. No conditions.
-/
import Derived.Test.YthinbmjcdcmioaaTermEq
import Derived.Test.YthinbmjcdcmioaaFrame
import Derived.Deep.SlicePairs
namespace Go.Proofs.Ythinbmjcdcmioaa
open Go.ChangeShapes Go.WideShapes Go.ChangeAt Go.RowKit

end Go.Proofs.Ythinbmjcdcmioaa
