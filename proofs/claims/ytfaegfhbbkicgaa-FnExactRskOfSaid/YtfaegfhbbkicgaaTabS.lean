/-
  The document's test for tableaux. Conditions: lengths below 2^40.
-/
import Derived.Test.YtfaegfhbbkicgaaTab
namespace Go.Proofs.Ytfaegfhbbkicgaa
open Go.RowKit

end Go.Proofs.Ytfaegfhbbkicgaa
