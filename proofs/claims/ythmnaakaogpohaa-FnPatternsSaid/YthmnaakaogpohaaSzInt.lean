/-
  The size of a slice of numbers that came in. Conditions: lengths below 2^63.
-/
import Derived.Test.YthmnaakaogpohaaWords
namespace Go.Proofs.Ythmnaakaogpohaa
open Go.RowKit

end Go.Proofs.Ythmnaakaogpohaa
