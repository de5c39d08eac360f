/-
  A fact of the whole translation, apart because of the memory that its proof takes. No conditions.
-/
import Derived.Test.YtjpoliibljjhnaaRows
import Derived.WalkKit
import Derived.WalkSpells
import Derived.WalkLawsBesides
import Derived.Deep.QuietTactic
import Derived.BigQuiet
import Derived.Handy
import Derived.Lib.Hide
import Derived.Deep.AppendLies
import Derived.Laws.OwnMore
namespace Go.Proofs.Ytjpoliibljjhnaa
open Go.ChangeShapes Go.WideShapes Go.ChangeAt Go.RowKit

theorem make_ok : Try.pinned.checked.prog.make = some Make.cut := by kernel_rfl
end Go.Proofs.Ytjpoliibljjhnaa
