/- Plain facts on rows of bytes that a call has made: one byte more, and the text that they are. -/
import Derived.Test.YtmnkomgdcebniaaGreatRows
import Derived.WalkKit
import Derived.ProofKit
import Derived.Below
import Derived.Outline
import Derived.WalkSpells
import Derived.WalkLawsBesides
import Derived.Laws.IdiomStrings
namespace Go.Proofs.YtmnkomgdcebniaaGreat
open Go.ChangeShapes Go.WideShapes Go.ChangeAt Go.RowKit
end Go.Proofs.YtmnkomgdcebniaaGreat
