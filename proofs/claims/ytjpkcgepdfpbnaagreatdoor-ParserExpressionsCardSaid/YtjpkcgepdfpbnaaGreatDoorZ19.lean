/- The walk of LexerWords. -/
import Derived.Test.YtjpkcgepdfpbnaaGreatDoorZ18
namespace Go.Proofs.YtjpkcgepdfpbnaaGreatDoor
open Go.RowKit Go.Sort Go.ChangeShapes Go.WideShapes
set_option linter.unusedVariables false

end Go.Proofs.YtjpkcgepdfpbnaaGreatDoor
