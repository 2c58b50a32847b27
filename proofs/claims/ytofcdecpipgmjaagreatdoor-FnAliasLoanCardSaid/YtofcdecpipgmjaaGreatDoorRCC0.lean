/- CountChoices of the program and of its model. -/
import Derived.Test.YtofcdecpipgmjaaGreatDoorRL2Xb
import Derived.Test.YtofcdecpipgmjaaGreatDoorRL2Xa
import Derived.Test.YtofcdecpipgmjaaGreatDoorRStmtY
namespace Go.Proofs.YtofcdecpipgmjaaGreatDoor
open Go.RowKit Go.Deep
set_option linter.unusedVariables false
end Go.Proofs.YtofcdecpipgmjaaGreatDoor
