/- CountChoices of the program and of its model. -/
import Derived.Test.YtopibompapopiaaGreatDoorQL2Xb
import Derived.Test.YtopibompapopiaaGreatDoorQL2Xa
import Derived.Test.YtopibompapopiaaGreatDoorQStmtY
namespace Go.Proofs.YtopibompapopiaaGreatDoor
open Go.RowKit Go.Deep
set_option linter.unusedVariables false
end Go.Proofs.YtopibompapopiaaGreatDoor
