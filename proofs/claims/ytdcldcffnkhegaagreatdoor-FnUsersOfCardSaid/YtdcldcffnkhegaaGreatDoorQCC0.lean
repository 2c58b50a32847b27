/- CountChoices of the program and of its model. -/
import Derived.Test.YtdcldcffnkhegaaGreatDoorQL2Xb
import Derived.Test.YtdcldcffnkhegaaGreatDoorQL2Xa
import Derived.Test.YtdcldcffnkhegaaGreatDoorQStmtY
namespace Go.Proofs.YtdcldcffnkhegaaGreatDoor
open Go.RowKit Go.Deep
set_option linter.unusedVariables false
end Go.Proofs.YtdcldcffnkhegaaGreatDoor
