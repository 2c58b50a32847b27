/-
  What has a value after a point, by the model.
-/
import Derived.Test.YtheiiifmdjikmaaGreatDoorYFlW
import Derived.Test.YtheiiifmdjikmaaGreatDoorYMem
namespace Go.Proofs.YtheiiifmdjikmaaGreatDoor
open Go.RowKit Go.Deep
set_option linter.unusedVariables false

end Go.Proofs.YtheiiifmdjikmaaGreatDoor
