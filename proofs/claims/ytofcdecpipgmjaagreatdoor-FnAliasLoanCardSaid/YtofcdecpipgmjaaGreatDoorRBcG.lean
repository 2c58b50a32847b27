/- The laws' look into a list of numbers. -/
import Derived.Test.YtofcdecpipgmjaaGreatDoorRDwA
import Derived.Deep.QuietTactic
import Derived.BigQuiet
namespace Go.Proofs.YtofcdecpipgmjaaGreatDoor
open Go.RowKit Go.Deep
set_option linter.unusedVariables false
def NotYet (xs:List Int) (n:Int) (k:Nat):Prop:=∀ j,j<k→xs[j]?≠some n
def Alike (xs ys:List Int) (k:Nat):Prop:=∀ j,j<k→xs[j]?=ys[j]?
end Go.Proofs.YtofcdecpipgmjaaGreatDoor
