/- The listed table of math/bits,out of the row's condition;and the door's own heap,which -/
import Derived.Test.YtedkkphogeealaaGreatDoorRows
import Derived.Test.YtedkkphogeealaaGreatDoorPBits
import Derived.Lib.LaidTab
import Derived.LaidMore
import Derived.MakeChecks
namespace Go.Proofs.YtedkkphogeealaaGreatDoor
open Go.RowKit Go.Deep
set_option linter.unusedVariables false
def listed:List (String × DataW Unit):=[("math/bits.deBruijn64tab",Rows.laid_math_bits_deBruijn64tab)]
def tabZ:List Int:=Lib.deBruijn64tab.map fun (k:Nat)=>(k:Int)
theorem tab_datum:(Rows.laid_math_bits_deBruijn64tab:DataW Unit)=Lib.tabData .u8 tabZ:=by kernel_rfl
theorem tab_named:Tryz.prog.globalNamed "math/bits.deBruijn64tab" = some 0:=by kernel_rfl
theorem tab_type:(Tryz.prog.globals[0]?).map (·.type)=some 230:=by kernel_rfl
theorem tab_elem:Tryz.prog.underlying 5=some (.int .u8):=by kernel_rfl
theorem tab_of_laid {W:World} (h:laidMetH Tryz.prog listed W):TabAt 0 Lib.deBruijn64tab W∧0<W.heap.size:=by
 rw [MakeChecks.laidMetH_plain _ _ _ (by kernel_rfl)] at h
 unfold listed at h
 rw [tab_datum] at h
 have hT:=Lib.tabIs_of_head (n:=64) tab_named tab_type Tryz.underlying230 tab_elem (by kernel_rfl) (by kernel_rfl) h
 have hz:tabZ.length=Lib.deBruijn64tab.length:=by simp [tabZ]
 have hall:TabAt 0 Lib.deBruijn64tab W:=by
  intro j hj
  rw [hT.cell tab_named j (by rw [hz];exact hj)]
  have e:tabZ.getD j 0=((Lib.deBruijn64tab.getD j 0:Nat):Int):=by
   unfold tabZ
   rw [List.getD_eq_getElem?_getD,List.getD_eq_getElem?_getD,List.getElem?_map,List.getElem?_eq_getElem hj]
   rfl
  rw [e]
 exact ⟨hall,World.block_lt_of_cell? _ _ (hall 0 (by decide))⟩
theorem door_met (os:Os) (args:Array Value):laidMetH Tryz.prog listed ((World.doorLaid Tryz.prog 400 os).forCall (fun _ _=>0) ⟨#[],args,[]⟩).memory :=
 laidMetH_of_parts3 (fuel:=8) (laidMet_of_run' 8 (by kernel_rfl) (by kernel_rfl)) (by kernel_rfl) (by kernel_rfl)
end Go.Proofs.YtedkkphogeealaaGreatDoor
