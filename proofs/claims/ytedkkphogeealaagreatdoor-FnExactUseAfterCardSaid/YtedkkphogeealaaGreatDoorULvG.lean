/- Rows of flags in memory: while they are made,and while they are written. -/
import Derived.Test.YtedkkphogeealaaGreatDoorUL2Xa
import Derived.Test.YtedkkphogeealaaGreatDoorUBase
import Derived.Test.YtedkkphogeealaaGreatDoorUFlwG
import Derived.Test.YtedkkphogeealaaGreatDoorUMem
namespace Go.Proofs.YtedkkphogeealaaGreatDoor
open Go.RowKit Go.Deep
set_option linter.unusedVariables false
theorem Tryz.infoBools:(Tryz.prog.info? 72).map (fun i=>(i.zero,i.size,i.bytes))=some (some (.slice none 0 0),1,24):=by kernel_rfl
theorem FlAt.made (w:World) (n:Nat):FlAt (w.alloc (.cells (madeCells #[.bool false] n) 4)) w.heap.size n (fun _=>false):=by
 refine ⟨_,heap_alloc_new w _,by simp [madeCells],fun i hi=>?_⟩
 simp [madeCells,hi,Nat.mod_one]
def LvRows (w:World) (B:Nat) (v:Value) (n T:Nat) (bl:Nat→Nat):Prop :=
 ∃ xs,w.ownsRow B 72 1 v n xs∧(∀ k,k<n→xs[k]?=some (.slice (some ⟨bl k,0,none⟩) T T)∧B≤bl k∧FlAt w (bl k) T (fun _=>false))∧∀ j k,j<n→k<n→bl j=bl k→j=k
theorem FlAt.lt {w:World} {F n:Nat} {fl:Nat→Bool} (h:FlAt w F n fl):F<w.heap.size:=by
 obtain ⟨cs,h1,_⟩:=h
 exact heap_lt h1
structure LvM (g:Nat) (bl:Nat→Nat) (n T:Nat) (w1 wr:World) (o:Nat→Nat→Bool):Prop where
 row:∃ cur,wr.heap[g]?=some (.cells cur 72 (0,0))∧∀ k,k<n→cur[k]?=some (.slice (some ⟨bl k,0,none⟩) T T)
 fl:∀ k,k<n→FlAt wr (bl k) T (o k)
 inj:∀ j k,j<n→k<n→bl j=bl k→j=k
 from_:∀ k,k<n→w1.heap.size≤bl k
 below:Below w1.heap.size w1 wr
def lvOff (bl:Nat→Nat) (n T:Nat) (wr:World):Nat:=sumTo (fun i=>offs wr (bl i) T) n
end Go.Proofs.YtedkkphogeealaaGreatDoor
