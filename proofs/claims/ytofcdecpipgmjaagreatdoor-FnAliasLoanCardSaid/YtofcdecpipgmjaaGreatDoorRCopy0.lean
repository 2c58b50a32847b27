/- Facts about memory for the copies that the laws make of their arguments. -/
import Derived.Test.YtofcdecpipgmjaaGreatDoorRows
import Derived.Test.YtofcdecpipgmjaaGreatDoorRBase
import Derived.WalkKit
import Derived.WalkSpells
import Derived.Lib.Hide
import Derived.Deep.OwnRows
namespace Go.Proofs.YtofcdecpipgmjaaGreatDoor
open Go.RowKit Go.Deep
theorem Tryz.infoInt:(Tryz.prog.info? 3).map (fun i=>(i.zero,i.size,i.bytes))=some (some (.int .i64 0),1,8):=by kernel_rfl
def FillI (B:Nat) (w0 wr:World) (T:TypeId) (xs:List Int) (k:Nat):Prop :=
 Below B w0 wr∧∃ cs,wr.heap[B]?=some (.cells cs T (0,0))∧cs.size=xs.length∧∀ j,j<k→∀ v,xs[j]?=some v→cs[j]?=some (.int .i64 v)
theorem heap_lt {w:World} {g:Nat} {o:Obj} (h:w.heap[g]?=some o):g<w.heap.size:=by
 rcases Nat.lt_or_ge g w.heap.size with hlt | hge
 ·exact hlt
 ·rw [Array.getElem?_eq_none hge] at h;cases h
theorem cB {w:World} {g:Nat} {cs:Array Value} {t:TypeId} {fr:Nat × Nat} (h:w.heap[g]?=some (.cells cs t fr)) (i:Nat):w.cell? ⟨g,i,none⟩=cs[i]?:=by
 simp [World.cell?,h]
theorem fB {w:World} {g:Nat} {cs:Array Value} {t:TypeId} (h:w.heap[g]?=some (.cells cs t (0,0))) (i:Nat):w.frozen? ⟨g,i,none⟩=false:=by
 simp [World.frozen?,h]
theorem block_set {w:World} {g:Nat} {cs:Array Value} {t:TypeId} {fr:Nat × Nat} (h:w.heap[g]?=some (.cells cs t fr)) (i:Nat) (u:Value):(w.setCell ⟨g,i,none⟩ u).heap[g]?=some (.cells (cs.setIfInBounds i u) t fr):=by
 simp [World.setCell,Array.getElem?_modify,h]
def StmtPost (w:World) (op x y n:Int) (t e:Sts) (E:Ending) (w':World):Prop :=
 ∃ g1 g2,E=.returned (.agg #[.int .i64 op,.int .i64 x,.int .i64 y,.int .i64 n,.slice (some ⟨g1,0,none⟩) t.len t.len,.slice (some ⟨g2,0,none⟩) e.len e.len]) ∧
  RepV w' w.heap.size w'.heap.size t (some ⟨g1,0,none⟩) t.len∧RepV w' w.heap.size w'.heap.size e (some ⟨g2,0,none⟩) e.len∧Below w.heap.size w w'
def StsPost (w:World) (s:Sts) (E:Ending) (w':World):Prop :=
 ∃ g,w.heap.size≤g∧E=.returned (.slice (some ⟨g,0,none⟩) s.len s.len)∧RepV w' w.heap.size w'.heap.size s (some ⟨g,0,none⟩) s.len∧Below w.heap.size w w'
theorem Tryz.infoStmt:(Tryz.prog.info? 171).map (fun i=>(i.zero,i.size,i.bytes))=some (some (.agg #[.int .i64 0,.int .i64 0,.int .i64 0,.int .i64 0,.slice none 0 0,.slice none 0 0]),6,80):=by kernel_rfl
def set6 (w:World) (B o:Nat) (a b c d e f:Value):World :=
 (((((w.setCell ⟨B,o,none⟩ a).setCell ⟨B,o+1,none⟩ b).setCell ⟨B,o+2,none⟩ c).setCell ⟨B,o+3,none⟩ d).setCell ⟨B,o+4,none⟩ e).setCell ⟨B,o+5,none⟩ f
def FillS (B:Nat) (w0 wr:World) (T:TypeId) (s:Sts) (k:Nat):Prop :=
 Below B w0 wr∧(∃ cs,wr.heap[B]?=some (.cells cs T (0,0))∧cs.size=s.len*6)∧Filled wr (B+1) wr.heap.size B s k
def ProgPost (w:World) (ts:List Int) (s:Sts) (E:Ending) (w':World):Prop :=
 ∃ g1 g2,E=.returned (.agg #[.slice (some ⟨g1,0,none⟩) ts.length ts.length,.slice (some ⟨g2,0,none⟩) s.len s.len]) ∧
  IntsV w' w.heap.size w'.heap.size ts (some ⟨g1,0,none⟩) ts.length∧RepV w' w.heap.size w'.heap.size s (some ⟨g2,0,none⟩) s.len∧Below w.heap.size w w'
end Go.Proofs.YtofcdecpipgmjaaGreatDoor
