/- Rows of values,owned and read. -/
import Derived.Test.YtedkkphogeealaaGreatDoorPMem
import Derived.StillTailTactics
import Derived.Deep.MidRow
import Derived.Test.YtedkkphogeealaaGreatDoorPLplG
namespace Go.Proofs.YtedkkphogeealaaGreatDoor
open Go.RowKit Go.Deep
set_option linter.unusedVariables false
structure AccD where
 v:Int
 u:Bool
def AccD.cells (d:AccD):List Value:=[.int .i64 d.v,.bool d.u]
theorem AccD.cells_length (d:AccD):d.cells.length=2:=rfl
theorem flatA_get:∀ (l:List AccD) (j i:Nat) (d:AccD),l[j]?=some d→i<2→(l.flatMap AccD.cells)[j*2+i]?=d.cells[i]?
 | [],j,i,d,h,_=>by simp at h
 | e :: l,0,i,d,h,hi=>by
  simp only [List.getElem?_cons_zero,Option.some.injEq] at h
  subst h
  rw [List.flatMap_cons,Nat.zero_mul,Nat.zero_add,List.getElem?_append_left (by rw [e.cells_length];exact hi)]
 | e :: l,j+1,i,d,h,hi=>by
  rw [List.getElem?_cons_succ] at h
  rw [List.flatMap_cons,List.getElem?_append_right (by rw [e.cells_length];omega),e.cells_length,show (j+1)*2+i-2=j*2+i from by omega]
  exact flatA_get l j i d h hi
def RowA (w:World) (B:Nat) (v:Value) (l:List AccD):Prop:=w.ownsRow B 186 2 v l.length (l.flatMap AccD.cells)
theorem RowA.below {w w':World} {B:Nat} {v:Value} {l:List AccD} (h:RowA w B v l) (hb:Below w.heap.size w w'):RowA w' B v l :=
 World.ownsRow.kept (row:=none) h ⟨hb.os,hb.tape,hb.output,hb.size,fun k hk _=>hb.block k hk⟩ (by cases hv:v.ownBlock <;> simp)
theorem RowA.own {w:World} {B:Nat} {v:Value} {l:List AccD} (h:RowA w B v l):w.ownsRow B 186 2 v l.length (l.flatMap AccD.cells):=h
theorem RowA.lt {w:World} {B:Nat} {v:Value} {l:List AccD} (h:RowA w B v l):∀ g,v.ownBlock=some g→B≤g∧g<w.heap.size:=World.ownsRow.lt h
theorem RowA.snoc {w:World} {B:Nat} {v:Value} {l:List AccD} {d:AccD} (h:w.ownsRow B 186 2 v (l.length+1) (l.flatMap AccD.cells++[.int .i64 d.v,.bool d.u])):RowA w B v (l++[d]):=by
 unfold RowA
 rw [List.length_append,List.flatMap_append]
 simpa [AccD.cells] using h
def RdA (w:World) (v:Value) (l:List AccD):Prop :=
 ∃ A c,v=.slice A l.length c∧l.length≤c∧c≤maxLen∧(0<l.length→∃ g,A=some ⟨g,0,none⟩∧g<w.heap.size∧∀ k d,l[k]?=some d →
  w.cell? ⟨g,k*2,none⟩=some (.int .i64 d.v)∧w.cell? ⟨g,k*2+1,none⟩=some (.bool d.u))
theorem RdA.below {w w':World} {v:Value} {l:List AccD} (h:RdA w v l) (hb:Below w.heap.size w w'):RdA w' v l:=by
 obtain ⟨A,c,h1,h2,h3,h4⟩:=h
 refine ⟨A,c,h1,h2,h3,fun h0=>?_⟩
 obtain ⟨g,h5,h6,h7⟩:=h4 h0
 refine ⟨g,h5,Nat.lt_of_lt_of_le h6 hb.size,fun k d hd=>?_⟩
 have hc:=h7 k d hd
 exact ⟨(hb.cell h6).trans hc.1,(hb.cell h6).trans hc.2⟩
theorem RowA.reads {w:World} {B:Nat} {v:Value} {l:List AccD} (h:RowA w B v l):RdA w v l:=by
 rcases h.2 with ⟨h1,h2⟩ | ⟨g,cap,cur,h1,h2,h3,h4,h5,h6,h7⟩
 ·exact ⟨none,0,by rw [h1,h2],by omega,by simp [maxLen],fun h=>absurd h (by omega)⟩
 ·refine ⟨_,_,h1,h4,h5,fun _=>⟨g,rfl,heap_lt h3,fun k d hd=>?_⟩⟩
  have hc:∀ i u,i<2→d.cells[i]?=some u→w.cell? ⟨g,k*2+i,none⟩=some u:=fun i u hi hu=>by
   have:=World.ownsRow.cells h (g:=g) (by rw [h1];rfl) (k*2+i) u (by rw [flatA_get l k i d hd hi];exact hu)
   rwa [add_block,Nat.zero_add] at this
  exact ⟨hc 0 _ (by omega) rfl,hc 1 _ (by omega) rfl⟩
def accD (ts:List Int) (d:Nd) (b:Bool):List AccD :=
 (if d.op=4∨d.op=6 then [⟨d.y,false⟩] else if d.op=5 then [⟨d.y,true⟩] else if d.op=7∨d.op=8 then [⟨d.x,true⟩] else if d.op=3∧(tyAt ts d.y=2∨tyAt ts d.y=4) then [⟨d.y,true⟩] else []) ++
 (if 1≤d.op∧d.op≤6∧tyAt ts d.x=2∧b=true then [⟨d.x,true⟩] else [])
theorem accD_length (ts:List Int) (d:Nd) (b:Bool):(accD ts d b).length≤2:=by
 unfold accD
 rw [List.length_append]
 (repeat' split) <;> simp
def AnsAcc (ts:List Int) (ok:Bool) (s:Sts) (a:Int) (l:List AccD):Prop :=
 (ok=true∧∃ (k:Nat) (d:Nd) (b:Bool),a=(k:Int)∧(progPts s)[k]?=some d∧(b=true↔MayB ts (progPts s) k d.x.toNat)∧l=accD ts d b)∨(¬ (ok=true∧0≤a∧a<((progPts s).length:Int))∧l=[])
def Near (ns:List Nd) (l:Nat) (a:AccD):Prop:=loanN ns l a.v∧(a.u=true∨isUniq ns l=true)
def LoCf (ts:List Int) (ns:List Nd) (k l:Nat):Prop:=LoLv ts ns k l∧LoPl ts ns k l∧∃ d b,ns[k]?=some d∧(b=true↔MayB ts ns k d.x.toNat)∧∃ a∈accD ts d b,Near ns l a
end Go.Proofs.YtedkkphogeealaaGreatDoor
