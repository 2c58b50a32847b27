/- Rows of values,owned and read. -/
import Derived.Test.YtofcdecpipgmjaaGreatDoorRMem
import Derived.StillTailTactics
import Derived.Deep.MidRow
import Derived.Test.YtofcdecpipgmjaaGreatDoorRLplG
namespace Go.Proofs.YtofcdecpipgmjaaGreatDoor
open Go.RowKit Go.Deep
set_option linter.unusedVariables false
structure LoanD where
 p:Int
 u:Bool
 v:Int
def LoanD.cells (d:LoanD):List Value:=[.int .i64 d.p,.bool d.u,.int .i64 d.v]
theorem LoanD.cells_length (d:LoanD):d.cells.length=3:=rfl
theorem flatN_get:∀ (l:List LoanD) (j i:Nat) (d:LoanD),l[j]?=some d→i<3→(l.flatMap LoanD.cells)[j*3+i]?=d.cells[i]?
 | [],j,i,d,h,_=>by simp at h
 | e :: l,0,i,d,h,hi=>by
  simp only [List.getElem?_cons_zero,Option.some.injEq] at h
  subst h
  rw [List.flatMap_cons,Nat.zero_mul,Nat.zero_add,List.getElem?_append_left (by rw [e.cells_length];exact hi)]
 | e :: l,j+1,i,d,h,hi=>by
  rw [List.getElem?_cons_succ] at h
  rw [List.flatMap_cons,List.getElem?_append_right (by rw [e.cells_length];omega),e.cells_length,show (j+1)*3+i-3=j*3+i from by omega]
  exact flatN_get l j i d h hi
def RowN (w:World) (B:Nat) (v:Value) (l:List LoanD):Prop:=w.ownsRow B 53 3 v l.length (l.flatMap LoanD.cells)
theorem RowN.below {w w':World} {B:Nat} {v:Value} {l:List LoanD} (h:RowN w B v l) (hb:Below w.heap.size w w'):RowN w' B v l :=
 World.ownsRow.kept (row:=none) h ⟨hb.os,hb.tape,hb.output,hb.size,fun k hk _=>hb.block k hk⟩ (by cases hv:v.ownBlock <;> simp)
theorem RowN.own {w:World} {B:Nat} {v:Value} {l:List LoanD} (h:RowN w B v l):w.ownsRow B 53 3 v l.length (l.flatMap LoanD.cells):=h
theorem RowN.keep {w w':World} {B:Nat} {v:Value} {l:List LoanD} (h:RowN w B v l) (hk:∀ g,v.ownBlock=some g→w'.heap[g]?=w.heap[g]?):RowN w' B v l:=by
 refine ⟨h.1,?_⟩
 rcases h.2 with h | ⟨g,cap,cur,h1,h2,h3,h4⟩
 ·exact .inl h
 ·exact .inr ⟨g,cap,cur,h1,h2,(hk g (by rw [h1];rfl)).trans h3,h4⟩
theorem RowN.mono {w:World} {B B':Nat} {v:Value} {l:List LoanD} (h:RowN w B v l) (hb:B'≤B):RowN w B' v l:=by
 refine ⟨h.1,?_⟩
 rcases h.2 with h | ⟨g,cap,cur,e1,e2,e3⟩
 ·exact .inl h
 ·exact .inr ⟨g,cap,cur,e1,Nat.le_trans hb e2,e3⟩
theorem RowN.lt {w:World} {B:Nat} {v:Value} {l:List LoanD} (h:RowN w B v l):∀ g,v.ownBlock=some g→B≤g∧g<w.heap.size:=World.ownsRow.lt h
theorem RowN.nil (w:World) (B:Nat):RowN w B (.slice none 0 0) []:=World.ownsRow_nil w B 53 3
theorem RowN.slice {w:World} {B:Nat} {v:Value} {l:List LoanD} (h:RowN w B v l):∃ A c,v=.slice A l.length c:=by
 rcases h.2 with ⟨e1,e2⟩ | ⟨g,cap,cur,e1,_⟩
 ·exact ⟨none,0,by rw [e1,e2]⟩
 ·exact ⟨_,_,e1⟩
theorem RowN.snoc {w:World} {B:Nat} {v:Value} {l:List LoanD} {d:LoanD} (h:w.ownsRow B 53 3 v (l.length+1) (l.flatMap LoanD.cells++[.int .i64 d.p,.bool d.u,.int .i64 d.v])):RowN w B v (l++[d]):=by
 unfold RowN
 rw [List.length_append,List.flatMap_append]
 simpa [LoanD.cells] using h
def RdN (w:World) (v:Value) (l:List LoanD):Prop :=
 ∃ A c,v=.slice A l.length c∧l.length≤c∧c≤maxLen∧(0<l.length→∃ g,A=some ⟨g,0,none⟩∧g<w.heap.size∧∀ k d,l[k]?=some d →
  w.cell? ⟨g,k*3,none⟩=some (.int .i64 d.p)∧w.cell? ⟨g,k*3+1,none⟩=some (.bool d.u)∧w.cell? ⟨g,k*3+2,none⟩=some (.int .i64 d.v))
theorem RdN.below {w w':World} {v:Value} {l:List LoanD} (h:RdN w v l) (hb:Below w.heap.size w w'):RdN w' v l:=by
 obtain ⟨A,c,h1,h2,h3,h4⟩:=h
 refine ⟨A,c,h1,h2,h3,fun h0=>?_⟩
 obtain ⟨g,h5,h6,h7⟩:=h4 h0
 refine ⟨g,h5,Nat.lt_of_lt_of_le h6 hb.size,fun k d hd=>?_⟩
 have hc:=h7 k d hd
 exact ⟨(hb.cell h6).trans hc.1,(hb.cell h6).trans hc.2.1,(hb.cell h6).trans hc.2.2⟩
theorem RowN.reads {w:World} {B:Nat} {v:Value} {l:List LoanD} (h:RowN w B v l):RdN w v l:=by
 rcases h.2 with ⟨h1,h2⟩ | ⟨g,cap,cur,h1,h2,h3,h4,h5,h6,h7⟩
 ·exact ⟨none,0,by rw [h1,h2],by omega,by simp [maxLen],fun h=>absurd h (by omega)⟩
 ·refine ⟨_,_,h1,h4,h5,fun _=>⟨g,rfl,heap_lt h3,fun k d hd=>?_⟩⟩
  have hc:∀ i u,i<3→d.cells[i]?=some u→w.cell? ⟨g,k*3+i,none⟩=some u:=fun i u hi hu=>by
   have:=World.ownsRow.cells h (g:=g) (by rw [h1];rfl) (k*3+i) u (by rw [flatN_get l k i d hd hi];exact hu)
   rwa [add_block,Nat.zero_add] at this
  exact ⟨hc 0 _ (by omega) rfl,hc 1 _ (by omega) rfl,hc 2 _ (by omega) rfl⟩
def ldOf (ns:List Nd) (i:Nat):LoanD:=⟨(i:Int),isUniq ns i,(match ns[i]? with | some d=>d.y | none=>0)⟩
theorem ldOf_at {ns:List Nd} {i:Nat} {d:Nd} (h:ns[i]?=some d):ldOf ns i=⟨(i:Int),decide (d.op=5),d.y⟩:=by
 unfold ldOf
 rw [isUniq_at h,h]
def loansK (ns:List Nd) (k:Nat):List LoanD:=((List.range k).filter (isLoan ns)).map (ldOf ns)
theorem loansK_bits (ns:List Nd) (h:ns.length≤61):loansK ns ns.length=(bitsOf (bitsK (isLoan ns) ns.length)).map (ldOf ns):=by
 unfold loansK
 congr 1
 rw [bitsOf_filter]
 have e:∀ m,((List.range (ns.length+m)).filter fun k=>(bitsK (isLoan ns) ns.length).testBit k)=(List.range ns.length).filter (isLoan ns):=by
  intro m
  induction m with
  | zero =>
   refine List.filter_congr fun i hi=>?_
   rw [bitsK_bit,decide_eq_true (show i<ns.length by have:=List.mem_range.mp hi;omega),Bool.true_and]
  | succ m ih =>
   rw [← Nat.add_assoc,List.range_succ,List.filter_append,ih]
   have:(bitsK (isLoan ns) ns.length).testBit (ns.length+m)=false:=by
    rw [bitsK_bit,decide_eq_false (by omega),Bool.false_and]
   simp [this]
 have:=e (64-ns.length)
 rw [show ns.length+(64-ns.length)=64 from by omega] at this
 exact this.symm
def AnsLoans (ok:Bool) (s:Sts) (l:List LoanD):Prop:=(ok=true∧l=loansK (progPts s) (progPts s).length)∨(ok=false∧l=[])
end Go.Proofs.YtofcdecpipgmjaaGreatDoor
