/- What loans say of points and variables: plain. For the drawn laws of chapter 4. -/
import Derived.Test.YtopibompapopiaaGreatDoorQPuG
import Derived.Test.YtopibompapopiaaGreatDoorQLplG
import Derived.Test.YtopibompapopiaaGreatDoorQAnsG
namespace Go.Proofs.YtopibompapopiaaGreatDoor
open Go.RowKit Go.Deep
set_option linter.unusedVariables false
theorem loanB_reach {ts:List Int} {ns:List Nd} {m v l:Nat} (h:LoanB ts ns m v l):Reach (nextN ns) l m:=by
 induction h with
 | gen h1 h2 =>
  obtain ⟨d,-,-,rfl,-⟩:=h2
  exact .one h1
 | step h1 _ _ ih=>exact .step ih h1
theorem loansK_at {ns:List Nd} {n i:Nat} {x:LoanD} (h:(loansK ns n)[i]?=some x):∃ (j:Nat) (d:Nd),ns[j]?=some d∧(d.op=4∨d.op=5)∧x=⟨(j:Int),decide (d.op=5),d.y⟩:=by
 have hm:=List.mem_of_getElem? h
 unfold loansK at hm
 rw [List.mem_map] at hm
 obtain ⟨j,hj,rfl⟩:=hm
 have hl:=(List.mem_filter.1 hj).2
 unfold isLoan at hl
 split at hl
 ·rename_i d hd
  exact ⟨j,d,hd,of_decide_eq_true hl,ldOf_at hd⟩
 ·cases hl
theorem loansK_has {ns:List Nd} {n j:Nat} {d:Nd} (hj:j<n) (hd:ns[j]?=some d) (hop:d.op=4∨d.op=5):∃ i,i<(loansK ns n).length∧(loansK ns n)[i]?=some ⟨(j:Int),decide (d.op=5),d.y⟩:=by
 have hm:(⟨(j:Int),decide (d.op=5),d.y⟩:LoanD)∈loansK ns n:=by
  unfold loansK
  rw [List.mem_map]
  refine ⟨j,List.mem_filter.2 ⟨List.mem_range.2 hj,?_⟩,ldOf_at hd⟩
  rw [isLoan_at hd]
  exact decide_eq_true hop
 obtain ⟨i,hi,he⟩:=List.getElem_of_mem hm
 exact ⟨i,hi,by rw [List.getElem?_eq_getElem hi,he]⟩
theorem AnsLoans.at {ok:Bool} {s:Sts} {l:List LoanD} (h:AnsLoans ok s l) {i:Nat} {x:LoanD} (hx:l[i]?=some x):ok=true∧∃ (j:Nat) (d:Nd),(progPts s)[j]?=some d∧(d.op=4∨d.op=5)∧x=⟨(j:Int),decide (d.op=5),d.y⟩:=by
 rcases h with ⟨h1,rfl⟩ | ⟨-,rfl⟩
 ·exact ⟨h1,loansK_at hx⟩
 ·simp at hx
theorem AnsLoans.has {s:Sts} {l:List LoanD} (h:AnsLoans true s l) {j:Nat} {d:Nd} (hd:(progPts s)[j]?=some d) (hop:d.op=4∨d.op=5):∃ i,i<l.length∧l[i]?=some ⟨(j:Int),decide (d.op=5),d.y⟩:=by
 rcases h with ⟨-,rfl⟩ | ⟨h1,-⟩
 ·exact loansK_has (List.getElem?_eq_some_iff.1 hd).1 hd hop
 ·cases h1
theorem loan_next {s:Sts} {j:Nat} {d:Nd} (hd:(progPts s)[j]?=some d) (hop:d.op=4∨d.op=5):∃ z:Nat,d.next[0]?=some (z:Int)∧0<d.next.length∧z<(progPts s).length∧eN (progPts s) j z:=by
 have h1:1≤d.next.length:=by
  by_cases hj:j<(s.pts 0).length
  ·have hd':=hd
   unfold progPts at hd'
   rw [List.getElem?_append_left hj] at hd'
   exact (s.pts_ok 0 d (List.mem_of_getElem? hd')).1
  ·have hd':=hd
   unfold progPts at hd'
   rw [List.getElem?_append_right (by omega)] at hd'
   have hm:=List.mem_of_getElem? hd'
   simp only [List.mem_cons,List.not_mem_nil,or_false] at hm
   subst hm
   simp at hop
 obtain ⟨z,hz⟩:∃ z,d.next[0]?=some z:=⟨d.next[0],List.getElem?_eq_getElem (by omega)⟩
 have hzm:=List.mem_of_getElem? hz
 obtain ⟨h0,h2⟩:=prog_next hd hzm
 obtain ⟨c,rfl⟩:=Int.eq_ofNat_of_zero_le h0
 exact ⟨c,hz,by omega,by omega,mem_nextN_at hd hzm⟩
end Go.Proofs.YtopibompapopiaaGreatDoor
