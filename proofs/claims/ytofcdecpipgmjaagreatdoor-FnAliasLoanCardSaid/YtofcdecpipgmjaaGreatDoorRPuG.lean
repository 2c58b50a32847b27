/- What a function of a program answers: the points of which something holds. Plain. -/
import Derived.Test.YtofcdecpipgmjaaGreatDoorRMem
namespace Go.Proofs.YtofcdecpipgmjaaGreatDoor
set_option linter.unusedVariables false
def UnU (ts:List Int) (ns:List Nd) (k:Nat):Prop:=k<ns.length∧∃ (v:Nat) (d:Nd),ns[k]?=some d∧useI ts d v≠0∧MissB ts ns k v
def AnsL (R:List Nd→Nat→Prop) (ok:Bool) (s:Sts) (l:List Int):Prop:=(ok=true∧IsPathsB (R (progPts s)) l)∨(ok=false∧l=[])
open Go.RowKit Go.Deep
theorem isPathsB_mem {R:Nat→Prop} {l:List Int} (h:IsPathsB R l) (v:Int):v∈l↔∃ k:Nat,v=(k:Int)∧R k:=by
 obtain ⟨p,rfl,hp⟩:=h
 simp only [List.mem_map,List.mem_filter,List.mem_range]
 constructor
 ·rintro ⟨k,⟨h1,h2⟩,rfl⟩
  exact ⟨k,rfl,(hp k).1 ⟨h1,h2⟩⟩
 ·rintro ⟨k,rfl,hk⟩
  obtain ⟨h1,h2⟩:=(hp k).2 hk
  exact ⟨k,⟨h1,h2⟩,rfl⟩
theorem AnsAt.mem {R:List Nd→Nat→Nat→Prop} {ok:Bool} {s:Sts} {a:Int} {l:List Int} (h:AnsAt R ok s a l) (v:Int):v∈l↔(ok=true∧0≤a∧a<((progPts s).length:Int)∧∃ k:Nat,v=(k:Int)∧R (progPts s) a.toNat k):=by
 rcases h with ⟨h1,h2,h3,h4⟩ | ⟨h1,rfl⟩
 ·rw [isPathsB_mem h4]
  exact ⟨fun h=>⟨h1,h2,h3,h⟩,fun h=>h.2.2.2⟩
 ·constructor
  ·intro h;cases h
  ·rintro ⟨a1,a2,a3,-⟩;exact absurd ⟨a1,a2,a3⟩ h1
def anyB (f:Nat→Bool) (x:Nat):Bool:=(List.range x).any f
theorem mem_nextN_at {ns:List Nd} {a:Nat} {d:Nd} (h:ns[a]?=some d) {v:Nat} (hv:(v:Int)∈d.next):v∈nextN ns a:=by
 unfold nextN
 rw [nextP_some h,List.mem_map]
 exact ⟨(v:Int),hv,by simp⟩
theorem prog_next {s:Sts} {j:Nat} {d:Nd} {z:Int} (hd:(progPts s)[j]?=some d) (hz:z∈d.next):0≤z∧z<((progPts s).length:Int):=by
 unfold progPts at hd
 by_cases hj:j<(s.pts 0).length
 ·rw [List.getElem?_append_left hj] at hd
  have h:=(s.pts_ok 0 d (List.mem_of_getElem? hd)).2.2 z hz
  rw [progPts_len]
  omega
 ·rw [List.getElem?_append_right (by omega)] at hd
  have hm:=List.mem_of_getElem? hd
  simp only [List.mem_cons,List.not_mem_nil,or_false] at hm
  subst hm
  cases hz
end Go.Proofs.YtofcdecpipgmjaaGreatDoor
