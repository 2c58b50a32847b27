/- Pure facts for conflicts. -/
import Derived.Test.YtedkkphogeealaaGreatDoorPCfI0
namespace Go.Proofs.YtedkkphogeealaaGreatDoor
open Go.RowKit Go.Deep
set_option linter.unusedVariables false
theorem touc_near (ns:List Nd) {a:AccD} (h:0≤a.v) (i:Nat):(toucN ns ns.length a).testBit i=true↔Near ns i a:=by
 have hf:(bitsK (isFrom ns a.v.toNat) ns.length).testBit i=true↔loanN ns i a.v:=by
  rw [bitsK_bit,Bool.and_eq_true,decide_eq_true_eq]
  unfold isFrom loanN
  constructor
  ·rintro ⟨h1,h2⟩
   rw [List.getElem?_eq_getElem h1] at h2 ⊢
   simp only [decide_eq_true_eq] at h2
   exact ⟨_,rfl,h2.1,by omega⟩
  ·rintro ⟨d,h1,h2,h3⟩
   refine ⟨(List.getElem?_eq_some_iff.mp h1).1,?_⟩
   rw [h1]
   simp only [decide_eq_true_eq]
   exact ⟨h2,by omega⟩
 unfold toucN Near
 by_cases hu:a.u=true
 ·rw [if_pos hu,hf]
  exact ⟨fun q=>⟨q,.inl hu⟩,fun q=>q.1⟩
 ·rw [if_neg hu,Nat.testBit_and,Bool.and_eq_true,hf,bitsK_bit,Bool.and_eq_true,decide_eq_true_eq]
  constructor
  ·exact fun q=>⟨q.1,.inr q.2.2⟩
  ·rintro ⟨q1,q2⟩
   obtain ⟨d,h1,-,-⟩:=id q1
   exact ⟨q1,(List.getElem?_eq_some_iff.mp h1).1,q2.resolve_left hu⟩
end Go.Proofs.YtedkkphogeealaaGreatDoor
