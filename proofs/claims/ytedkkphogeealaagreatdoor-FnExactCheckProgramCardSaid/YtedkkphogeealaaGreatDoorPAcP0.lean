/- Pure facts for accesses. -/
import Derived.Test.YtedkkphogeealaaGreatDoorPAcfG
import Derived.Test.YtedkkphogeealaaGreatDoorPLpI00
namespace Go.Proofs.YtedkkphogeealaaGreatDoor
open Go.RowKit Go.Deep
set_option linter.unusedVariables false
theorem typed_op {ts:List Int} {d:Nd} (h:Typed ts d):1≤d.op:=by
 rcases h with h | h
 ·exact h.1
 ·omega
theorem maybe_bit {ts:List Int} {ns:List Nd} {k:Nat} {mb:Nat→Nat} (h:FloIn (fun a b=>eN ns a b) 0 (fun _=>False) (fun k v=>setsN ns k v) (fun k v=>usesN ts ns k v 2) ns.length false mb (fun _=>False)) (hA:AllTyped ts ns) (hk:k<ns.length) {v:Nat} (hv:v<6):(mb k).testBit v=true↔MayB ts ns k v:=by
 have hle:∀ a b,((fun a b=>eN ns a b)) a b→a<ns.length:=fun a b hab=>by
  have hab':b∈nextN ns a:=hab
  rcases Nat.lt_or_ge a ns.length with h9 | h9
  ·exact h9
  ·exfalso
   unfold nextN nextP at hab'
   rw [List.getElem?_eq_none h9] at hab'
   simp at hab'
 have hlast:=h.last (fun _=>id) hle (m:=k) (v:=v) hk hv
 constructor
 ·intro hb
  exact hlast.mp (by unfold dv;rw [hb];rfl)
 ·intro hr
  have:=hlast.mpr hr
  unfold dv at this
  rw [this]
  rfl
end Go.Proofs.YtedkkphogeealaaGreatDoor
