/- What a call owns,and what it leaves alone. -/
import Derived.Test.YtedkkphogeealaaGreatDoorPMem
import Derived.Deep.OwnRows
import Derived.Deep.AppendLies
import Derived.Laws.OwnMore
namespace Go.Proofs.YtedkkphogeealaaGreatDoor
open Go.RowKit Go.Deep
set_option linter.unusedVariables false
theorem _root_.Go.World.ownsRow.stored' {w:World} {base g n m cap size:Nat} {e:TypeId} {xs:List Value} (h:w.ownsRow base e size (.slice (some ⟨g,0,none⟩) n cap) m xs) (hn:m=n) (j:Nat) (u:Value) :
  (w.setCell ⟨g,j,none⟩ u).ownsRow base e size (.slice (some ⟨g,0,none⟩) n cap) n (xs.set j u):=by
 subst hn
 exact (h.stored j u).1
structure One (g:Nat) (w w':World):Prop where
 os:w'.os=w.os
 tape:w'.tape=w.tape
 output:w'.output=w.output
 size:w'.heap.size=w.heap.size
 block:∀ k,k≠g→w'.heap[k]?=w.heap[k]?
 frozen:∀ p:Addr,w'.frozen? p=w.frozen? p
structure But (R:Nat) (w w':World):Prop where
 os:w'.os=w.os
 tape:w'.tape=w.tape
 output:w'.output=w.output
 size:w.heap.size≤w'.heap.size
 block:∀ k,k<w.heap.size→k≠R→w'.heap[k]?=w.heap[k]?
theorem RowI.lt {w:World} {B:Nat} {v:Value} {xs:List Int} (h:RowI w B v xs):∀ g,v.ownBlock=some g→B≤g∧g<w.heap.size:=World.ownsRow.lt h
theorem RowI.ints {w:World} {B:Nat} {v:Value} {xs:List Int} (h:RowI w B v xs):∃ A c,v=.slice A xs.length c∧IntsV w 0 w.heap.size xs A c:=by
 rcases h.2 with ⟨hv,h0⟩ | ⟨g,cap,cur,hv,h2,h3,h4,h5,h6,h7⟩
 ·have:xs=[]:=List.eq_nil_of_length_eq_zero h0
  subst this
  exact ⟨none,0,hv,by simp,by simp [maxLen],fun h=>absurd h (by simp)⟩
 ·refine ⟨_,_,hv,h4,h5,fun h0=>⟨_,rfl,Nat.zero_le _,heap_lt h3,fun j u hj=>?_⟩⟩
  exact World.ownsRow.cells h (g:=g) (by rw [hv];rfl) j _ (by rw [List.getElem?_map,hj];rfl)
theorem RowI.keep {w w':World} {B:Nat} {v:Value} {xs:List Int} (h:RowI w B v xs) (hk:∀ g,v.ownBlock=some g→w'.heap[g]?=w.heap[g]?):RowI w' B v xs:=by
 refine ⟨h.1,?_⟩
 rcases h.2 with h | ⟨g,cap,cur,h1,h2,h3,h4⟩
 ·exact .inl h
 ·exact .inr ⟨g,cap,cur,h1,h2,(hk g (by rw [h1];rfl)).trans h3,h4⟩
theorem RowI.intsV {w:World} {B n c:Nat} {A:Option Addr} {xs:List Int} (h:RowI w B (.slice A n c) xs):IntsV w 0 w.heap.size xs A c:=by
 obtain ⟨A',c',he,hI⟩:=h.ints
 injection he with e1 _ e2
 subst e1 e2
 exact hI
end Go.Proofs.YtedkkphogeealaaGreatDoor
