/- Rows of flags that are longer than what is asked of them: made by append;and a queue of n -/
import Derived.Test.YtedkkphogeealaaGreatDoorULvG
import Derived.Test.YtedkkphogeealaaGreatDoorUL3G
import Derived.ArgAppend
import Derived.Test.YtedkkphogeealaaGreatDoorUMem
namespace Go.Proofs.YtedkkphogeealaaGreatDoor
open Go.RowKit Go.Deep
set_option linter.unusedVariables false
def FlW (w:World) (F T:Nat) (fl:Nat→Bool):Prop:=∃ cs,w.heap[F]?=some (.cells cs 4 (0,0))∧T≤cs.size∧∀ i,i<T→cs[i]?=some (.bool (fl i))
theorem FlAt.wide {w:World} {F T:Nat} {fl:Nat→Bool} (h:FlAt w F T fl):FlW w F T fl:=by
 obtain ⟨cs,h1,h2,h3⟩:=h
 exact ⟨cs,h1,Nat.le_of_eq h2.symm,h3⟩
theorem FlW.cell {w:World} {F n:Nat} {fl:Nat→Bool} (h:FlW w F n fl) {i:Nat} (hi:i<n):w.cell? ⟨F,i,none⟩=some (.bool (fl i)):=by
 obtain ⟨cs,h1,_,h3⟩:=h
 rw [cB h1]
 exact h3 i hi
theorem FlW.soft {w:World} {F n:Nat} {fl:Nat→Bool} (h:FlW w F n fl) (i:Nat):w.frozen? ⟨F,i,none⟩=false:=by
 obtain ⟨cs,h1,_,_⟩:=h
 exact frozen_of_row _ _ _ _ _ h1
theorem FlW.keep {w w':World} {F n:Nat} {fl:Nat→Bool} (h:FlW w F n fl) (hk:w'.heap[F]?=w.heap[F]?):FlW w' F n fl:=by
 unfold FlW
 rw [hk]
 exact h
theorem FlW.lt {w:World} {F n:Nat} {fl:Nat→Bool} (h:FlW w F n fl):F<w.heap.size:=by
 obtain ⟨cs,h1,_⟩:=h
 exact heap_lt h1
theorem FlW.congr {w:World} {F n:Nat} {fl gl:Nat→Bool} (h:FlW w F n fl) (e:∀ i,i<n→gl i=fl i):FlW w F n gl:=by
 obtain ⟨cs,h1,h2,h3⟩:=h
 exact ⟨cs,h1,h2,fun i hi=>by rw [e i hi];exact h3 i hi⟩
theorem FlW.put {w:World} {F n:Nat} {fl:Nat→Bool} (h:FlW w F n fl) {b:Nat} (hb:b<n) (v:Bool):FlW (w.setCell ⟨F,b,none⟩ (.bool v)) F n (setR fl b v):=by
 obtain ⟨cs,h1,h2,h3⟩:=h
 refine ⟨_,heap_setCell_same w F b cs _ _ h1,by simpa using h2,fun j hj=>?_⟩
 rw [Array.getElem?_setIfInBounds]
 unfold setR
 by_cases hij:b=j
 ·subst hij
  rw [if_pos rfl,if_pos (by omega),if_pos rfl]
 ·rw [if_neg hij,if_neg (fun h=>hij h.symm)]
  exact h3 j hj
theorem wpList_append_flags {ops:Array Oper} {rest:List Oper} {o:Oper} {a:Act} {w:World} {Q:Exit→Act→World→Prop} (hgd:o.guard=none) (s x:Operand)
  (ho:o.op=.call { callee:=.builtin .append,args:=#[s,x],argTypes:=#[72,72] }) (g0 F c T:Nat) (fl:Nat→Bool) (hs:a.eval s=.slice (some ⟨g0,0,none⟩) 0 0) (h0:w.heap[g0]?=some (.cells #[] 4 (0,0)))
  (hx:a.eval x=.slice (some ⟨F,0,none⟩) T c) (hF:FlW w F T fl) (hT:T≤64)
  (h:∀ G cap w',FlW w' G T fl→T≤cap→cap≤maxLen→g0≤G→w.grownBy w' none→wpList Tryz.prog ops Q rest (a.put o.dst (.slice (some ⟨G,0,none⟩) T cap)) w'):wpList Tryz.prog ops Q (o :: rest) a w:=by
 obtain ⟨i0,hi,hz0,hz1,hz2⟩:=info_parts Tryz.infoBool
 obtain ⟨cs,c1,c2,c3⟩:=id hF
 have hnews:∀ j u,(((List.range T).map fun i=>Value.bool (fl i))[j]?=some u)→w.cell? ((⟨F,0,none⟩:Addr).add j)=some u:=by
  intro j u hj
  have hjT:j<T:=by
   have:=(List.getElem?_eq_some_iff.mp hj).1
   simpa using this
  rw [add_block,Nat.zero_add,hF.cell hjT]
  rw [List.getElem?_map,List.getElem?_range hjT] at hj
  simpa using hj
 refine wpList_append_arg w hgd s x 72 ho 4 i0 (.bool false) 1 1 Tryz.underlying72 hi hz0 hz1 hz2 rfl (by decide) g0 0 0 0 [] hs (by simp) (fun j u hj=>by simp at hj)
  ⟨F,0,none⟩ T c ((List.range T).map fun i=>Value.bool (fl i)) hx (by simp) hnews (fun u hu=>?_) (fun h1 j hj=>?_) (by unfold maxLen;omega) (by omega) (fun h1=>?_) (fun h1 v' w' h8 h9=>?_)
 ·obtain ⟨k,_,rfl⟩:=List.mem_map.mp hu
  rfl
 ·simp at hj
  omega
 ·have hT0:T=0:=by omega
  subst hT0
  exact h g0 0 w ⟨#[],h0,Nat.zero_le _,fun i hi=>absurd hi (Nat.not_lt_zero _)⟩ (Nat.le_refl _) (by unfold maxLen;omega) (Nat.le_refl _) (grown_refl w none)
 ·rcases h8.2 with ⟨_,e⟩ | ⟨g,cap,cur,hv,hB,hg,hn,hm,hsz,htk⟩
  ·omega
  ·rw [Nat.zero_add] at hv hn htk
   subst hv
   refine h g cap w' ⟨cur,hg,by omega,fun i hi=>?_⟩ hn hm (by have:=heap_lt h0;omega) h9
   have e:(cur.toList.take (T*1))[i]?=some (.bool (fl i)):=by
    rw [htk,List.nil_append,List.getElem?_map,List.getElem?_range hi]
    rfl
   rw [List.getElem?_take,if_pos (by omega)] at e
   simpa using e
end Go.Proofs.YtedkkphogeealaaGreatDoor
