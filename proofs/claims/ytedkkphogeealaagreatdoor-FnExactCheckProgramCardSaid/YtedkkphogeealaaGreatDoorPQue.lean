/- Queues of numbers in memory: a slice of a row from some place on;one more behind,one les -/
import Derived.Test.YtedkkphogeealaaGreatDoorPMem
import Derived.ArgAppend
namespace Go.Proofs.YtedkkphogeealaaGreatDoor
open Go.RowKit Go.Deep
set_option linter.unusedVariables false
def QRow (w:World) (B:Nat) (v:Value) (W:List Nat):Prop:=∃ g off cap cur,v=.slice (some ⟨g,off,none⟩) W.length cap∧B≤g∧w.heap[g]?=some (.cells cur 3 (0,0))∧W.length≤cap∧off+cap≤cur.size∧cap≤maxLen∧∀ (i x:Nat),W[i]?=some x→cur[off+i]?=some (.int .i64 (x:Int))
theorem QRow.below {w w':World} {B:Nat} {v:Value} {W:List Nat} (h:QRow w B v W) (hb:Below w.heap.size w w'):QRow w' B v W:=by
 obtain ⟨g,off,cap,cur,h1,h2,h3,h4⟩:=h
 exact ⟨g,off,cap,cur,h1,h2,(hb.block g (heap_lt h3)).trans h3,h4⟩
theorem QRow.other {w:World} {B:Nat} {v:Value} {W:List Nat} (h:QRow w B v W) {b o:Nat} {x:Value} {cs:Array Value} {t:TypeId} (hb:w.heap[b]?=some (.cells cs t (0,0))) (ht:t≠3):QRow (w.setCell ⟨b,o,none⟩ x) B v W:=by
 obtain ⟨g,off,cap,cur,h1,h2,h3,h4⟩:=h
 refine ⟨g,off,cap,cur,h1,h2,(heap_setCell_other _ _ _ _ (fun e=>?_)).trans h3,h4⟩
 have e':g=b:=e
 rw [e',hb] at h3
 simp at h3
 exact ht h3.2
theorem QRow.tail {w:World} {B:Nat} {g off cap a:Nat} {V:List Nat} (h:QRow w B (.slice (some ⟨g,off,none⟩) (V.length+1) cap) (a :: V)) :
  1≤cap∧cap≤maxLen∧w.cell? ⟨g,off,none⟩=some (.int .i64 (a:Int))∧QRow w B (.slice (some (if cap=1 then ⟨g,off,none⟩ else ⟨g,off+1,none⟩)) V.length (cap-1)) V:=by
 obtain ⟨g',off',cap',cur,h1,h2,h3,h4,h5,h6,h7⟩:=h
 simp only [Value.slice.injEq,Option.some.injEq,Addr.mk.injEq,and_true,List.length_cons] at h1 h4
 obtain ⟨⟨rfl,rfl⟩,-,rfl⟩:=h1
 refine ⟨by omega,h6,(cB h3 _).trans (h7 0 a rfl),?_⟩
 by_cases hc:cap=1
 ·rw [if_pos hc]
  refine ⟨g,off,_,cur,rfl,h2,h3,by omega,by omega,by omega,fun i x hx=>?_⟩
  have:=(List.getElem?_eq_some_iff.mp hx).1
  omega
 ·rw [if_neg hc]
  refine ⟨g,off+1,_,cur,rfl,h2,h3,by omega,by omega,by omega,fun i x hx=>?_⟩
  have:=h7 (i+1) x (by simpa using hx)
  rw [← this]
  congr 1
  omega
theorem setCells_one (w:World) (b o:Nat) (x:Value):w.setCells b o [x]=w.setCell ⟨b,o,none⟩ x:=rfl
theorem wpList_append_queue {ops:Array Oper} {rest:List Oper} {o:Oper} {a:Act} {w:World} {Q:Exit→Act→World→Prop} (hgd:o.guard=none) (s x:Operand)
  (ho:o.op=.call { callee:=.builtin .append,args:=#[s,x],argTypes:=#[22,22] }) (B:Nat) (v:Value) (W:List Nat) (hs:a.eval s=v) (hq:QRow w B v W) (ad:Addr) (c y:Nat)
  (hx:a.eval x=.slice (some ad) 1 c) (hy:w.cell? ad=some (.int .i64 (y:Int))) (hl:W.length≤1000000) (hB:B≤w.heap.size)
  (h:∀ v' w',QRow w' B v' (W++[y])→w.grownBy w' v.ownBlock→wpList Tryz.prog ops Q rest (a.put o.dst v') w'):wpList Tryz.prog ops Q (o :: rest) a w:=by
 obtain ⟨i0,hi,hz0,hz1,hz2⟩:=info_parts Tryz.infoInt
 obtain ⟨g,off,cap,cur,h1,h2,h3,h4,h5,h6,h7⟩:=hq
 subst h1
 have hol:∀ (j:Nat) (u:Value),(W.map fun (z:Nat)=>Value.int .i64 (z:Int))[j]?=some u→w.cell? ⟨g,off+j,none⟩=some u:=by
  intro j u hj
  rw [List.getElem?_map] at hj
  cases hw:W[j]? with
  | none=>rw [hw] at hj;simp at hj
  | some z =>
   rw [hw] at hj
   rw [cB h3,h7 j z hw]
   simpa using hj
 refine wpList_append_arg w hgd s x 22 ho 3 i0 (.int .i64 0) 1 8 Tryz.underlying22 hi hz0 hz1 hz2 rfl (by decide) g off W.length cap (W.map fun (z:Nat)=>Value.int .i64 (z:Int)) hs (by simp) hol
  ad 1 c [.int .i64 (y:Int)] hx rfl (fun j u hj=>?_) (fun u hu=>?_) (fun hr j hj=>?_) (by unfold maxLen;omega) (by omega) (fun hr=>?_) (fun hr v' w' h8 h9=>?_)
 ·have hj0:j=0:=by
   have:=(List.getElem?_eq_some_iff.mp hj).1
   simpa using this
  subst hj0
  have e:ad.add 0=ad:=by cases ad;rfl
  rw [e,hy]
  simpa using hj
 ·simp only [List.mem_cons,List.not_mem_nil,or_false] at hu
  subst hu
  rfl
 ·simp at hj
  subst hj
  rw [cB h3]
  refine ⟨?_,frozen_of_row _ _ _ _ _ h3⟩
  rw [Option.isSome_iff_exists]
  exact ⟨_,Array.getElem?_eq_getElem (by omega)⟩
 ·rw [setCells_one,Nat.mul_one]
  refine h _ _ ⟨g,off,cap,cur.setIfInBounds (off+W.length) (.int .i64 (y:Int)),by simp,h2,heap_setCell_same w g (off+W.length) cur _ _ h3,by simpa using hr,by simpa using h5,h6,fun i z hz=>?_⟩ ⟨rfl,rfl,rfl,by simp [World.setCell],fun k hk hne=>heap_setCell_other _ _ _ _ (fun e=>hne (by rw [e];rfl))⟩
  rw [Array.getElem?_setIfInBounds]
  by_cases hi:i=W.length
  ·subst hi
   rw [if_pos rfl,if_pos (by omega)]
   simp at hz
   rw [hz]
  ·rw [if_neg (by omega)]
   refine h7 i z ?_
   have:=(List.getElem?_eq_some_iff.mp hz).1
   rw [List.length_append] at this
   simp at this
   rw [List.getElem?_append_left (by omega)] at hz
   exact hz
 ·rcases h8.2 with ⟨_,e⟩ | ⟨g',cap',cur',hv,hB',hg,hn,hm,hsz,htk⟩
  ·omega
  ·subst hv
   refine h _ w' ⟨g',0,cap',cur',by simp,by omega,hg,by simpa using hn,by omega,hm,fun i z hz=>?_⟩ ⟨h9.os,h9.tape,h9.output,h9.size,fun k hk _=>h9.block k hk (by simp)⟩
   have hil:=(List.getElem?_eq_some_iff.mp hz).1
   have e:(cur'.toList.take ((W.length+1)*1))[i]?=some (.int .i64 (z:Int)):=by
    rw [htk,show (W.map (fun (z:Nat)=>Value.int .i64 (z:Int))++[Value.int .i64 (y:Int)])=(W++[y]).map (fun (z:Nat)=>Value.int .i64 (z:Int)) by simp,List.getElem?_map,hz]
    rfl
   rw [List.getElem?_take] at e
   rw [List.length_append] at hil
   simp at hil
   rw [if_pos (by omega)] at e
   simpa using e
theorem slice_tail (g off n c:Nat) (hc:1≤c) (W:World):(Instr.sliceAt 22 (.slice (some ⟨g,off,none⟩) (n+1) c) (some (.int .i64 1)) none none).run Tryz.prog W=.ok (.slice (some (if c=1 then ⟨g,off,none⟩ else ⟨g,off+1,none⟩)) n (c-1)) W:=by
 have he:Tryz.prog.elem 22=3:=by kernel_rfl
 have hz:(sizeOf 3).run Tryz.prog W=.ok 1 W:=by first | exact Tryz.sizeOf3 W | simp [Tryz.sizeOf3] | kernel_rfl
 rw [run_sliceAt_slice W 22 _ _ _ _ (by kernel_rfl),run_slice_l W 22 (some ⟨g,off,none⟩) (n+1) c (by kernel_rfl) .i64 1 (by omega) (by omega),he,hz]
 by_cases h:c=1
 ·simp [sliced,h]
 ·simp [sliced,h,Addr.add]
end Go.Proofs.YtedkkphogeealaaGreatDoor
