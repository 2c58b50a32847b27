/- Rows of flags that are longer than what is asked of them: made by append;and a queue of n -/
import Derived.Test.YtdcldcffnkhegaaGreatDoorQLvG
import Derived.Test.YtdcldcffnkhegaaGreatDoorQL3G
import Derived.ArgAppend
import Derived.Test.YtdcldcffnkhegaaGreatDoorQBase
namespace Go.Proofs.YtdcldcffnkhegaaGreatDoor
open Go.RowKit Go.Deep
set_option linter.unusedVariables false
def FlW (w:World) (F T:Nat) (fl:Nat→Bool):Prop:=∃ cs,w.heap[F]?=some (.cells cs 4 (0,0))∧T≤cs.size∧∀ i,i<T→cs[i]?=some (.bool (fl i))
theorem FlAt.wide {w:World} {F T:Nat} {fl:Nat→Bool} (h:FlAt w F T fl):FlW w F T fl:=by
 obtain ⟨cs,h1,h2,h3⟩:=h
 exact ⟨cs,h1,Nat.le_of_eq h2.symm,h3⟩
theorem FlW.cell {w:World} {F n:Nat} {fl:Nat→Bool} (h:FlW w F n fl) {i:Nat} (hi:i<n):w.cell? ⟨F,i,none⟩=some (.bool (fl i)):=by
 obtain ⟨cs,h1,_,h3⟩:=h
 rw [cB h1]
 exact h3 i hi
theorem FlW.soft {w:World} {F n:Nat} {fl:Nat→Bool} (h:FlW w F n fl) (i:Nat):w.frozen? ⟨F,i,none⟩=false:=by
 obtain ⟨cs,h1,_,_⟩:=h
 exact frozen_of_row _ _ _ _ _ h1
theorem FlW.keep {w w':World} {F n:Nat} {fl:Nat→Bool} (h:FlW w F n fl) (hk:w'.heap[F]?=w.heap[F]?):FlW w' F n fl:=by
 unfold FlW
 rw [hk]
 exact h
theorem FlW.lt {w:World} {F n:Nat} {fl:Nat→Bool} (h:FlW w F n fl):F<w.heap.size:=by
 obtain ⟨cs,h1,_⟩:=h
 exact heap_lt h1
theorem FlW.congr {w:World} {F n:Nat} {fl gl:Nat→Bool} (h:FlW w F n fl) (e:∀ i,i<n→gl i=fl i):FlW w F n gl:=by
 obtain ⟨cs,h1,h2,h3⟩:=h
 exact ⟨cs,h1,h2,fun i hi=>by rw [e i hi];exact h3 i hi⟩
theorem FlW.put {w:World} {F n:Nat} {fl:Nat→Bool} (h:FlW w F n fl) {b:Nat} (hb:b<n) (v:Bool):FlW (w.setCell ⟨F,b,none⟩ (.bool v)) F n (setR fl b v):=by
 obtain ⟨cs,h1,h2,h3⟩:=h
 refine ⟨_,heap_setCell_same w F b cs _ _ h1,by simpa using h2,fun j hj=>?_⟩
 rw [Array.getElem?_setIfInBounds]
 unfold setR
 by_cases hij:b=j
 ·subst hij
  rw [if_pos rfl,if_pos (by omega),if_pos rfl]
 ·rw [if_neg hij,if_neg (fun h=>hij h.symm)]
  exact h3 j hj
theorem wpList_append_flags {ops:Array Oper} {rest:List Oper} {o:Oper} {a:Act} {w:World} {Q:Exit→Act→World→Prop} (hgd:o.guard=none) (s x:Operand)
  (ho:o.op=.call { callee:=.builtin .append,args:=#[s,x],argTypes:=#[65,65] }) (g0 F c T:Nat) (fl:Nat→Bool) (hs:a.eval s=.slice (some ⟨g0,0,none⟩) 0 0) (h0:w.heap[g0]?=some (.cells #[] 4 (0,0)))
  (hx:a.eval x=.slice (some ⟨F,0,none⟩) T c) (hF:FlW w F T fl) (hT:T≤64)
  (h:∀ G cap w',FlW w' G T fl→T≤cap→cap≤maxLen→g0≤G→w.grownBy w' none→wpList Tryz.prog ops Q rest (a.put o.dst (.slice (some ⟨G,0,none⟩) T cap)) w'):wpList Tryz.prog ops Q (o :: rest) a w:=by
 obtain ⟨i0,hi,hz0,hz1,hz2⟩:=info_parts Tryz.infoBool
 obtain ⟨cs,c1,c2,c3⟩:=id hF
 have hnews:∀ j u,(((List.range T).map fun i=>Value.bool (fl i))[j]?=some u)→w.cell? ((⟨F,0,none⟩:Addr).add j)=some u:=by
  intro j u hj
  have hjT:j<T:=by
   have:=(List.getElem?_eq_some_iff.mp hj).1
   simpa using this
  rw [add_block,Nat.zero_add,hF.cell hjT]
  rw [List.getElem?_map,List.getElem?_range hjT] at hj
  simpa using hj
 refine wpList_append_arg w hgd s x 65 ho 4 i0 (.bool false) 1 1 Tryz.underlying65 hi hz0 hz1 hz2 rfl (by decide) g0 0 0 0 [] hs (by simp) (fun j u hj=>by simp at hj)
  ⟨F,0,none⟩ T c ((List.range T).map fun i=>Value.bool (fl i)) hx (by simp) hnews (fun u hu=>?_) (fun h1 j hj=>?_) (by unfold maxLen;omega) (by omega) (fun h1=>?_) (fun h1 v' w' h8 h9=>?_)
 ·obtain ⟨k,_,rfl⟩:=List.mem_map.mp hu
  rfl
 ·simp at hj
  omega
 ·have hT0:T=0:=by omega
  subst hT0
  exact h g0 0 w ⟨#[],h0,Nat.zero_le _,fun i hi=>absurd hi (Nat.not_lt_zero _)⟩ (Nat.le_refl _) (by unfold maxLen;omega) (Nat.le_refl _) (grown_refl w none)
 ·rcases h8.2 with ⟨_,e⟩ | ⟨g,cap,cur,hv,hB,hg,hn,hm,hsz,htk⟩
  ·omega
  ·rw [Nat.zero_add] at hv hn htk
   subst hv
   refine h g cap w' ⟨cur,hg,by omega,fun i hi=>?_⟩ hn hm (by have:=heap_lt h0;omega) h9
   have e:(cur.toList.take (T*1))[i]?=some (.bool (fl i)):=by
    rw [htk,List.nil_append,List.getElem?_map,List.getElem?_range hi]
    rfl
   rw [List.getElem?_take,if_pos (by omega)] at e
   simpa using e
theorem FlW.apart_ints {w:World} {F n B:Nat} {fl:Nat→Bool} (h:FlW w F n fl) {v:Value} {xs:List Int} (hr:RowI w B v xs):v.ownBlock≠some F:=by
 intro e
 obtain ⟨cs,h1,_⟩:=h
 rcases hr.2 with ⟨hv,_⟩ | ⟨g,cap,cur,hv,_,h3,_⟩
 ·rw [hv] at e;simp [Value.ownBlock] at e
 ·rw [hv] at e
  have e':g=F:=by simpa [Value.ownBlock] using e
  rw [e'] at h3
  rw [h1] at h3
  simp at h3
set_option maxRecDepth 100000 in
set_option maxHeartbeats 4000000 in
theorem l3Numbers_w (F T c:Nat) (fl:Nat→Bool) (w:World) (hT:T≤64) (hc1:T≤c) (hc2:c≤maxLen) (hFw:F<w.heap.size) (hfl:FlW w F T fl) :
  Calls Tryz.prog 43 #[.slice (some ⟨F,0,none⟩) T c] w fun E w'=>∃ v,E=.returned v∧RowI w' w.heap.size v (firstN fl T)∧Below w.heap.size w w':=by
 have hb0:=(Below.refl w.heap.size w).alloc (Nat.le_refl _) (.cells #[] 3)
 have hrow0:RowI (w.alloc (.cells #[] 3)) w.heap.size (.slice (some ⟨w.heap.size,0,none⟩) 0 0) []:=World.ownsRow_lit (base:=w.heap.size) (e:=3) (size:=1) w #[] 0 (Nat.le_refl _) (by simp [maxLen]) rfl
 have hf0:=hfl.keep (hb0.block F hFw)
 unfold maxLen at hc2
 have HR0:=Lib.hid hrow0
 have HFL:=Lib.hid hf0
 obtain ⟨i0,hi,hzz0,hzz1,hzz2⟩:=info_parts Tryz.infoInt
 have HI:=Lib.hid hi
 have HZ0:=Lib.hid hzz0
 have HZ1:=Lib.hid hzz1
 have HZ2:=Lib.hid hzz2
 clear hi hzz0 hzz1 hzz2 hrow0 hf0 hfl
 go_enter Tryz.func43,Tryz.ntmps43
 go_wp2_with fail
 go_loopw [3,4] (fun o i wr=>∃ k:Nat,i=.int .i64 k∧k≤T∧Hid (RowI wr w.heap.size o (firstN fl k))∧Hid (FlW wr F T fl)∧Below w.heap.size w wr) (fun _ i _=>T-(intOf i).toNat)
 case atStart=>exact ⟨0,rfl,Nat.zero_le _,HR0,HFL,hb0⟩
 case round =>
  clear HR0 HFL hb0
  obtain ⟨k,rfl,hk,hrow,hfl,hb⟩:=hrel
  have hbz:=hb.size
  by_cases hlt:k<T
  ·have hcell:=hfl.out.cell hlt
   have hln:=firstN_length fl k
   cases hflk:fl k
   ·rw [hflk] at hcell
    have e:=Lib.hid (firstN_no hflk)
    go_wp2_with fail
    refine ⟨⟨k+1,by simp,by omega,by rw [e.out];exact hrow,hfl,hb⟩,?_⟩
    simp only [intOf]
    omega
   ·rw [hflk] at hcell
    have e:=Lib.hid (firstN_yes hflk)
    have hap:=hfl.out.apart_ints hrow.out
    go_wp2_with (at_builtin;refine wpList_append_own _ rfl _ _ 23 rfl w.heap.size 3 i0 (.int .i64 0) 1 8 Tryz.underlying23 HI.out HZ0.out HZ1.out HZ2.out rfl (by decide) _ _ _ rfl ((RowI.own hrow.out).alloc _) ⟨_,0,none⟩ 1 1 [.int .i64 (k:Int)] rfl rfl ?ra1 ?ra2 ?ra3 ?ra4 ?ra5 ?_)
    try (case ra1=>exact news1 (by simp) rfl)
    try (case ra2=>intro u hu;simp only [List.mem_cons,List.not_mem_nil,or_false] at hu;subst hu;rfl)
    try (case ra3=>unfold maxLen;omega)
    try (case ra4=>omega)
    try (case ra5=>simp;omega)
    intro v' w' hown' hgr hne
    have hb':=(hb.alloc hbz (.cells #[Value.int .i64 (k:Int)] 3)).grown hgr (by simp;omega) (fun g hg'=>((RowI.own hrow.out).lt g hg').1)
    have HR':Hid (RowI w' w.heap.size v' (firstN fl k++[(k:Int)])):=RowI.snoc hown'
    have hF0:F<wr.heap.size:=by omega
    have hfl1:FlW (wr.alloc (.cells #[Value.int .i64 (k:Int)] 3)) F T fl:=hfl.out.keep (((Below.refl wr.heap.size wr).alloc (Nat.le_refl _) _).block F hF0)
    have HF':=Lib.hid (hfl1.keep (hgr.block F (by simp;omega) (fun e=>hap e.symm)))
    clear hown' hgr hne hfl1
    go_wp2_with fail
    refine ⟨⟨k+1,by simp,by omega,by rw [e.out];exact HR',HF',hb'⟩,?_⟩
    simp only [intOf]
    omega
  ·have hke:k=T:=by omega
   subst hke
   go_wp2_with fail
   go_ret
   exact ⟨_,rfl,hrow.out,hb⟩
end Go.Proofs.YtdcldcffnkhegaaGreatDoor
