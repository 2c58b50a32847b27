/- Rows of flags that are longer than what is asked of them: made by append;and a queue of n -/
import Derived.Test.YtedkkphogeealaaGreatDoorPLvG
import Derived.Test.YtedkkphogeealaaGreatDoorPL3G
import Derived.ArgAppend
import Derived.Test.YtedkkphogeealaaGreatDoorPMem
import Derived.Test.YtedkkphogeealaaGreatDoorPQue
import Derived.Test.YtedkkphogeealaaGreatDoorPL2Xa
import Derived.Test.YtedkkphogeealaaGreatDoorPBase
import Derived.Test.YtedkkphogeealaaGreatDoorPStmtY
import Derived.Deep.RegionHeld3
namespace Go.Proofs.YtedkkphogeealaaGreatDoor
open Go.RowKit Go.Deep
set_option linter.unusedVariables false
set_option maxRecDepth 100000
set_option maxHeartbeats 8000000
def FlW (w:World) (F T:Nat) (fl:Nat→Bool):Prop:=∃ cs,w.heap[F]?=some (.cells cs 4 (0,0))∧T≤cs.size∧∀ i,i<T→cs[i]?=some (.bool (fl i))
theorem FlAt.wide {w:World} {F T:Nat} {fl:Nat→Bool} (h:FlAt w F T fl):FlW w F T fl:=by
 obtain ⟨cs,h1,h2,h3⟩:=h
 exact ⟨cs,h1,Nat.le_of_eq h2.symm,h3⟩
theorem FlW.cell {w:World} {F n:Nat} {fl:Nat→Bool} (h:FlW w F n fl) {i:Nat} (hi:i<n):w.cell? ⟨F,i,none⟩=some (.bool (fl i)):=by
 obtain ⟨cs,h1,_,h3⟩:=h
 rw [cB h1]
 exact h3 i hi
theorem FlW.soft {w:World} {F n:Nat} {fl:Nat→Bool} (h:FlW w F n fl) (i:Nat):w.frozen? ⟨F,i,none⟩=false:=by
 obtain ⟨cs,h1,_,_⟩:=h
 exact frozen_of_row _ _ _ _ _ h1
theorem FlW.keep {w w':World} {F n:Nat} {fl:Nat→Bool} (h:FlW w F n fl) (hk:w'.heap[F]?=w.heap[F]?):FlW w' F n fl:=by
 unfold FlW
 rw [hk]
 exact h
theorem FlW.lt {w:World} {F n:Nat} {fl:Nat→Bool} (h:FlW w F n fl):F<w.heap.size:=by
 obtain ⟨cs,h1,_⟩:=h
 exact heap_lt h1
theorem FlW.congr {w:World} {F n:Nat} {fl gl:Nat→Bool} (h:FlW w F n fl) (e:∀ i,i<n→gl i=fl i):FlW w F n gl:=by
 obtain ⟨cs,h1,h2,h3⟩:=h
 exact ⟨cs,h1,h2,fun i hi=>by rw [e i hi];exact h3 i hi⟩
theorem FlW.put {w:World} {F n:Nat} {fl:Nat→Bool} (h:FlW w F n fl) {b:Nat} (hb:b<n) (v:Bool):FlW (w.setCell ⟨F,b,none⟩ (.bool v)) F n (setR fl b v):=by
 obtain ⟨cs,h1,h2,h3⟩:=h
 refine ⟨_,heap_setCell_same w F b cs _ _ h1,by simpa using h2,fun j hj=>?_⟩
 rw [Array.getElem?_setIfInBounds]
 unfold setR
 by_cases hij:b=j
 ·subst hij
  rw [if_pos rfl,if_pos (by omega),if_pos rfl]
 ·rw [if_neg hij,if_neg (fun h=>hij h.symm)]
  exact h3 j hj
theorem wpList_append_flags {ops:Array Oper} {rest:List Oper} {o:Oper} {a:Act} {w:World} {Q:Exit→Act→World→Prop} (hgd:o.guard=none) (s x:Operand)
  (ho:o.op=.call { callee:=.builtin .append,args:=#[s,x],argTypes:=#[72,72] }) (g0 F c T:Nat) (fl:Nat→Bool) (hs:a.eval s=.slice (some ⟨g0,0,none⟩) 0 0) (h0:w.heap[g0]?=some (.cells #[] 4 (0,0)))
  (hx:a.eval x=.slice (some ⟨F,0,none⟩) T c) (hF:FlW w F T fl) (hT:T≤64)
  (h:∀ G cap w',FlW w' G T fl→T≤cap→cap≤maxLen→g0≤G→w.grownBy w' none→wpList Tryz.prog ops Q rest (a.put o.dst (.slice (some ⟨G,0,none⟩) T cap)) w'):wpList Tryz.prog ops Q (o :: rest) a w:=by
 obtain ⟨i0,hi,hz0,hz1,hz2⟩:=info_parts Tryz.infoBool
 obtain ⟨cs,c1,c2,c3⟩:=id hF
 have hnews:∀ j u,(((List.range T).map fun i=>Value.bool (fl i))[j]?=some u)→w.cell? ((⟨F,0,none⟩:Addr).add j)=some u:=by
  intro j u hj
  have hjT:j<T:=by
   have:=(List.getElem?_eq_some_iff.mp hj).1
   simpa using this
  rw [add_block,Nat.zero_add,hF.cell hjT]
  rw [List.getElem?_map,List.getElem?_range hjT] at hj
  simpa using hj
 refine wpList_append_arg w hgd s x 72 ho 4 i0 (.bool false) 1 1 Tryz.underlying72 hi hz0 hz1 hz2 rfl (by decide) g0 0 0 0 [] hs (by simp) (fun j u hj=>by simp at hj)
  ⟨F,0,none⟩ T c ((List.range T).map fun i=>Value.bool (fl i)) hx (by simp) hnews (fun u hu=>?_) (fun h1 j hj=>?_) (by unfold maxLen;omega) (by omega) (fun h1=>?_) (fun h1 v' w' h8 h9=>?_)
 ·obtain ⟨k,_,rfl⟩:=List.mem_map.mp hu
  rfl
 ·simp at hj
  omega
 ·have hT0:T=0:=by omega
  subst hT0
  exact h g0 0 w ⟨#[],h0,Nat.zero_le _,fun i hi=>absurd hi (Nat.not_lt_zero _)⟩ (Nat.le_refl _) (by unfold maxLen;omega) (Nat.le_refl _) (grown_refl w none)
 ·rcases h8.2 with ⟨_,e⟩ | ⟨g,cap,cur,hv,hB,hg,hn,hm,hsz,htk⟩
  ·omega
  ·rw [Nat.zero_add] at hv hn htk
   subst hv
   refine h g cap w' ⟨cur,hg,by omega,fun i hi=>?_⟩ hn hm (by have:=heap_lt h0;omega) h9
   have e:(cur.toList.take (T*1))[i]?=some (.bool (fl i)):=by
    rw [htk,List.nil_append,List.getElem?_map,List.getElem?_range hi]
    rfl
   rw [List.getElem?_take,if_pos (by omega)] at e
   simpa using e
theorem below_drewN {B:Nat} {w w':World} (n:Nat) (h:Below B w w'):Below B w (w'.drewN n):=⟨h.os,h.tape,h.output,h.size,h.block⟩
theorem l3Join_nil (T F c:Nat) (fl:Nat→Bool) (all:Bool) (w:World) (hT:T≤6) (hF:FlW w F T fl) (hc1:T≤c) (hc2:c≤maxLen) :
  Calls Tryz.prog 80 #[.slice none 0 0,.slice (some ⟨F,0,none⟩) T c,.bool all] w
   fun E w'=>∃ G cap,E=.returned (.slice (some ⟨G,0,none⟩) T cap)∧T≤cap∧cap≤maxLen∧w.heap.size≤G∧FlW w' G T fl∧Below w.heap.size w w':=by
 have hbl:=(Below.refl w.heap.size w).alloc (Nat.le_refl _) (.cells #[] 4)
 have hL0:=heap_alloc_new w (.cells #[] 4)
 have hz1:(w.alloc (.cells #[] 4)).heap.size=w.heap.size+1:=by simp
 have hF1:=hF.keep (hbl.block F hF.lt)
 have HL0:=Lib.hid hL0
 have HF1:=Lib.hid hF1
 have HBL:=Lib.hid hbl
 have HZ1:=Lib.hid hz1
 unfold maxLen at hc2
 clear hL0 hF1 hbl hz1 hF
 go_enter Tryz.func80,Tryz.ntmps80
 go_wp2_with (at_builtin;refine wpList_append_flags rfl _ _ rfl w.heap.size F c T fl rfl HL0.out rfl HF1.out (by omega) ?_)
 intro G cap w1 hG hcap hcm hGl hgr
 have hbw:Below w.heap.size w w1:=HBL.out.grown hgr (by rw [HZ1.out];omega) (fun k hk=>by cases hk)
 have HG:=Lib.hid hG
 have HBW:=Lib.hid hbw
 clear hgr hG hbw
 go_wp2_with fail
 go_loopw [8] (fun i wr=>i=.int .i64 0∧wr=w1) (fun i wr=>0)
 case atStart=>exact ⟨rfl,rfl⟩
 case round =>
  obtain ⟨rfl,rfl⟩:=hrel
  go_wp2_with fail
  go_ret
  exact ⟨G,cap,rfl,hcap,hcm,hGl,HG.out,HBW.out⟩
theorem l3Join_two (T F c F2 c2:Nat) (x y:Nat→Bool) (all:Bool) (w:World) (hT:T≤6) (hF:FlW w F T y) (hF2:FlW w F2 T x) (hc1:T≤c) (hc2:c≤maxLen) (hd1:T≤c2) (hd2:c2≤maxLen) :
  Calls Tryz.prog 80 #[.slice (some ⟨F2,0,none⟩) T c2,.slice (some ⟨F,0,none⟩) T c,.bool all] w
   fun E w'=>∃ G cap,E=.returned (.slice (some ⟨G,0,none⟩) T cap)∧T≤cap∧cap≤maxLen∧w.heap.size≤G∧FlW w' G T (jr all x y)∧Below w.heap.size w w':=by
 have hbl:=(Below.refl w.heap.size w).alloc (Nat.le_refl _) (.cells #[] 4)
 have hL0:=heap_alloc_new w (.cells #[] 4)
 have hz1:(w.alloc (.cells #[] 4)).heap.size=w.heap.size+1:=by simp
 have hF1:=hF.keep (hbl.block F hF.lt)
 have HL0:=Lib.hid hL0
 have HF1:=Lib.hid hF1
 have HBL:=Lib.hid hbl
 have HZ1:=Lib.hid hz1
 have HFA:=Lib.hid hF
 have HFB:=Lib.hid hF2
 unfold maxLen at hc2 hd2
 clear hL0 hF1 hbl hz1 hF hF2
 go_enter Tryz.func80,Tryz.ntmps80
 go_wp2_with (at_builtin;refine wpList_append_flags rfl _ _ rfl w.heap.size F c T y rfl HL0.out rfl HF1.out (by omega) ?_)
 intro G cap w1 hG hcap hcm hGl hgr
 have hbw:Below w.heap.size w w1:=HBL.out.grown hgr (by rw [HZ1.out];omega) (fun k hk=>by cases hk)
 have HG:=Lib.hid hG
 have HBW:=Lib.hid hbw
 have hcm2:=hcm
 unfold maxLen at hcm2
 clear hgr hG hbw
 go_wp2_with fail
 go_loopw [8] (fun i wr=>∃ k:Nat,i=.int .i64 k∧k≤T∧Hid (FlW wr G T (fun v=>if v<k then jr all x y v else y v))∧Hid (Below w.heap.size w wr)) (fun i wr=>T-(intOf i).toNat)
 case atStart=>exact ⟨0,rfl,Nat.zero_le _,Lib.hid (HG.out.congr (fun i _=>by simp)),HBW⟩
 case round =>
  clear HG HBW
  obtain ⟨k,rfl,hk,HG,HB⟩:=hrel
  by_cases hlt:k<T
  ·have hFr:=HFA.out.keep (HB.out.block F HFA.out.lt)
   have hF2r:=HFB.out.keep (HB.out.block F2 HFB.out.lt)
   have a0:=hFr.cell hlt
   have b0:=hF2r.cell hlt
   have sG:=HG.out.soft k
   have cG:=HG.out.cell hlt
   have hnx:∀ v:Bool,v=jr all x y k→Hid (FlW (wr.setCell ⟨G,k,none⟩ (.bool v)) G T (fun v=>if v<k+1 then jr all x y v else y v)):=fun v hv=>(HG.out.put hlt v).congr (fun i _=>by
    unfold setR
    by_cases hik:i=k
    ·subst hik
     rw [if_pos rfl,if_pos (by omega),hv]
    ·rw [if_neg hik]
     show (if i<k+1 then jr all x y i else y i)=if i<k then jr all x y i else y i
     by_cases h9:i<k
     ·rw [if_pos h9,if_pos (by omega)]
     ·rw [if_neg h9,if_neg (by omega)])
   have hbx:∀ v:Value,Hid (Below w.heap.size w (wr.setCell ⟨G,k,none⟩ v)):=fun v=>below_set HB.out hGl
   have HNX:=Lib.hid hnx
   have HBX:=Lib.hid hbx
   clear hFr hF2r hnx hbx HG HB
   cases all <;> cases hxk:x k <;> cases hyk:y k
   all_goals
    rw [hxk] at b0
    rw [hyk] at a0
    have HXK:=Lib.hid hxk
    have HYK:=Lib.hid hyk
    clear hxk hyk
    go_wp2_with fail
    refine ⟨⟨k+1,by simp,by omega,HNX.out _ (by unfold jr;rw [HXK.out,HYK.out];rfl),HBX.out _⟩,?_⟩
    simp only [intOf]
    omega
  ·have hke:k=T:=by omega
   have HFIN:Hid (FlW wr G T (jr all x y)):=HG.out.congr (fun i hi=>by rw [if_pos (by omega)])
   subst hke
   clear HG
   go_wp2_with fail
   go_ret
   exact ⟨G,cap,rfl,hcap,hcm,hGl,HFIN.out,HB.out⟩
theorem l3Equal_any (T F c F2 c2:Nat) (x y:Nat→Bool) (w:World) (hT:T≤6) (hF:FlW w F T x) (hF2:FlW w F2 T y) (hc1:T≤c) (hc2:c≤maxLen) (hd1:T≤c2) (hd2:c2≤maxLen) :
  Calls Tryz.prog 81 #[.slice (some ⟨F,0,none⟩) T c,.slice (some ⟨F2,0,none⟩) T c2] w
   fun E w'=>∃ r:Bool,E=.returned (.bool r)∧(r=true↔∀ v,v<T→x v=y v)∧Below w.heap.size w w':=by
 unfold maxLen at hc2 hd2
 have HFA:=Lib.hid hF
 have HFB:=Lib.hid hF2
 clear hF hF2
 go_enter Tryz.func81,Tryz.ntmps81
 go_wp2_with fail
 go_loopw [5] (fun i wr=>∃ k:Nat,i=.int .i64 k∧k≤T∧Hid (∀ v,v<k→x v=y v)∧Hid (Below w.heap.size w wr)) (fun i wr=>T-(intOf i).toNat)
 case atStart=>exact ⟨0,rfl,Nat.zero_le _,fun v hv=>absurd hv (Nat.not_lt_zero _),Below.refl _ _⟩
 case round =>
  obtain ⟨k,rfl,hk,HE,HB⟩:=hrel
  by_cases hlt:k<T
  ·have hFr:=HFA.out.keep (HB.out.block F HFA.out.lt)
   have hF2r:=HFB.out.keep (HB.out.block F2 HFB.out.lt)
   have a0:=hFr.cell hlt
   have b0:=hF2r.cell hlt
   clear hFr hF2r
   have HSAME:Hid (x k=y k→Hid (∀ v,v<k+1→x v=y v)):=fun he v hv=>by
    by_cases hvk:v=k
    ·subst hvk;exact he
    ·exact HE.out v (by omega)
   have HNE:Hid (x k≠y k→¬ ∀ v,v<T→x v=y v):=fun he h=>he (h k hlt)
   cases hxk:x k <;> cases hyk:y k
   all_goals
    rw [hxk] at a0
    rw [hyk] at b0
    have HXK:=Lib.hid hxk
    have HYK:=Lib.hid hyk
    clear hxk hyk HE
    go_wp2_with fail
    go_quiet (fail)
    go_wp2_with fail
   ·refine ⟨⟨k+1,by simp,by omega,HSAME.out (by rw [HXK.out,HYK.out]),below_drewN _ HB.out⟩,?_⟩
    simp only [intOf]
    omega
   ·go_ret
    exact ⟨false,rfl,⟨fun h=>(by cases h),fun h=>absurd h (HNE.out (by rw [HXK.out,HYK.out];decide))⟩,below_drewN _ HB.out⟩
   ·go_ret
    exact ⟨false,rfl,⟨fun h=>(by cases h),fun h=>absurd h (HNE.out (by rw [HXK.out,HYK.out];decide))⟩,below_drewN _ HB.out⟩
   ·refine ⟨⟨k+1,by simp,by omega,HSAME.out (by rw [HXK.out,HYK.out]),below_drewN _ HB.out⟩,?_⟩
    simp only [intOf]
    omega
  ·have hke:k=T:=by omega
   subst hke
   go_wp2_with fail
   go_ret
   exact ⟨true,rfl,⟨fun _=>HE.out,fun _=>rfl⟩,HB.out⟩
structure FwM (R S n T:Nat) (w1 wr:World) (seen:Nat→Bool) (o:Nat→Nat→Bool):Prop where
 rows:∃ cur,wr.heap[R]?=some (.cells cur 72 (0,0))∧cur.size=n∧∀ k,k<n→(seen k=false∧cur[k]?=some (.slice none 0 0))∨(seen k=true∧∃ F c,cur[k]?=some (.slice (some ⟨F,0,none⟩) T c)∧T≤c∧c≤maxLen∧F≠S∧FlW wr F T (o k))
 flags:FlAt wr S n seen
 rfrom:w1.heap.size≤R
 sfrom:w1.heap.size≤S
 below:Below w1.heap.size w1 wr
theorem FwM.carry {R S n T:Nat} {w1 wr w':World} {seen:Nat→Bool} {o:Nat→Nat→Bool} (h:FwM R S n T w1 wr seen o) (hb:Below w1.heap.size w1 w') (hk:∀ (k:Nat) (cs:Array Value) (t:TypeId),wr.heap[k]?=some (Obj.cells cs t (0,0))→(t=4∨t=72)→w'.heap[k]?=wr.heap[k]?):FwM R S n T w1 w' seen o:=by
 obtain ⟨cur,r1,r2,r3⟩:=h.rows
 obtain ⟨cs,s1,s2,s3⟩:=id h.flags
 refine ⟨⟨cur,(hk R _ _ r1 (.inr rfl)).trans r1,r2,fun k hk'=>?_⟩,⟨cs,(hk S _ _ s1 (.inl rfl)).trans s1,s2,s3⟩,h.rfrom,h.sfrom,hb⟩
 rcases r3 k hk' with h1 | ⟨h1,F,c,h2,h3,h4,h5,h6⟩
 ·exact .inl h1
 ·obtain ⟨fs,f1,f2,f3⟩:=id h6
  exact .inr ⟨h1,F,c,h2,h3,h4,h5,fs,(hk F _ _ f1 (.inl rfl)).trans f1,f2,f3⟩
theorem FwM.keep {R S n T:Nat} {w1 wr w':World} {seen:Nat→Bool} {o:Nat→Nat→Bool} (h:FwM R S n T w1 wr seen o) (hb:Below wr.heap.size wr w'):FwM R S n T w1 w' seen o :=
 h.carry (h.below.trans (hb.mono h.below.size)) fun k cs t hc _=>hb.block k (heap_lt hc)
theorem FwM.queue {R S n T B:Nat} {w1 wr w':World} {seen:Nat→Bool} {o:Nat→Nat→Bool} {v:Value} {W:List Nat} (h:FwM R S n T w1 wr seen o) (hq:QRow wr B v W) (hB:w1.heap.size≤B) (hg:wr.grownBy w' v.ownBlock):FwM R S n T w1 w' seen o:=by
 obtain ⟨g,off,cap,cur,h1,h2,h3,h4⟩:=hq
 subst h1
 refine h.carry (h.below.grown hg h.below.size fun k hk=>?_) fun k cs t hc ht=>hg.block k (heap_lt hc) fun e=>?_
 ·have e:g=k:=by simpa [Value.ownBlock] using hk
  omega
 ·have e':k=g:=by simpa [Value.ownBlock] using e
  rw [e',h3] at hc
  simp at hc
  rcases ht with rfl | rfl
  ·exact absurd hc.2 (by decide)
  ·exact absurd hc.2 (by decide)
theorem FlW.queue {w w':World} {B F T:Nat} {fl:Nat→Bool} {v:Value} {W:List Nat} (h:FlW w F T fl) (hq:QRow w B v W) (hg:w.grownBy w' v.ownBlock):FlW w' F T fl:=by
 obtain ⟨g,off,cap,cur,h1,h2,h3,h4⟩:=hq
 subst h1
 obtain ⟨cs,c1,c2⟩:=h
 refine ⟨cs,(hg.block F (heap_lt c1) fun e=>?_).trans c1,c2⟩
 have e':F=g:=by simpa [Value.ownBlock] using e
 rw [e',h3] at c1
 simp at c1
theorem FwM.put {R S n T G c b:Nat} {w1 wr:World} {seen:Nat→Bool} {o:Nat→Nat→Bool} {z:Nat→Bool} (h:FwM R S n T w1 wr seen o) (hb:b<n) (hG:FlW wr G T z) (hGS:G≠S) (hc1:T≤c) (hc2:c≤maxLen) :
  FwM R S n T w1 ((wr.setCell ⟨S,b,none⟩ (.bool true)).setCell ⟨R,b,none⟩ (.slice (some ⟨G,0,none⟩) T c)) (setR seen b true) (setR o b z):=by
 obtain ⟨cur,r1,r2,r3⟩:=h.rows
 have hRS:R≠S:=fun e=>by
  obtain ⟨cs,s1,_⟩:=id h.flags
  rw [← e,r1] at s1
  simp at s1
 have hot:∀ F fl,FlW wr F T fl→F≠S→FlW ((wr.setCell ⟨S,b,none⟩ (.bool true)).setCell ⟨R,b,none⟩ (.slice (some ⟨G,0,none⟩) T c)) F T fl:=fun F fl hF hne=>by
  refine (hF.keep (heap_setCell_other _ _ _ _ (fun e=>hne e))).keep (heap_setCell_other _ _ _ _ (fun e=>?_))
  obtain ⟨fs,f1,_⟩:=hF
  have e':F=R:=e
  rw [e',r1] at f1
  simp at f1
 have hR1:(wr.setCell ⟨S,b,none⟩ (.bool true)).heap[R]?=some (.cells cur 72 (0,0)):=(heap_setCell_other _ _ _ _ (fun e=>hRS e)).trans r1
 refine ⟨⟨_,heap_setCell_same _ R b cur _ _ hR1,by simpa using r2,fun k hk=>?_⟩,?_,h.rfrom,h.sfrom,below_set (below_set h.below h.sfrom) h.rfrom⟩
 ·rw [Array.getElem?_setIfInBounds]
  by_cases hkb:k=b
  ·subst hkb
   rw [if_pos rfl,if_pos (by omega),setR_at,setR_at]
   exact .inr ⟨rfl,G,c,rfl,hc1,hc2,hGS,hot G z hG hGS⟩
  ·rw [if_neg (fun e=>hkb e.symm),setR_ne _ _ _ hkb,setR_ne _ _ _ hkb]
   rcases r3 k hk with h1 | ⟨h1,F,c',h2,h3,h4,h5,h6⟩
   ·exact .inl h1
   ·exact .inr ⟨h1,F,c',h2,h3,h4,h5,hot F _ h6 h5⟩
 ·exact FlAt.keep (h.flags.put hb) (heap_setCell_other _ _ _ _ (fun e=>hRS (show R=S from Eq.symm e)))
def isB (neg:Bool):Option Value→Bool
 | some (.bool b)=>b==neg
 | _=>false
def rowOff (neg:Bool) (w:World) (T:Nat):Option Value→Nat
 | some (.slice (some a) _ _)=>((List.range T).filter fun j=>isB neg (w.cell? ⟨a.block,j,none⟩)).length
 | _=>0
def fwOff (neg:Bool) (R S n T:Nat) (w:World):Nat:=sumTo (fun i=>if isB true (w.cell? ⟨S,i,none⟩) then rowOff neg w T (w.cell? ⟨R,i,none⟩) else T+1) n
theorem FwM.off {R S n T:Nat} {w1 wr:World} {seen:Nat→Bool} {o:Nat→Nat→Bool} (h:FwM R S n T w1 wr seen o) (neg:Bool):fwOff neg R S n T wr=sumTo (fun i=>wtR neg T (seen i) (o i)) n:=by
 obtain ⟨cur,r1,r2,r3⟩:=h.rows
 unfold fwOff
 refine sumTo_congr fun i hi=>?_
 rw [h.flags.cell hi,cB r1]
 unfold wtR
 rcases r3 i hi with ⟨h1,h2⟩ | ⟨h1,F,c,h2,h3,h4,h5,h6⟩
 ·rw [h1]
  simp [isB]
 ·rw [h1,h2]
  simp only [isB,beq_self_eq_true,if_true,rowOff]
  unfold offR
  congr 1
  apply List.filter_congr
  intro v hv
  rw [h6.cell (List.mem_range.mp hv)]
theorem l3After_any (ts:List Int) (At:Option Addr) (ct:Nat) (d:Nd) (u:Value) (F c:Nat) (fl:Nat→Bool) (w:World) (ht6:ts.length≤6) (hT:IntsV w 0 w.heap.size ts At ct) (hF:FlW w F ts.length fl) (hc1:ts.length≤c) (hc2:c≤maxLen) (hset:setI d<0∨∃ v:Nat,setI d=(v:Int)∧v<ts.length) :
  Calls Tryz.prog 48 #[.slice At ts.length ct,.agg #[.int .i64 d.op,.int .i64 d.x,.int .i64 d.y,.int .i64 d.n,u],.slice (some ⟨F,0,none⟩) ts.length c] w
   fun E w'=>∃ G cap,E=.returned (.slice (some ⟨G,0,none⟩) ts.length cap)∧ts.length≤cap∧cap≤maxLen∧w.heap.size≤G∧FlW w' G ts.length (behindR ts d fl)∧Below w.heap.size w w':=by
 have hb0:=(Below.refl w.heap.size w).alloc (Nat.le_refl _) (.cells #[.int .i64 d.op,.int .i64 d.x,.int .i64 d.y,.int .i64 d.n,u] 75)
 have hz0:(w.alloc (.cells #[.int .i64 d.op,.int .i64 d.x,.int .i64 d.y,.int .i64 d.n,u] 75)).heap.size=w.heap.size+1:=by simp
 have hB0:=heap_alloc_new w (.cells #[.int .i64 d.op,.int .i64 d.x,.int .i64 d.y,.int .i64 d.n,u] 75)
 have hbl:=hb0.alloc (by omega) (.cells #[] 4)
 have hL0:=heap_alloc_new (w.alloc (.cells #[.int .i64 d.op,.int .i64 d.x,.int .i64 d.y,.int .i64 d.n,u] 75)) (.cells #[] 4)
 have hB1:=(((Below.refl _ _).alloc (Nat.le_refl _) (.cells #[] 4):Below (w.alloc (.cells #[.int .i64 d.op,.int .i64 d.x,.int .i64 d.y,.int .i64 d.n,u] 75)).heap.size (w.alloc (.cells #[.int .i64 d.op,.int .i64 d.x,.int .i64 d.y,.int .i64 d.n,u] 75)) _).block w.heap.size (by omega)).trans hB0
 have hz1:((w.alloc (.cells #[.int .i64 d.op,.int .i64 d.x,.int .i64 d.y,.int .i64 d.n,u] 75)).alloc (.cells #[] 4)).heap.size=w.heap.size+2:=by simp
 rw [hz0] at hL0
 have hF1:=hF.keep (hbl.block F hF.lt)
 have hu:∀ W:World,Below w.heap.size w W→∀ v:Nat,v<ts.length→Calls Tryz.prog 73 #[.slice At ts.length ct,.agg #[.int .i64 d.op,.int .i64 d.x,.int .i64 d.y,.int .i64 d.n,u],.int .i64 v] W fun E w'=>E=.returned (.int .i64 (useI ts d v))∧Below W.heap.size W w':=fun W hW v hv=>l3Use_any ts At ct d.op d.x d.y d.n d.next u v W hv (hT.below hW hW.size)
 have hs:∀ W:World,Calls Tryz.prog 77 #[.agg #[.int .i64 d.op,.int .i64 d.x,.int .i64 d.y,.int .i64 d.n,u]] W fun E w'=>E=.returned (.int .i64 (setI d))∧Below W.heap.size W w':=fun W=>l3Set_any d.op d.x d.y d.n d.next u W
 have HU:=Lib.hid hu
 have HS:=Lib.hid hs
 have HL0:=Lib.hid hL0
 have HB1:=Lib.hid hB1
 have HF1:=Lib.hid hF1
 have HBL:=Lib.hid hbl
 have HZ1:=Lib.hid hz1
 have HSET:=Lib.hid hset
 unfold maxLen at hc2
 clear hu hs hL0 hB1 hF1 hbl hz1 hz0 hB0 hb0 hT hF hset
 go_enter Tryz.func48,Tryz.ntmps48
 go_wp2_with (at_builtin;refine wpList_append_flags rfl _ _ rfl (w.heap.size+1) F c ts.length fl rfl HL0.out rfl HF1.out (by omega) ?_)
 intro G cap w1 hG hcap hcm hGl hgr
 have hbw:Below w.heap.size w w1:=HBL.out.grown hgr (by rw [HZ1.out];omega) (fun k hk=>by cases hk)
 have hX:=(hgr.block w.heap.size (by rw [HZ1.out];omega) (by simp)).trans HB1.out
 have hw1s:w.heap.size+1<w1.heap.size:=by
  have:=hgr.size
  rw [HZ1.out] at this
  omega
 have HX:=Lib.hid hX
 have HG:=Lib.hid hG
 have HBW:=Lib.hid hbw
 have hcm2:=hcm
 unfold maxLen at hcm2
 clear hgr hX hG hbw
 go_wp2_with fail
 go_loopw [8] (fun i wr=>∃ k:Nat,i=.int .i64 k∧k≤ts.length∧Hid (FlW wr G ts.length (fun v=>fl v && !(decide (v<k) && decide (useI ts d v=2))))∧Hid (Below (w.heap.size+1) w1 wr)) (fun i wr=>ts.length-(intOf i).toNat)
 case atStart=>exact ⟨0,rfl,Nat.zero_le _,Lib.hid (HG.out.congr (fun i _=>by simp)),Lib.hid (Below.refl _ _)⟩
 case round =>
  clear HG
  obtain ⟨k,rfl,hk,HG,HB⟩:=hrel
  have hbs:=HB.out.size
  have hXr:=(HB.out.block w.heap.size (by omega)).trans HX.out
  have q0:wr.cell? ⟨w.heap.size,0,none⟩=some (.int .i64 d.op):=(cB hXr 0).trans rfl
  have q1:wr.cell? ⟨w.heap.size,1,none⟩=some (.int .i64 d.x):=(cB hXr 1).trans rfl
  have q2:wr.cell? ⟨w.heap.size,2,none⟩=some (.int .i64 d.y):=(cB hXr 2).trans rfl
  have q3:wr.cell? ⟨w.heap.size,3,none⟩=some (.int .i64 d.n):=(cB hXr 3).trans rfl
  have q4:wr.cell? ⟨w.heap.size,4,none⟩=some u:=(cB hXr 4).trans rfl
  have hbwr:Below w.heap.size w wr:=HBW.out.trans (HB.out.mono (by omega))
  clear hXr
  by_cases hlt:k<ts.length
  ·have hu:=HU.out wr hbwr k hlt
   obtain ⟨U,hU⟩:∃ U,useI ts d k=U:=⟨_,rfl⟩
   rw [hU] at hu
   have HUE:=Lib.hid hU
   clear hU
   go_wp2_with fail
   refine hu.mono ?_
   rintro E w3 ⟨rfl,hb3⟩
   have HB3:Hid (Below (w.heap.size+1) w1 w3):=HB.out.trans (hb3.mono (by omega))
   have hGr:=HG.out.keep (hb3.block G HG.out.lt)
   have sG:=hGr.soft k
   have cG:=hGr.cell hlt
   by_cases h2:U=2
   ·subst h2
    have hG2:=hGr.put hlt false
    have HG2:Hid (FlW (w3.setCell ⟨G,k,none⟩ (.bool false)) G ts.length (fun v=>fl v && !(decide (v<k+1) && decide (useI ts d v=2)))):=hG2.congr (fun i _=>by
     unfold setR
     by_cases hik:i=k
     ·subst hik
      rw [if_pos rfl,HUE.out]
      simp
     ·rw [if_neg hik]
      congr 2
      congr 1
      exact decide_eq_decide.mpr (by omega))
    have HB4:Hid (Below (w.heap.size+1) w1 (w3.setCell ⟨G,k,none⟩ (.bool false))):=below_set HB3.out hGl
    clear hu hb3 hGr hG2 HB HG q0 q1 q2 q3 q4 HB3
    go_wp2_with fail
    refine ⟨⟨k+1,by simp,by omega,HG2,HB4⟩,?_⟩
    simp only [intOf]
    omega
   ·have hd2:decide (U=2)=false:=decide_eq_false h2
    have HG2:Hid (FlW w3 G ts.length (fun v=>fl v && !(decide (v<k+1) && decide (useI ts d v=2)))):=hGr.congr (fun i _=>by
     by_cases hik:i=k
     ·subst hik
      rw [HUE.out,hd2]
      simp
     ·congr 2
      congr 1
      exact decide_eq_decide.mpr (by omega))
    clear hu hb3 hGr HB HG q0 q1 q2 q3 q4 sG cG
    go_wp2_with fail
    refine ⟨⟨k+1,by simp,by omega,HG2,HB3⟩,?_⟩
    simp only [intOf]
    omega
  ·have hke:k=ts.length:=by omega
   subst hke
   have hs:=HS.out wr
   go_wp2_with fail
   refine hs.mono ?_
   rintro E w3 ⟨rfl,hb3⟩
   have hbw3:Below w.heap.size w w3:=hbwr.trans (hb3.mono (by omega))
   have hGr:=HG.out.keep (hb3.block G HG.out.lt)
   rcases HSET.out with hn | ⟨v,hv,hvt⟩
   ·have hge:decide (0≤setI d)=false:=decide_eq_false (by omega)
    have hfin:FlW w3 G ts.length (behindR ts d fl):=hGr.congr (fun i hi=>by
     unfold behindR
     have e:decide (setI d=(i:Int))=false:=decide_eq_false (by omega)
     rw [e,decide_eq_true hi]
     simp)
    have HFIN:=Lib.hid hfin
    clear hs hb3 hGr hfin HG HB
    go_wp2_with fail
    go_ret
    exact ⟨G,cap,rfl,hcap,hcm,by omega,HFIN.out,hbw3⟩
   ·rw [hv]
    have sG:=hGr.soft v
    have cG:=hGr.cell hvt
    have hG2:=hGr.put hvt true
    have hfin:FlW (w3.setCell ⟨G,v,none⟩ (.bool true)) G ts.length (behindR ts d fl):=hG2.congr (fun i hi=>by
     unfold behindR setR
     show _=if i=v then true else (fl i && !(decide (i<ts.length) && decide (useI ts d i=2)))
     rw [decide_eq_true hi,hv]
     by_cases hiv:i=v
     ·subst hiv
      simp
     ·rw [if_neg hiv]
      have e:decide ((v:Int)=(i:Int))=false:=decide_eq_false (by omega)
      rw [e]
      simp)
    have HFIN:=Lib.hid hfin
    have HB4:Hid (Below w.heap.size w (w3.setCell ⟨G,v,none⟩ (.bool true))):=below_set hbw3 (by omega)
    clear hs hb3 hGr hfin HG HB hG2 hv
    go_wp2_with fail
    go_ret
    exact ⟨G,cap,rfl,hcap,hcm,by omega,HFIN.out,HB4.out⟩
def FwPost (ts:List Int) (ns:List Nd) (all:Bool) (Bq:Nat→Prop) (Gq Kq:Nat→Nat→Prop) (w:World) (E:Ending) (w':World):Prop :=
 ∃ R S seen o,E=.returned (.slice (some ⟨R,0,none⟩) ns.length ns.length)∧FwM R S ns.length ts.length w w' seen o∧(∀ k,k<ns.length→seen k=true)∧∀ k v,k<ns.length→v<ts.length→(db all (o k) v↔Flo (eN ns) 0 Bq Gq Kq k v)
theorem FwM.base {R S n T:Nat} {w w1 wr:World} {seen:Nat→Bool} {o:Nat→Nat→Bool} (h:FwM R S n T w1 wr seen o) (hb:Below w.heap.size w w1):FwM R S n T w wr seen o :=
 ⟨h.rows,h.flags,Nat.le_trans hb.size h.rfrom,Nat.le_trans hb.size h.sfrom,hb.trans (h.below.mono hb.size)⟩
theorem FwM.start (n T:Nat) (w1:World):FwM w1.heap.size (w1.alloc (.cells (madeCells #[.slice none 0 0] n) 72)).heap.size n T w1 ((w1.alloc (.cells (madeCells #[.slice none 0 0] n) 72)).alloc (.cells (madeCells #[.bool false] n) 4)) (fun _=>false) (fun _ _=>false):=by
 have hz:(w1.alloc (.cells (madeCells #[.slice none 0 0] n) 72)).heap.size=w1.heap.size+1:=by simp
 have hb:Below w1.heap.size w1 (w1.alloc (.cells (madeCells #[.slice none 0 0] n) 72)):=(Below.refl _ _).alloc (Nat.le_refl _) _
 have hb2:Below (w1.alloc (.cells (madeCells #[.slice none 0 0] n) 72)).heap.size (w1.alloc (.cells (madeCells #[.slice none 0 0] n) 72)) ((w1.alloc (.cells (madeCells #[.slice none 0 0] n) 72)).alloc (.cells (madeCells #[.bool false] n) 4)):=(Below.refl _ _).alloc (Nat.le_refl _) _
 refine ⟨⟨_,(hb2.block w1.heap.size (by omega)).trans (heap_alloc_new w1 _),by simp [madeCells],fun k hk=>.inl ⟨rfl,by simp [madeCells,hk,Nat.mod_one]⟩⟩,FlAt.made _ n,Nat.le_refl _,by omega,hb.trans (hb2.mono (by omega))⟩
theorem FwM.put2 {R S n T G c b:Nat} {w1 wr:World} {seen:Nat→Bool} {o:Nat→Nat→Bool} {z:Nat→Bool} (h:FwM R S n T w1 wr seen o) (hb:b<n) (hG:FlW wr G T z) (hGS:G≠S) (hc1:T≤c) (hc2:c≤maxLen) :
  FwM R S n T w1 ((wr.setCell ⟨R,b,none⟩ (.slice (some ⟨G,0,none⟩) T c)).setCell ⟨S,b,none⟩ (.bool true)) (setR seen b true) (setR o b z):=by
 obtain ⟨cur,r1,r2,r3⟩:=h.rows
 have hRS:R≠S:=fun e=>by
  obtain ⟨cs,s1,_⟩:=id h.flags
  rw [← e,r1] at s1
  simp at s1
 have hot:∀ F fl,FlW wr F T fl→F≠S→FlW ((wr.setCell ⟨R,b,none⟩ (.slice (some ⟨G,0,none⟩) T c)).setCell ⟨S,b,none⟩ (.bool true)) F T fl:=fun F fl hF hne=>by
  refine (hF.keep (heap_setCell_other _ _ _ _ (fun e=>?_))).keep (heap_setCell_other _ _ _ _ (fun e=>hne e))
  obtain ⟨fs,f1,_⟩:=hF
  have e':F=R:=e
  rw [e',r1] at f1
  simp at f1
 refine ⟨⟨_,(heap_setCell_other _ _ _ _ (fun e=>hRS e)).trans (heap_setCell_same wr R b cur _ _ r1),by simpa using r2,fun k hk=>?_⟩,?_,h.rfrom,h.sfrom,below_set (below_set h.below h.rfrom) h.sfrom⟩
 ·rw [Array.getElem?_setIfInBounds]
  by_cases hkb:k=b
  ·subst hkb
   rw [if_pos rfl,if_pos (by omega),setR_at,setR_at]
   exact .inr ⟨rfl,G,c,rfl,hc1,hc2,hGS,hot G z hG hGS⟩
  ·rw [if_neg (fun e=>hkb e.symm),setR_ne _ _ _ hkb,setR_ne _ _ _ hkb]
   rcases r3 k hk with h1 | ⟨h1,F,c',h2,h3,h4,h5,h6⟩
   ·exact .inl h1
   ·exact .inr ⟨h1,F,c',h2,h3,h4,h5,hot F _ h6 h5⟩
 ·have h9:=FlAt.keep (w':=wr.setCell ⟨R,b,none⟩ (.slice (some ⟨G,0,none⟩) T c)) h.flags (heap_setCell_other _ _ _ _ (fun e=>hRS (show R=S from Eq.symm e)))
  exact h9.put hb
theorem FwM.rowCell {R S n T:Nat} {w1 wr:World} {seen:Nat→Bool} {o:Nat→Nat→Bool} (h:FwM R S n T w1 wr seen o) {k:Nat} (hk:k<n):∃ v,wr.cell? ⟨R,k,none⟩=some v∧wr.frozen? ⟨R,k,none⟩=false∧v.oneCell'=true∧((seen k=false∧v=.slice none 0 0)∨(seen k=true∧∃ F c,v=.slice (some ⟨F,0,none⟩) T c∧T≤c∧c≤maxLen∧F≠S∧FlW wr F T (o k))):=by
 obtain ⟨cur,r1,r2,r3⟩:=h.rows
 rcases r3 k hk with ⟨h1,h2⟩ | ⟨h1,F,c,h2,h3⟩
 ·exact ⟨_,(cB r1 k).trans h2,frozen_of_row _ _ _ _ _ r1,rfl,.inl ⟨h1,rfl⟩⟩
 ·exact ⟨_,(cB r1 k).trans h2,frozen_of_row _ _ _ _ _ r1,rfl,.inr ⟨h1,F,c,rfl,h3⟩⟩
theorem FwM.apart {R S n T:Nat} {w1 wr:World} {seen:Nat→Bool} {o:Nat→Nat→Bool} (h:FwM R S n T w1 wr seen o):R≠S:=fun e=>by
 obtain ⟨cur,r1,_⟩:=h.rows
 obtain ⟨cs,s1,_⟩:=id h.flags
 rw [← e,r1] at s1
 simp at s1
theorem NextV.cellAt {w:World} {B:Nat} {u:Value} {next:List Int} (h:NextV w B u next) {x:Nat} (hx:x<next.length):∃ g,u=.slice (some ⟨g,0,none⟩) next.length next.length∧∀ v,next[x]?=some v→w.cell? ⟨g,x,none⟩=some (.int .i64 v):=by
 rcases h with ⟨h1,_⟩ | ⟨g,h1,_,h3⟩
 ·rw [h1] at hx
  exact absurd hx (Nat.not_lt_zero _)
 ·refine ⟨g,h1,fun v hv=>?_⟩
  rw [cB h3]
  simp [hv]
theorem FwdAt.lessD {e:Nat→Nat→Prop} {f0:Nat} {B:Nat→Prop} {G K:Nat→Nat→Prop} {n T:Nat} {neg:Bool} {seen:Nat→Bool} {out:Nat→Nat→Bool} {W:List Nat} {a:Nat} {x0 y:Nat→Bool} {D D':Nat→Prop} (h:FwdAt e f0 B G K n T neg seen out W a x0 y D) (hD:∀ m,D' m→D m):FwdAt e f0 B G K n T neg seen out W a x0 y D' :=
 ⟨h.sound,h.beg,h.behind,h.old,h.here,fun k hk hs hw m hm hd=>h.next k hk hs hw m hm (fun e'=>hD m (hd e')),h.waits⟩
theorem sumTo_leC (f:Nat→Nat) (c:Nat):∀ n,(∀ i,f i≤c)→sumTo f n≤n*c
 | 0,_=>Nat.zero_le _
 | n+1,h=>by
  have h1:=sumTo_leC f c n h
  have h2:=h n
  unfold sumTo
  rw [Nat.succ_mul]
  omega
theorem cell_set_other {w:World} {b o b2 o2:Nat} {v:Value} (h:b2≠b):(w.setCell ⟨b,o,none⟩ v).cell? ⟨b2,o2,none⟩=w.cell? ⟨b2,o2,none⟩ :=
 World.cell?_of_block (a:=⟨b2,o2,none⟩) (heap_setCell_other _ _ _ _ (fun e=>h e))
theorem frozen_two {w:World} {b o b2 o2:Nat} {v:Value} {cur:Array Value} {t:TypeId} (h:w.heap[b2]?=some (.cells cur t (0,0))) (hne:b2≠b):(w.setCell ⟨b,o,none⟩ v).frozen? ⟨b2,o2,none⟩=false :=
 frozen_of_row _ _ _ _ _ ((heap_setCell_other _ _ _ _ (fun e=>hne e)).trans h)
theorem flW_two {w:World} {F T S R b:Nat} {fl:Nat→Bool} {x y:Value} {cur:Array Value} (h:FlW w F T fl) (hS:F≠S) (hR:w.heap[R]?=some (.cells cur 72 (0,0))):FlW ((w.setCell ⟨S,b,none⟩ x).setCell ⟨R,b,none⟩ y) F T fl:=by
 refine (h.keep (heap_setCell_other _ _ _ _ (fun e=>hS e))).keep (heap_setCell_other _ _ _ _ (fun e=>?_))
 obtain ⟨fs,f1,_⟩:=h
 have e':F=R:=e
 rw [e',hR] at f1
 simp at f1
theorem held_7 {K:Nat} {w1 wo w':World} {a0 a1 a2 a3 a4 a5 a6:Addr} {b0 b1 b2 b3 b4 b5 b6:Value} (hb:Below wo.heap.size wo w') (h:Below K w1 wo) (hK:K=w1.heap.size)
  (h0:a0.block<w1.heap.size) (h1:a1.block<w1.heap.size) (h2:a2.block<w1.heap.size) (h3:a3.block<w1.heap.size) (h4:a4.block<w1.heap.size) (h5:a5.block<w1.heap.size) (h6:a6.block<w1.heap.size)
  (q0:w1.cell? a0=some b0) (q1:w1.cell? a1=some b1) (q2:w1.cell? a2=some b2) (q3:w1.cell? a3=some b3) (q4:w1.cell? a4=some b4) (q5:w1.cell? a5=some b5) (q6:w1.cell? a6=some b6) :
  Below K w1 w'∧w'.cell? a0=some b0∧w'.cell? a1=some b1∧w'.cell? a2=some b2∧w'.cell? a3=some b3∧w'.cell? a4=some b4∧w'.cell? a5=some b5∧w'.cell? a6=some b6:=by
 subst hK
 have hbb:Below w1.heap.size w1 w':=h.trans (hb.mono h.size)
 exact ⟨hbb,(hbb.cell h0).trans q0,(hbb.cell h1).trans q1,(hbb.cell h2).trans q2,(hbb.cell h3).trans q3,(hbb.cell h4).trans q4,(hbb.cell h5).trans q5,(hbb.cell h6).trans q6⟩
theorem fwdIn_start (ns:List Nd) (all:Bool) (Bq:Nat→Prop) (Gq Kq:Nat→Nat→Prop) (T:Nat) (hn:0<ns.length) (hst:∀ v,db all (fun _=>false) v↔Bq v) :
  FwdIn (eN ns) 0 Bq Gq Kq ns.length T all (setR (fun _=>false) 0 true) (setR (fun _ _=>false) 0 (fun _=>false)) [0]:=by
 refine ⟨fun m hm hs v hv hd=>?_,⟨setR_at _ _ _,fun v hv hB=>?_⟩,fun k hk hs hw=>?_,fun k hk=>?_⟩
 ·by_cases hm0:m=0
  ·subst hm0
   rw [setR_at] at hd
   exact .start ((hst v).mp hd)
  ·rw [setR_ne _ _ _ hm0] at hs
   cases hs
 ·rw [setR_at]
  exact (hst v).mpr hB
 ·exfalso
  have hk0:k≠0:=fun e=>hw (by rw [e];simp)
  rw [setR_ne _ _ _ hk0] at hs
  cases hs
 ·simp only [List.mem_cons,List.not_mem_nil,or_false] at hk
  subst hk
  exact ⟨hn,setR_at _ _ _⟩
theorem l3Forward_any (ts:List Int) (s:Sts) (At As:Option Addr) (ct cs:Nat) (all:Bool) (Bq:Nat→Prop) (Gq Kq:Nat→Nat→Prop) (w:World) (h1:validB ts s=true) (hT:IntsV w 0 w.heap.size ts At ct) (hR:RepV w 0 w.heap.size s As cs)
  (hbeh:∀ (k:Nat) (d:Nd) (r:Nat→Bool) (v:Nat),(progPts s)[k]?=some d→(db all (behindR ts d r) v↔Gq k v∨(db all r v∧¬ Kq k v))) (hst:∀ v,db all (fun _=>false) v↔Bq v) :
  Calls Tryz.prog 47 #[.agg #[.slice At ts.length ct,.slice As s.len cs],.bool all] w (FwPost ts (progPts s) all Bq Gq Kq w):=by
 have hb0:=(Below.refl w.heap.size w).alloc (Nat.le_refl _) (.cells #[.slice At ts.length ct,.slice As s.len cs] 30)
 have hz0:(w.alloc (.cells #[.slice At ts.length ct,.slice As s.len cs] 30)).heap.size=w.heap.size+1:=by simp
 have hB0:=heap_alloc_new w (.cells #[.slice At ts.length ct,.slice As s.len cs] 30)
 have h30:=valid_size h1
 have hAT:=progPts_allTyped h1
 have ht6:=hAT.1
 have hD:=progPts_ok s (valid_ok h1).2.1
 have hLD:=progPts_leads h1
 have hle:(progPts s).length≤61:=by
  have:=s.npts_le
  rw [progPts_len]
  omega
 have hn0:0<(progPts s).length:=by
  rw [progPts_len]
  omega
 have hlp:=l2Points_any ts s At As ct cs _ (by omega) (hR.below hb0 (by simp))
 generalize progPts s=ds at hlp hD hle hn0 hbeh hAT hLD ⊢
 generalize s.npts=q at hD
 have HZ:=Lib.hid hz0
 have HB:=Lib.hid hB0
 have HD:=Lib.hid hD
 have HT:=Lib.hid hT
 have HBEH:=Lib.hid hbeh
 have HST0:=Lib.hid hst
 have HAT:=Lib.hid hAT
 have HLD:=Lib.hid hLD
 have hTm:=hT.2.1
 have hTl:=hT.1
 unfold maxLen at hTm
 clear h1 hz0 hB0 hD hT hR hbeh hst hAT hLD
 go_enter Tryz.func47,Tryz.ntmps47
 go_wp2_with fail
 refine hlp.mono ?_
 rintro E w1 ⟨v,rfl,hP,hb1⟩
 rw [HZ.out] at hP hb1
 have hs1:=hb1.size
 rw [HZ.out] at hs1
 have hbw:Below w.heap.size w w1:=hb0.trans (hb1.mono (by omega))
 obtain ⟨g,cap,hv,hgB,hgl,hgc,hgm⟩:=hP.form hn0
 subst hv
 unfold maxLen at hgm
 have hB1:=(hb1.block w.heap.size (by omega)).trans HB.out
 have p0:w1.cell? ⟨w.heap.size,0,none⟩=some (.slice At ts.length ct):=(cB hB1 0).trans rfl
 have HP:=Lib.hid hP
 have hm1:=run_make_row' (P:=Tryz.prog) 65 72 (.slice none 0 0) 24 Tryz.underlying65 Tryz.infoBools rfl .i64 .i64 ds.length (by omega) (by omega) w1
 have hfs:=FwM.start ds.length ts.length w1
 have hza:(w1.alloc (.cells (madeCells #[.slice none 0 0] ds.length) 72)).heap.size=w1.heap.size+1:=by simp
 generalize w1.alloc (.cells (madeCells #[.slice none 0 0] ds.length) 72)=wa at hm1 hfs hza
 have hm2:=run_make_row' (P:=Tryz.prog) 72 4 (.bool false) 1 Tryz.underlying72 Tryz.infoBool rfl .i64 .i64 ds.length (by omega) (by omega) wa
 have hzb:(wa.alloc (.cells (madeCells #[.bool false] ds.length) 4)).heap.size=wa.heap.size+1:=by simp
 generalize wa.alloc (.cells (madeCells #[.bool false] ds.length) 4)=wb at hm2 hfs hzb
 have hm3:=run_make_row' (P:=Tryz.prog) 72 4 (.bool false) 1 Tryz.underlying72 Tryz.infoBool rfl .i64 .i64 ts.length (by omega) (by omega) wb
 have hF0:=(FlAt.made wb ts.length).wide
 have hbc:=(Below.refl wb.heap.size wb).alloc (Nat.le_refl _) (.cells (madeCells #[.bool false] ts.length) 4)
 generalize wb.alloc (.cells (madeCells #[.bool false] ts.length) 4)=wc at hm3 hF0 hbc
 have hfc:=hfs.keep hbc
 have hbB:=hfs.below
 have p1:wb.cell? ⟨w.heap.size,0,none⟩=some (.slice At ts.length ct):=(hbB.cell (by simp;omega)).trans p0
 obtain ⟨r0,c1,f1,-,hr0⟩:=hfc.rowCell hn0
 have hr0':r0=.slice none 0 0:=by
  rcases hr0 with ⟨_,h⟩ | ⟨h,_⟩
  ·exact h
  ·cases h
 subst hr0'
 have c2:(wc.setCell ⟨w1.heap.size,0,none⟩ (.slice (some ⟨wb.heap.size,0,none⟩) ts.length ts.length)).cell? ⟨wa.heap.size,0,none⟩=some (.bool false):=((hfc.flags.keep (heap_setCell_other _ _ _ _ (fun e=>hfc.apart (show w1.heap.size=wa.heap.size from Eq.symm e)))).cell hn0)
 have f2:(wc.setCell ⟨w1.heap.size,0,none⟩ (.slice (some ⟨wb.heap.size,0,none⟩) ts.length ts.length)).frozen? ⟨wa.heap.size,0,none⟩=false:=((hfc.flags.keep (heap_setCell_other _ _ _ _ (fun e=>hfc.apart (show w1.heap.size=wa.heap.size from Eq.symm e)))).soft 0)
 have hput:=hfc.put2 (z:=fun _=>false) (c:=ts.length) hn0 hF0 (by omega) (Nat.le_refl _) (by unfold maxLen;omega)
 have HPUT:=Lib.hid hput
 have hRfrom:=hfc.rfrom
 have hSfrom:=hfc.sfrom
 have HP0:=Lib.hid p0
 have hwcR:=hfc.below.size
 have HZA:=Lib.hid hza
 have HZB:=Lib.hid hzb
 clear hP hb1 hlp hB1 hfs hput hfc hF0 hbc hbB hr0 p0 hza hzb
 generalize hRe:w1.heap.size=R at *
 generalize hSe:wa.heap.size=S at *
 go_wp2_with fail
 clear c1 f1 c2 f2 p1
 have hsz:((wc.setCell ⟨R,0,none⟩ (.slice (some ⟨wb.heap.size,0,none⟩) ts.length ts.length)).setCell ⟨S,0,none⟩ (.bool true)).heap.size=wc.heap.size:=by simp [World.setCell]
 generalize (wc.setCell ⟨R,0,none⟩ (.slice (some ⟨wb.heap.size,0,none⟩) ts.length ts.length)).setCell ⟨S,0,none⟩ (.bool true)=wS at *
 have HST:Hid (∃ (W:List Nat) (g2 off c2:Nat) (seen:Nat→Bool) (o:Nat→Nat→Bool),Value.slice (some ⟨wc.heap.size,0,none⟩) 1 1=.slice (some ⟨g2,off,none⟩) W.length c2∧W.length≤500∧Hid (QRow (wS.alloc (.cells #[.int .i64 0] 3)) R (.slice (some ⟨g2,off,none⟩) W.length c2) W)∧Hid (FwM R S ds.length ts.length w1 (wS.alloc (.cells #[.int .i64 0] 3)) seen o)∧Hid (FwdIn (eN ds) 0 Bq Gq Kq ds.length ts.length all seen o W)∧Hid (W.length+fwOff all R S ds.length ts.length (wS.alloc (.cells #[.int .i64 0] 3))≤500)):=by
  have hM:=HPUT.out.keep ((Below.refl wS.heap.size wS).alloc (Nat.le_refl _) (.cells #[.int .i64 0] 3))
  refine ⟨[0],wc.heap.size,0,1,_,_,rfl,by simp,⟨wc.heap.size,0,1,#[.int .i64 0],rfl,hwcR,by rw [← hsz];exact heap_alloc_new _ _,Nat.le_refl _,Nat.le_refl _,by unfold maxLen;omega,fun i x hx=>?_⟩,hM,fwdIn_start ds all Bq Gq Kq ts.length hn0 HST0.out,?_⟩
  ·cases i with
   | zero=>simp at hx;subst hx;rfl
   | succ i=>simp at hx
  ·rw [hM.off all]
   have h9:=sumTo_leC (fun i=>wtR all ts.length (setR (fun _=>false) 0 true i) (setR (fun _ _=>false) 0 (fun _=>false) i)) 7 ds.length (fun i=>by
    have:=offR_le all (setR (fun _ _=>false) 0 (fun _=>false) i) ts.length
    unfold wtR
    split <;> omega)
   exact Nat.le_trans (Nat.add_le_add_left h9 1) (by omega)
 clear hsz hwcR HPUT
 generalize wS.alloc (.cells #[.int .i64 0] 3)=wL at *
 go_loopw [8] (fun wk wr=>∃ (W:List Nat) (g2 off c2:Nat) (seen:Nat→Bool) (o:Nat→Nat→Bool),wk=.slice (some ⟨g2,off,none⟩) W.length c2∧W.length≤500∧Hid (QRow wr R (.slice (some ⟨g2,off,none⟩) W.length c2) W)∧Hid (FwM R S ds.length ts.length w1 wr seen o)∧Hid (FwdIn (eN ds) 0 Bq Gq Kq ds.length ts.length all seen o W)∧Hid (W.length+fwOff all R S ds.length ts.length wr≤500)) (fun wk wr=>lenW wk+2*fwOff all R S ds.length ts.length wr)
 case atStart=>exact HST
 case round =>
  clear HST
  obtain ⟨W,g2,off,c2,seen,o,rfl,hW5,HQ,HM,HI,HN⟩:=hrel
  have hbe:=HM.out.below
  have hbez:=hbe.size
  cases W with
  | nil =>
   have hS:=FwdIn.all HI.out rfl HLD.out
   have hfin:FwPost ts ds all Bq Gq Kq w (.returned (.slice (some ⟨R,0,none⟩) ds.length ds.length)) wr:=⟨R,S,seen,o,rfl,HM.out.base hbw,hS,fun k v hk hv=>FwdIn.last HI.out (fun a b hab=>by
    rcases Nat.lt_or_ge a ds.length with h9 | h9
    ·exact h9
    ·exfalso
     have hab':b∈nextN ds a:=hab
     unfold nextN nextP at hab'
     rw [List.getElem?_eq_none h9] at hab'
     simp at hab') hS hk hv⟩
   have HFIN:=Lib.hid hfin
   clear hfin hS HQ HM HI HN hbe
   go_wp2_with fail
   go_ret
   exact HFIN.out
  | cons a V =>
   rw [List.length_cons] at hW5
   obtain ⟨hc1,hc2,hqa,hqt⟩:=QRow.tail HQ.out
   unfold maxLen at hc2
   have hsl:=slice_tail g2 off V.length c2 hc1
   obtain ⟨g3,off3,h3⟩:∃ g3 off3,(if c2=1 then (⟨g2,off,none⟩:Addr) else ⟨g2,off+1,none⟩)=⟨g3,off3,none⟩:=by
    by_cases h:c2=1
    ·exact ⟨g2,off,by rw [if_pos h]⟩
    ·exact ⟨g2,off+1,by rw [if_neg h]⟩
   simp only [h3] at hsl hqt
   clear h3
   obtain ⟨han,hsa⟩:=HI.out.waits a (by simp)
   obtain ⟨d,hd⟩:∃ d,ds[a]?=some d:=⟨ds[a],List.getElem?_eq_getElem han⟩
   obtain ⟨ra,ra1,-,-,hra⟩:=HM.out.rowCell han
   obtain ⟨Fa,ca,hrae,hca1,hca2,hFaS,hFa⟩:∃ F c,ra=.slice (some ⟨F,0,none⟩) ts.length c∧ts.length≤c∧c≤maxLen∧F≠S∧FlW wr F ts.length (o a):=by
    rcases hra with ⟨h9,_⟩ | ⟨_,h9⟩
    ·rw [hsa] at h9;cases h9
    ·exact h9
   subst hrae
   obtain ⟨ua,⟨q0,q1,q2,q3,q4⟩,hua⟩:=(HP.out.below (by rw [hRe];exact hRe ▸ hbe)).cells hd
   have p1:wr.cell? ⟨w.heap.size,0,none⟩=some (.slice At ts.length ct):=(hbe.cell (by show w.heap.size<_;omega)).trans HP0.out
   have hset:setI d<0∨∃ v:Nat,setI d=(v:Int)∧v<ts.length:=by
    by_cases h9:setI d<0
    ·exact .inl h9
    ·refine .inr ⟨(setI d).toNat,by omega,?_⟩
     have h10:=typed_set (HAT.out.2 a d hd) (setI d) (by omega) rfl
     omega
   have haf:∀ W:World,Below wr.heap.size wr W→Calls Tryz.prog 48 #[.slice At ts.length ct,.agg #[.int .i64 d.op,.int .i64 d.x,.int .i64 d.y,.int .i64 d.n,ua],.slice (some ⟨Fa,0,none⟩) ts.length ca] W
     fun E w'=>∃ G cap,E=.returned (.slice (some ⟨G,0,none⟩) ts.length cap)∧ts.length≤cap∧cap≤maxLen∧wr.heap.size≤G∧FlW w' G ts.length (behindR ts d (o a))∧Below W.heap.size W w':=fun W hW =>
    (l3After_any ts At ct d ua Fa ca (o a) W ht6 (HT.out.below (hbw.trans ((hbe.trans (hW.mono hbez)).mono (by omega))) (by have:=hW.size;omega)) (hFa.keep (hW.block Fa hFa.lt)) hca1 hca2 hset).mono fun E w' h=>by
     obtain ⟨G,cap,h1,h2,h3,h4,h5,h6⟩:=h
     exact ⟨G,cap,h1,h2,h3,Nat.le_trans hW.size h4,h5,h6⟩
   have htwo:=nextN_two HD.out hd
   have hint:=nextN_ints HD.out hd
   have hIA:=HI.out.take (fun v hv=>HBEH.out a d (o a) v hd)
   obtain ⟨M,hM⟩:∃ M,M=V.length+2*fwOff all R S ds.length ts.length wr:=⟨_,rfl⟩
   have HAF:=Lib.hid haf
   have HDA:=Lib.hid hd
   have HINT:=Lib.hid hint
   have HQT:=Lib.hid hqt
   have HIA:=Lib.hid hIA
   have HMM:=Lib.hid hM
   have hSl:S<wr.heap.size:=HM.out.flags.lt
   have hl0:(⟨w.heap.size,0,none⟩:Addr).block<wr.heap.size:=by simp;omega
   have hl1:g<wr.heap.size:=by omega
   have hl2:R<wr.heap.size:=by
    obtain ⟨cur,r1,_⟩:=HM.out.rows
    exact heap_lt r1
   clear hra hset haf hd hint hqt hIA hM hFa hua HQ HI hbe hsa
   go_wp2_with fail
   go_region_held3 (fun w'=>Below wr.heap.size wr w'∧w'.cell? ⟨w.heap.size,0,none⟩=some (.slice At ts.length ct)∧w'.cell? ⟨g,a*5,none⟩=some (.int .i64 d.op)∧w'.cell? ⟨g,a*5+1,none⟩=some (.int .i64 d.x)∧w'.cell? ⟨g,a*5+2,none⟩=some (.int .i64 d.y)∧w'.cell? ⟨g,a*5+3,none⟩=some (.int .i64 d.n)∧w'.cell? ⟨g,a*5+4,none⟩=some ua∧w'.cell? ⟨R,a,none⟩=some (.slice (some ⟨Fa,0,none⟩) ts.length ca))
    (first | exact ⟨(Below.refl wr.heap.size wr).drew,p1,q0,q1,q2,q3,q4,ra1⟩ | exact held_7 hbn (And.left ‹Below wr.heap.size wr _∧_›) rfl hl0 hl1 hl1 hl1 hl1 hl1 hl2 p1 q0 q1 q2 q3 q4 ra1)
    (first | (go_at_call 48;refine (HAF.out _ (And.left ‹Below wr.heap.size wr _∧_›)).mono ?_;rintro E w' ⟨G1,cp1,rfl,hG1a,hG1b,hG1c,hG1f,hbn⟩))
   obtain ⟨hbl,-⟩:=‹Below wr.heap.size wr _∧_›
   obtain ⟨x0,hx0⟩:∃ x0,x0=o a:=⟨_,rfl⟩
   rw [← hx0] at hG1f HIA
   have hMb:=HM.out.keep hbl
   have HMb:=Lib.hid hMb
   have HQb:=Lib.hid (HQT.out.below hbl)
   have hfo:fwOff all R S ds.length ts.length _=fwOff all R S ds.length ts.length wr:=(hMb.off all).trans (HM.out.off all).symm
   have HFO:=Lib.hid hfo
   have HG1:=Lib.hid hG1f
   have hG1S:G1≠S:=by omega
   have HIA2:=Lib.hid (HIA.out.lessD (D':=fun m=>∃ y,y<0∧d.next[y]?=some (m:Int)) (fun m hm=>by obtain ⟨y,hy,_⟩:=hm;exact absurd hy (Nat.not_lt_zero _)))
   unfold maxLen at hG1b
   clear hbl hMb hfo hG1f HIA hx0 HAF p1 q0 q1 q2 q3 q4 ra1 hsl HM HQT
   go_wp2_with fail
   go_loopw [8,11] (fun wk i wr=>∃ (j:Nat) (W:List Nat) (g2 off c2:Nat) (seen:Nat→Bool) (o:Nat→Nat→Bool),wk=.slice (some ⟨g2,off,none⟩) W.length c2∧i=.int .i64 j∧j≤d.next.length∧W.length≤500∧Hid (QRow wr R (.slice (some ⟨g2,off,none⟩) W.length c2) W)∧Hid (FwM R S ds.length ts.length w1 wr seen o)∧Hid (FwdAt (eN ds) 0 Bq Gq Kq ds.length ts.length all seen o W a x0 (behindR ts d x0) (fun m=>∃ y,y<j∧d.next[y]?=some (m:Int)))∧Hid (FlW wr G1 ts.length (behindR ts d x0))∧Hid (W.length+fwOff all R S ds.length ts.length wr≤500)∧Hid (W.length+2*fwOff all R S ds.length ts.length wr≤M)) (fun wk i wr=>d.next.length-(intOf i).toNat)
   case atStart=>exact ⟨0,V,g3,off3,c2-1,seen,o,rfl,rfl,Nat.zero_le _,by omega,HQb,HMb,HIA2,HG1,Lib.hid (by rw [HFO.out];have h9:=HN.out;rw [List.length_cons] at h9;omega),Lib.hid (by rw [HFO.out,HMM.out];exact Nat.le_refl _)⟩
   case round =>
    clear HQb HMb HIA2 HG1 HFO HN hW5 hc1 hc2 hqa
    rename_i wy
    obtain ⟨j,W,g2,off,c2,seen,o,rfl,rfl,hj,hW5,HQ5,HM,HAT5,HF,HN5,HK5⟩:=hrel
    have hbe:=HM.out.below
    have hbez:=hbe.size
    obtain ⟨un,⟨-,-,-,-,a4⟩,hun⟩:=(HP.out.below (by rw [hRe];exact hRe ▸ hbe)).cells HDA.out
    have hrow:=NextV.row hun htwo
    by_cases hjl:j<d.next.length
    ·obtain ⟨b0,hsb,hcell⟩:=hun.cellAt hjl
     subst hsb
     obtain ⟨b,hbx⟩:∃ b:Nat,d.next[j]?=some (b:Int):=by
      obtain ⟨u0,hu0⟩:∃ u0,d.next[j]?=some u0:=⟨d.next[j],List.getElem?_eq_getElem hjl⟩
      have hm:u0∈d.next:=List.mem_of_getElem? hu0
      rw [← HINT.out.1] at hm
      obtain ⟨b,hb,e3⟩:=List.mem_map.mp hm
      exact ⟨b,by rw [hu0,← e3]⟩
     have hcb:=hcell _ hbx
     clear hcell
     have hbn:b<ds.length:=by
      have hm:(b:Int)∈d.next:=List.mem_of_getElem? hbx
      rw [← HINT.out.1] at hm
      obtain ⟨b',hb',e3⟩:=List.mem_map.mp hm
      have h8:=HINT.out.2 b' hb'
      have h9:(b':Int)=(b:Int):=e3
      omega
     have hedge:b∈nextN ds a:=(mem_nextN HD.out hle _ _).mpr ⟨d,j,HDA.out,hbx,.inl (by omega)⟩
     have HBX:=Lib.hid hbx
     have HED:=Lib.hid hedge
     obtain ⟨rb,rb1,-,-,hrb⟩:=HM.out.rowCell hbn
     have cS:=HM.out.flags.cell hbn
     clear hrow hun hbx hedge hbe
     rcases hrb with ⟨hsb,rfl⟩ | ⟨hsb,Fb,cb,rfl,hcb1,hcb2,hFbS,hFb⟩
     ·rw [hsb] at cS
      have hjo:=l3Join_nil ts.length G1 cp1 (behindR ts d x0) all wr ht6 HF.out hG1a (by unfold maxLen;omega)
      have HSB:=Lib.hid hsb
      clear hsb
      go_wp2_with fail
      refine hjo.mono ?_
      rintro E w5 ⟨Gz,cz,rfl,hcz1,hcz2,hGzc,hFz,hb5⟩
      have HM5:=Lib.hid (HM.out.keep hb5)
      have hq5:=HQ5.out.below hb5
      have HF5:=Lib.hid (HF.out.keep (hb5.block G1 HF.out.lt))
      have hO5:fwOff all R S ds.length ts.length w5=fwOff all R S ds.length ts.length wr:=(HM5.out.off all).trans (HM.out.off all).symm
      have HN5:Hid (W.length+fwOff all R S ds.length ts.length w5≤500):=by rw [hO5];exact HN5.out
      have HK5:Hid (W.length+2*fwOff all R S ds.length ts.length w5≤M):=by rw [hO5];exact HK5.out
      have hSl:=HM.out.flags.lt
      have hGzS:Gz≠S:=by omega
      have cS5:w5.cell? ⟨S,b,none⟩=some (.bool false):=by
       have h9:=HM5.out.flags.cell hbn
       rw [HSB.out] at h9
       exact h9
      clear hjo hb5 hO5 HM HQ5 HF rb1 hcb a4 cS
      have hput:=HM5.out.put (z:=(behindR ts d x0)) (c:=cz) hbn hFz hGzS hcz1 hcz2
      have sS:=HM5.out.flags.soft b
      obtain ⟨rv,rv1,rv2,-,-⟩:=HM5.out.rowCell hbn
      have rc:(w5.setCell ⟨S,b,none⟩ (.bool true)).cell? ⟨R,b,none⟩=some rv:=(cell_set_other (fun e=>HM5.out.apart e)).trans rv1
      have rf:(w5.setCell ⟨S,b,none⟩ (.bool true)).frozen? ⟨R,b,none⟩=false:=frozen_two (Classical.choose_spec HM5.out.rows).1 (fun e=>HM5.out.apart e)
      have hoff:=wtR_more (neg:=all) (T:=ts.length) (n:=ds.length) (seen:=seen) (out:=o) (y:=behindR ts d x0) (z:=(behindR ts d x0)) hbn (.inr ⟨HSB.out,fun v hv=>rfl⟩)
      rw [← HM5.out.off all,← hput.off all] at hoff
      have hq6:=((hq5.other (b:=S) (o:=b) (x:=.bool true) (Classical.choose_spec HM5.out.flags).1 (by decide)).other (b:=R) (o:=b) (x:=.slice (some ⟨Gz,0,none⟩) ts.length cz) ((heap_setCell_other _ _ _ _ (fun e=>HM5.out.apart e)).trans (Classical.choose_spec HM5.out.rows).1) (by decide))
      have hAT6:=HAT5.out.more (b:=b) (z:=(behindR ts d x0)) (D':=fun m=>∃ y,y<j+1∧d.next[y]?=some (m:Int)) hbn HED.out (.inr ⟨HSB.out,fun v hv=>rfl⟩) (fun m hm=>by
       obtain ⟨y,hy,hym⟩:=hm
       by_cases hyj:y=j
       ·subst hyj
        rw [HBX.out] at hym
        injection hym with hym
        exact .inr (by omega)
       ·exact .inl ⟨y,by omega,hym⟩)
      have hF6:FlW ((w5.setCell ⟨S,b,none⟩ (.bool true)).setCell ⟨R,b,none⟩ (.slice (some ⟨Gz,0,none⟩) ts.length cz)) G1 ts.length (behindR ts d x0):=flW_two HF5.out hG1S (Classical.choose_spec HM5.out.rows).1
      have HPUT:=Lib.hid hput
      have HQ6:=Lib.hid hq6
      have HAT6:=Lib.hid hAT6
      have HF6:=Lib.hid hF6
      have HOFF:=Lib.hid hoff
      have hs6:((w5.setCell ⟨S,b,none⟩ (.bool true)).setCell ⟨R,b,none⟩ (.slice (some ⟨Gz,0,none⟩) ts.length cz)).heap.size=w5.heap.size:=by simp [World.setCell]
      have hR5:R≤w5.heap.size:=hRe ▸ HM5.out.below.size
      have HS6:=Lib.hid hs6
      clear hput hq5 hq6 hAT6 hF6 hoff hs6 rv1 rv2 hFz
      go_wp2_with (at_builtin;refine wpList_append_queue rfl _ _ rfl R _ _ (by rfl) (HQ6.out.below ((Below.refl _ _).alloc (Nat.le_refl _) _)) _ _ b (by rfl) ?pq1 (by omega) ?pr1 ?_)
      try (case pq1=>first | exact (cB (heap_alloc_new _ _) 0).trans rfl | exact (cB (by rw [← HS6.out];exact heap_alloc_new _ _) 0).trans rfl)
      try (case pr1=>simp [World.setCell];omega)
      intro v7 w7 hq7 hg7
      have hkb:Below ((w5.setCell ⟨S,b,none⟩ (.bool true)).setCell ⟨R,b,none⟩ (.slice (some ⟨Gz,0,none⟩) ts.length cz)).heap.size ((w5.setCell ⟨S,b,none⟩ (.bool true)).setCell ⟨R,b,none⟩ (.slice (some ⟨Gz,0,none⟩) ts.length cz)) (((w5.setCell ⟨S,b,none⟩ (.bool true)).setCell ⟨R,b,none⟩ (.slice (some ⟨Gz,0,none⟩) ts.length cz)).alloc (.cells #[.int .i64 (b:Int)] 3)):=(Below.refl _ _).alloc (Nat.le_refl _) _
      have hM7:=(HPUT.out.keep hkb).queue (HQ6.out.below hkb) (Nat.le_of_eq hRe) hg7
      have hF7:=(HF6.out.keep (hkb.block G1 HF6.out.lt)).queue (HQ6.out.below hkb) hg7
      have ho7:fwOff all R S ds.length ts.length w7=fwOff all R S ds.length ts.length ((w5.setCell ⟨S,b,none⟩ (.bool true)).setCell ⟨R,b,none⟩ (.slice (some ⟨Gz,0,none⟩) ts.length cz)):=(hM7.off all).trans (HPUT.out.off all).symm
      have HQ7:=Lib.hid hq7
      have HM7:=Lib.hid hM7
      have HF7:=Lib.hid hF7
      have HO7:=Lib.hid ho7
      clear hq7 hg7 hkb hM7 hF7 ho7
      go_wp2_with fail
      obtain ⟨g8,off8,c8,cur8,hv8,hq8⟩:=id HQ7.out
      have h5a:=HN5.out
      have h5b:=HK5.out
      have h5c:=HOFF.out
      have h5d:=HO7.out
      have hl8:(W++[b]).length=W.length+1:=by simp
      refine ⟨⟨j+1,W++[b],g8,off8,c8,_,_,hv8,by simp,by omega,by omega,Lib.hid (by rw [← hv8];exact HQ7.out),HM7,HAT6,HF7,Lib.hid (by rw [hl8,h5d];omega),Lib.hid (by rw [hl8,h5d];omega)⟩,?_⟩
      simp only [intOf]
      omega
     ·rw [hsb] at cS
      have hjo:=l3Join_two ts.length G1 cp1 Fb cb (o b) (behindR ts d x0) all wr ht6 HF.out hFb hG1a (by unfold maxLen;omega) hcb1 hcb2
      have HSB:=Lib.hid hsb
      clear hsb
      go_wp2_with fail
      refine hjo.mono ?_
      rintro E w5 ⟨Gz,cz,rfl,hcz1,hcz2,hGzc,hFz,hb5⟩
      have HM5:=Lib.hid (HM.out.keep hb5)
      have hq5:=HQ5.out.below hb5
      have HF5:=Lib.hid (HF.out.keep (hb5.block G1 HF.out.lt))
      have hO5:fwOff all R S ds.length ts.length w5=fwOff all R S ds.length ts.length wr:=(HM5.out.off all).trans (HM.out.off all).symm
      have HN5:Hid (W.length+fwOff all R S ds.length ts.length w5≤500):=by rw [hO5];exact HN5.out
      have HK5:Hid (W.length+2*fwOff all R S ds.length ts.length w5≤M):=by rw [hO5];exact HK5.out
      have hSl:=HM.out.flags.lt
      have hGzS:Gz≠S:=by omega
      have cS5:w5.cell? ⟨S,b,none⟩=some (.bool true):=by
       have h9:=HM5.out.flags.cell hbn
       rw [HSB.out] at h9
       exact h9
      have rb5:w5.cell? ⟨R,b,none⟩=some (.slice (some ⟨Fb,0,none⟩) ts.length cb):=(hb5.cell (show R<wr.heap.size from (by obtain ⟨cur,r1,_⟩:=HM.out.rows;exact heap_lt r1))).trans rb1
      have hFb5:=hFb.keep (hb5.block Fb hFb.lt)
      have heq:=l3Equal_any ts.length Fb cb Gz cz (o b) (jr all (o b) (behindR ts d x0)) w5 ht6 hFb5 hFz hcb1 hcb2 hcz1 hcz2
      clear hjo hb5 hO5 HM HQ5 HF rb1 hcb a4 cS hFb hFb5
      go_wp2_with fail
      refine heq.mono ?_
      rintro E w6 ⟨r,rfl,hr,hb6⟩
      have HM6:=Lib.hid (HM5.out.keep hb6)
      have hq6':=hq5.below hb6
      have HF6':=Lib.hid (HF5.out.keep (hb6.block G1 HF5.out.lt))
      have hFz6:=hFz.keep (hb6.block Gz hFz.lt)
      have hO6:fwOff all R S ds.length ts.length w6=fwOff all R S ds.length ts.length w5:=(HM6.out.off all).trans (HM5.out.off all).symm
      have HN6:Hid (W.length+fwOff all R S ds.length ts.length w6≤500):=by rw [hO6];exact HN5.out
      have HK6:Hid (W.length+2*fwOff all R S ds.length ts.length w6≤M):=by rw [hO6];exact HK5.out
      have cS6:w6.cell? ⟨S,b,none⟩=some (.bool true):=by
       have h9:=HM6.out.flags.cell hbn
       rw [HSB.out] at h9
       exact h9
      clear heq hb6 hO6 HM5 hq5 HF5 hFz HN5 HK5 cS5 rb5
      cases r
      ·have HDIFF:Hid (∃ v,v<ts.length∧o b v≠jr all (o b) (behindR ts d x0) v):=by
        refine Classical.byContradiction fun h=>?_
        have h9:false=true:=hr.mpr fun v hv=>Classical.byContradiction fun h8=>h ⟨v,hv,h8⟩
        cases h9
       clear hr
       have hput:=HM6.out.put (z:=(jr all (o b) (behindR ts d x0))) (c:=cz) hbn hFz6 hGzS hcz1 hcz2
       have sS:=HM6.out.flags.soft b
       obtain ⟨rv,rv1,rv2,-,-⟩:=HM6.out.rowCell hbn
       have rc:(w6.setCell ⟨S,b,none⟩ (.bool true)).cell? ⟨R,b,none⟩=some rv:=(cell_set_other (fun e=>HM6.out.apart e)).trans rv1
       have rf:(w6.setCell ⟨S,b,none⟩ (.bool true)).frozen? ⟨R,b,none⟩=false:=frozen_two (Classical.choose_spec HM6.out.rows).1 (fun e=>HM6.out.apart e)
       have hoff:=wtR_more (neg:=all) (T:=ts.length) (n:=ds.length) (seen:=seen) (out:=o) (y:=behindR ts d x0) (z:=(jr all (o b) (behindR ts d x0))) hbn (.inl ⟨HSB.out,fun v hv=>rfl,HDIFF.out⟩)
       rw [← HM6.out.off all,← hput.off all] at hoff
       have hq6:=((hq6'.other (b:=S) (o:=b) (x:=.bool true) (Classical.choose_spec HM6.out.flags).1 (by decide)).other (b:=R) (o:=b) (x:=.slice (some ⟨Gz,0,none⟩) ts.length cz) ((heap_setCell_other _ _ _ _ (fun e=>HM6.out.apart e)).trans (Classical.choose_spec HM6.out.rows).1) (by decide))
       have hAT6:=HAT5.out.more (b:=b) (z:=(jr all (o b) (behindR ts d x0))) (D':=fun m=>∃ y,y<j+1∧d.next[y]?=some (m:Int)) hbn HED.out (.inl ⟨HSB.out,fun v hv=>rfl⟩) (fun m hm=>by
        obtain ⟨y,hy,hym⟩:=hm
        by_cases hyj:y=j
        ·subst hyj
         rw [HBX.out] at hym
         injection hym with hym
         exact .inr (by omega)
        ·exact .inl ⟨y,by omega,hym⟩)
       have hF6:FlW ((w6.setCell ⟨S,b,none⟩ (.bool true)).setCell ⟨R,b,none⟩ (.slice (some ⟨Gz,0,none⟩) ts.length cz)) G1 ts.length (behindR ts d x0):=flW_two HF6'.out hG1S (Classical.choose_spec HM6.out.rows).1
       have HPUT:=Lib.hid hput
       have HQ6:=Lib.hid hq6
       have HAT6:=Lib.hid hAT6
       have HF6:=Lib.hid hF6
       have HOFF:=Lib.hid hoff
       have hs6:((w6.setCell ⟨S,b,none⟩ (.bool true)).setCell ⟨R,b,none⟩ (.slice (some ⟨Gz,0,none⟩) ts.length cz)).heap.size=w6.heap.size:=by simp [World.setCell]
       have hR5:R≤w6.heap.size:=hRe ▸ HM6.out.below.size
       have HS6:=Lib.hid hs6
       clear hput hq6' hq6 hAT6 hF6 hoff hs6 rv1 rv2 hFz6
       go_wp2_with (at_builtin;refine wpList_append_queue rfl _ _ rfl R _ _ (by rfl) (HQ6.out.below ((Below.refl _ _).alloc (Nat.le_refl _) _)) _ _ b (by rfl) ?pq2 (by omega) ?pr2 ?_)
       try (case pq2=>first | exact (cB (heap_alloc_new _ _) 0).trans rfl | exact (cB (by rw [← HS6.out];exact heap_alloc_new _ _) 0).trans rfl)
       try (case pr2=>simp [World.setCell];omega)
       intro v7 w7 hq7 hg7
       have hkb:Below ((w6.setCell ⟨S,b,none⟩ (.bool true)).setCell ⟨R,b,none⟩ (.slice (some ⟨Gz,0,none⟩) ts.length cz)).heap.size ((w6.setCell ⟨S,b,none⟩ (.bool true)).setCell ⟨R,b,none⟩ (.slice (some ⟨Gz,0,none⟩) ts.length cz)) (((w6.setCell ⟨S,b,none⟩ (.bool true)).setCell ⟨R,b,none⟩ (.slice (some ⟨Gz,0,none⟩) ts.length cz)).alloc (.cells #[.int .i64 (b:Int)] 3)):=(Below.refl _ _).alloc (Nat.le_refl _) _
       have hM7:=(HPUT.out.keep hkb).queue (HQ6.out.below hkb) (Nat.le_of_eq hRe) hg7
       have hF7:=(HF6.out.keep (hkb.block G1 HF6.out.lt)).queue (HQ6.out.below hkb) hg7
       have ho7:fwOff all R S ds.length ts.length w7=fwOff all R S ds.length ts.length ((w6.setCell ⟨S,b,none⟩ (.bool true)).setCell ⟨R,b,none⟩ (.slice (some ⟨Gz,0,none⟩) ts.length cz)):=(hM7.off all).trans (HPUT.out.off all).symm
       have HQ7:=Lib.hid hq7
       have HM7:=Lib.hid hM7
       have HF7:=Lib.hid hF7
       have HO7:=Lib.hid ho7
       clear hq7 hg7 hkb hM7 hF7 ho7
       go_wp2_with fail
       obtain ⟨g8,off8,c8,cur8,hv8,hq8⟩:=id HQ7.out
       have h5a:=HN6.out
       have h5b:=HK6.out
       have h5c:=HOFF.out
       have h5d:=HO7.out
       have hl8:(W++[b]).length=W.length+1:=by simp
       refine ⟨⟨j+1,W++[b],g8,off8,c8,_,_,hv8,by simp,by omega,by omega,Lib.hid (by rw [← hv8];exact HQ7.out),HM7,HAT6,HF7,Lib.hid (by rw [hl8,h5d];omega),Lib.hid (by rw [hl8,h5d];omega)⟩,?_⟩
       simp only [intOf]
       omega
      ·have HREQ:Hid (∀ v,v<ts.length→o b v=jr all (o b) (behindR ts d x0) v):=hr.mp rfl
       clear hr hFz6
       have hAT6:=HAT5.out.same (b:=b) (D':=fun m=>∃ y,y<j+1∧d.next[y]?=some (m:Int)) HSB.out HREQ.out (fun m hm=>by
        obtain ⟨y,hy,hym⟩:=hm
        by_cases hyj:y=j
        ·subst hyj
         rw [HBX.out] at hym
         injection hym with hym
         exact .inr (by omega)
        ·exact .inl ⟨y,by omega,hym⟩)
       have HAT6:=Lib.hid hAT6
       clear hAT6
       go_wp2_with fail
       refine ⟨⟨j+1,W,g2,off,c2,_,_,rfl,by simp,by omega,by omega,Lib.hid hq6',HM6,HAT6,HF6',HN6,HK6⟩,?_⟩
       simp only [intOf]
       omega
    ·obtain ⟨An,cn,hsn⟩:=hrow.slice
     subst hsn
     have hje:j=d.next.length:=by omega
     have HIN:Hid (FwdIn (eN ds) 0 Bq Gq Kq ds.length ts.length all seen o W):=HAT5.out.done (fun m hm=>by
      obtain ⟨d',i,e1,e2⟩:=(mem_nextN HD.out hle _ _).mp hm
      rw [HDA.out] at e1
      injection e1 with e1
      subst e1
      have:=(List.getElem?_eq_some_iff.mp e2.1).1
      exact ⟨i,by omega,e2.1⟩)
     have HJE:=Lib.hid hje
     clear hrow hun hje hbe HAT5 HF
     go_wp2_with fail
     refine ⟨⟨W,g2,off,c2,seen,o,rfl,hW5,HQ5,HM,HIN,HN5⟩,?_⟩
     have h8:=HK5.out
     have h9:=HMM.out
     simp only [lenW,List.length_cons]
     omega
end Go.Proofs.YtedkkphogeealaaGreatDoor
