/- Rows of flags in memory: while they are made,and while they are written. -/
import Derived.Test.YtedkkphogeealaaGreatDoorPL2Xa
import Derived.Test.YtedkkphogeealaaGreatDoorPBase
import Derived.Test.YtedkkphogeealaaGreatDoorPFlwG
import Derived.Test.YtedkkphogeealaaGreatDoorPMem
namespace Go.Proofs.YtedkkphogeealaaGreatDoor
open Go.RowKit Go.Deep
set_option linter.unusedVariables false
theorem Tryz.infoBools:(Tryz.prog.info? 72).map (fun i=>(i.zero,i.size,i.bytes))=some (some (.slice none 0 0),1,24):=by kernel_rfl
theorem FlAt.made (w:World) (n:Nat):FlAt (w.alloc (.cells (madeCells #[.bool false] n) 4)) w.heap.size n (fun _=>false):=by
 refine ⟨_,heap_alloc_new w _,by simp [madeCells],fun i hi=>?_⟩
 simp [madeCells,hi,Nat.mod_one]
def LvRows (w:World) (B:Nat) (v:Value) (n T:Nat) (bl:Nat→Nat):Prop :=
 ∃ xs,w.ownsRow B 72 1 v n xs∧(∀ k,k<n→xs[k]?=some (.slice (some ⟨bl k,0,none⟩) T T)∧B≤bl k∧FlAt w (bl k) T (fun _=>false))∧∀ j k,j<n→k<n→bl j=bl k→j=k
theorem LvRows.nil (w:World) (B T:Nat) (h:B≤w.heap.size):LvRows (w.alloc (.cells #[] 72)) B (.slice (some ⟨w.heap.size,0,none⟩) 0 0) 0 T (fun _=>0) :=
 ⟨[],World.ownsRow_lit (base:=B) (e:=72) (size:=1) w #[] 0 h (by simp [maxLen]) rfl,fun k hk=>absurd hk (Nat.not_lt_zero _),fun j k hj=>absurd hj (Nat.not_lt_zero _)⟩
theorem FlAt.not_row {w:World} {F n:Nat} {fl:Nat→Bool} (h:FlAt w F n fl) {v:Value} {B m:Nat} {xs:List Value} (ho:w.ownsRow B 72 1 v m xs):some F≠v.ownBlock:=by
 intro e
 obtain ⟨cs,h1,_⟩:=h
 rcases ho.2 with ⟨hv,_⟩ | ⟨g,cap,cur,hv,_,h3,_⟩
 ·rw [hv] at e;simp [Value.ownBlock] at e
 ·rw [hv] at e
  have e':F=g:=by simpa [Value.ownBlock] using e
  rw [← e'] at h3
  rw [h1] at h3
  simp at h3
theorem FlAt.lt {w:World} {F n:Nat} {fl:Nat→Bool} (h:FlAt w F n fl):F<w.heap.size:=by
 obtain ⟨cs,h1,_⟩:=h
 exact heap_lt h1
theorem LvRows.more {w w1 w2:World} {B g cap n T F:Nat} {v:Value} {bl:Nat→Nat} {xs:List Value} (ho:w.ownsRow B 72 1 v n xs) (h1:∀ k,k<n→xs[k]?=some (.slice (some ⟨bl k,0,none⟩) T T)∧B≤bl k∧FlAt w (bl k) T (fun _=>false)) (h2:∀ j k,j<n→k<n→bl j=bl k→j=k)
  (hb1:Below w.heap.size w w1) (hF:FlAt w1 F T (fun _=>false)) (hFn:w.heap.size≤F) (hFB:B≤F) (hg:w1.grownBy w2 v.ownBlock) (hvb:∀ k,v.ownBlock=some k→k<w.heap.size)
  (ho2:w2.ownsRow B 72 1 (.slice (some ⟨g,0,none⟩) (n+1) cap) (n+1) (xs++[.slice (some ⟨F,0,none⟩) T T])) :
  LvRows w2 B (.slice (some ⟨g,0,none⟩) (n+1) cap) (n+1) T (setR bl n F):=by
 have hl:xs.length=n:=by have:=ho.1;omega
 refine ⟨_,ho2,fun k hk=>?_,fun j k hj hk e=>?_⟩
 ·by_cases hkn:k=n
  ·subst hkn
   rw [setR_at]
   refine ⟨by rw [← hl];simp,hFB,hF.keep (hg.block _ hF.lt (fun e=>?_))⟩
   have:=hvb F e.symm
   omega
  ·rw [setR_ne _ _ _ hkn]
   obtain ⟨a1,a2,a3⟩:=h1 k (by omega)
   have hb3:=a3.keep (hb1.block _ a3.lt)
   refine ⟨by rw [List.getElem?_append_left (by omega)];exact a1,a2,hb3.keep (hg.block _ hb3.lt (a3.not_row ho))⟩
 ·by_cases hjn:j=n
  ·by_cases hkn:k=n
   ·omega
   ·subst hjn
    rw [setR_at,setR_ne _ _ _ hkn] at e
    have:=(h1 k (by omega)).2.2.lt
    omega
  ·by_cases hkn:k=n
   ·subst hkn
    rw [setR_at,setR_ne _ _ _ hjn] at e
    have:=(h1 j (by omega)).2.2.lt
    omega
   ·rw [setR_ne _ _ _ hjn,setR_ne _ _ _ hkn] at e
    exact h2 j k (by omega) (by omega) e
structure LvM (g:Nat) (bl:Nat→Nat) (n T:Nat) (w1 wr:World) (o:Nat→Nat→Bool):Prop where
 row:∃ cur,wr.heap[g]?=some (.cells cur 72 (0,0))∧∀ k,k<n→cur[k]?=some (.slice (some ⟨bl k,0,none⟩) T T)
 fl:∀ k,k<n→FlAt wr (bl k) T (o k)
 inj:∀ j k,j<n→k<n→bl j=bl k→j=k
 from_:∀ k,k<n→w1.heap.size≤bl k
 below:Below w1.heap.size w1 wr
theorem LvM.keep {g:Nat} {bl:Nat→Nat} {n T:Nat} {w1 wr w':World} {o:Nat→Nat→Bool} (h:LvM g bl n T w1 wr o) (hb:Below wr.heap.size wr w'):LvM g bl n T w1 w' o:=by
 obtain ⟨cur,r1,r2⟩:=h.row
 exact ⟨⟨cur,(hb.block g (heap_lt r1)).trans r1,r2⟩,fun k hk=>(h.fl k hk).keep (hb.block _ (h.fl k hk).lt),h.inj,h.from_,h.below.trans (hb.mono h.below.size)⟩
theorem LvM.cell {g:Nat} {bl:Nat→Nat} {n T:Nat} {w1 wr:World} {o:Nat→Nat→Bool} (h:LvM g bl n T w1 wr o) {k:Nat} (hk:k<n):wr.cell? ⟨g,k,none⟩=some (.slice (some ⟨bl k,0,none⟩) T T):=by
 obtain ⟨cur,r1,r2⟩:=h.row
 exact (cB r1 k).trans (r2 k hk)
theorem LvM.put {g:Nat} {bl:Nat→Nat} {n T:Nat} {w1 wr:World} {o:Nat→Nat→Bool} (h:LvM g bl n T w1 wr o) {k v:Nat} (hk:k<n) (hv:v<T):LvM g bl n T w1 (wr.setCell ⟨bl k,v,none⟩ (.bool true)) (setR o k (setR (o k) v true)):=by
 obtain ⟨cur,r1,r2⟩:=h.row
 refine ⟨⟨cur,(heap_setCell_other _ _ _ _ ?_).trans r1,r2⟩,fun j hj=>?_,h.inj,h.from_,below_set h.below (h.from_ k hk)⟩
 ·intro e
  obtain ⟨cs,c1,_⟩:=h.fl k hk
  have e':g=bl k:=e
  rw [e'] at r1
  rw [r1] at c1
  simp at c1
 ·by_cases hjk:j=k
  ·subst hjk
   rw [setR_at]
   exact (h.fl j hj).put hv
  ·rw [setR_ne _ _ _ hjk]
   exact (h.fl j hj).keep (heap_setCell_other _ _ _ _ (fun e=>hjk (h.inj j k hj hk e)))
theorem LvRows.open {w:World} {B:Nat} {v:Value} {n T:Nat} {bl:Nat→Nat} {w1:World} (h:LvRows w B v n T bl) (hn:0<n) (hB:w1.heap.size≤B) (hb:Below w1.heap.size w1 w):∃ g cap,v=.slice (some ⟨g,0,none⟩) n cap∧n≤cap∧cap≤maxLen∧LvM g bl n T w1 w (fun _ _=>false):=by
 obtain ⟨xs,ho,h1,h2⟩:=h
 rcases ho.2 with ⟨_,h0⟩ | ⟨g,cap,cur,hv,_,h3,h4,h5,h6,h7⟩
 ·omega
 ·refine ⟨g,cap,hv,h4,h5,⟨cur,h3,fun k hk=>?_⟩,fun k hk=>(h1 k hk).2.2,h2,fun k hk=>by have:=(h1 k hk).2.1;omega,hb⟩
  have:=(h1 k hk).1
  rw [← h7,List.getElem?_take,if_pos (by omega)] at this
  simpa using this
def lvOff (bl:Nat→Nat) (n T:Nat) (wr:World):Nat:=sumTo (fun i=>offs wr (bl i) T) n
theorem LvM.off {g:Nat} {bl:Nat→Nat} {n T:Nat} {w1 wr:World} {o:Nat→Nat→Bool} (h:LvM g bl n T w1 wr o):lvOff bl n T wr=offM o n T:=by
 unfold lvOff offM
 refine sumTo_congr fun i hi=>?_
 rw [(h.fl i hi).offs]
 unfold offR
 congr 1
 apply List.filter_congr
 intro v _
 cases o i v <;> rfl
end Go.Proofs.YtedkkphogeealaaGreatDoor
