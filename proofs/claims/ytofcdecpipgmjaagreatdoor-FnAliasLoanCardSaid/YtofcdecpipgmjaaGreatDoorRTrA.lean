/- Tables of flags in memory: a row of rows of flags;being made by append;a row that is wri -/
import Derived.Test.YtofcdecpipgmjaaGreatDoorRL4Ad
import Derived.Test.YtofcdecpipgmjaaGreatDoorRTrP
import Derived.Deep.AppendLies
import Derived.Test.YtofcdecpipgmjaaGreatDoorRPerG
import Derived.Laws.StructEq
namespace Go.Proofs.YtofcdecpipgmjaaGreatDoor
open Go.RowKit Go.Deep
set_option linter.unusedVariables false
theorem FlW.off {w:World} {F n F':Nat} {fl:Nat→Bool} {cur:Array Value} {ty:TypeId} {z:Nat × Nat} (h:FlW w F n fl) (h':w.heap[F']?=some (.cells cur ty z)) (ht:ty≠4):F'≠F:=by
 rintro rfl
 obtain ⟨cs,h1,_⟩:=h
 rw [h1] at h'
 injection h' with h'
 injection h' with _ h' _
 exact ht h'.symm
theorem FlW.off_row {w:World} {F n:Nat} {fl:Nat→Bool} (h:FlW w F n fl) {t:TypeId} {s:Nat} {v:Value} {B m:Nat} {xs:List Value} (ho:w.ownsRow B t s v m xs) (ht:t≠4):some F≠v.ownBlock:=by
 intro e
 obtain ⟨cs,h1,_⟩:=h
 obtain ⟨cur,hc⟩:=ownBlock_row ho F e.symm
 rw [h1] at hc
 injection hc with hc
 injection hc with _ hc _
 exact ht hc.symm
namespace tr
structure M4 where
 fa:Option Addr
 g:Nat
 cf:Nat
 bl:Nat→Nat
 cp:Nat→Nat
def M4.val (m:M4) (T:Nat):Value:=.slice m.fa T m.cf
structure S4 (w:World) (B T n:Nat) (m:M4) (S:Nat→Nat→Bool):Prop where
 fa:0<T→m.fa=some ⟨m.g,0,none⟩
 row:0<T→∃ cur,w.heap[m.g]?=some (.cells cur 65 (0,0))∧∀ v,v<T→cur[v]?=some (.slice (some ⟨m.bl v,0,none⟩) n (m.cp v))
 cf:T≤m.cf∧m.cf≤maxLen
 fl:∀ v,v<T→FlW w (m.bl v) n (S v)
 cp:∀ v,v<T→n≤m.cp v∧m.cp v≤maxLen
 inj:∀ u v,u<T→v<T→m.bl u=m.bl v→u=v
 own:∀ v,v<T→B≤m.bl v
 og:0<T→B≤m.g
section
variable {w w':World} {B T n:Nat} {m:M4} {S:Nat→Nat→Bool}
theorem S4.keep (h:S4 w B T n m S) (hb:Below w.heap.size w w'):S4 w' B T n m S :=
 ⟨h.fa,fun h0=>by
  obtain ⟨cur,h1,h2⟩:=h.row h0
  exact ⟨cur,(hb.block _ (heap_lt h1)).trans h1,h2⟩,h.cf,fun v hv=>(h.fl v hv).keep (hb.block _ (h.fl v hv).lt),h.cp,h.inj,h.own,h.og⟩
theorem S4.carry (h:S4 w B T n m S) (hk:∀ (k:Nat) (cs:Array Value) (t:TypeId),w.heap[k]?=some (Obj.cells cs t (0,0))→(t=4∨t=65)→w'.heap[k]?=w.heap[k]?):S4 w' B T n m S :=
 ⟨h.fa,fun h0=>by
  obtain ⟨cur,h1,h2⟩:=h.row h0
  exact ⟨cur,(hk _ _ _ h1 (.inr rfl)).trans h1,h2⟩,h.cf,fun v hv=>by
   obtain ⟨cs,h1,h2⟩:=h.fl v hv
   exact ⟨cs,(hk _ _ _ h1 (.inl rfl)).trans h1,h2⟩,h.cp,h.inj,h.own,h.og⟩
theorem S4.write {u:Nat} {x:Nat→Bool} (h:S4 w B T n m S) (hu:u<T) (hg:w.grownBy w' (some (m.bl u))) (hx:FlW w' (m.bl u) n x):S4 w' B T n m (setR S u x) :=
 ⟨h.fa,fun h0=>by
  obtain ⟨cur,h1,h2⟩:=h.row h0
  exact ⟨cur,(hg.block _ (heap_lt h1) (fun e=>(h.fl u hu).off h1 (by decide) (by injection e))).trans h1,h2⟩,h.cf,fun v hv=>by
  by_cases hvu:v=u
  ·subst hvu
   rw [setR_at]
   exact hx
  ·rw [setR_ne _ _ _ hvu]
   exact (h.fl v hv).keep (hg.block _ (h.fl v hv).lt (fun e=>hvu (h.inj v u hv hu (by injection e)))),h.cp,h.inj,h.own,h.og⟩
theorem S4.slot (h:S4 w B T n m S) {v:Nat} (hv:v<T):w.cell? ⟨m.g,v,none⟩=some (.slice (some ⟨m.bl v,0,none⟩) n (m.cp v)):=by
 obtain ⟨cur,h1,h2⟩:=h.row (by omega)
 exact (cB h1 v).trans (h2 v hv)
theorem S4.soft (h:S4 w B T n m S) (h0:0<T) (o:Nat):w.frozen? ⟨m.g,o,none⟩=false:=by
 obtain ⟨cur,h1,h2⟩:=h.row h0
 exact frozen_of_row _ _ _ _ _ h1
theorem S4.lower {B':Nat} (h:S4 w B T n m S) (hB:B'≤B):S4 w B' T n m S :=
 ⟨h.fa,h.row,h.cf,h.fl,h.cp,h.inj,fun v hv=>Nat.le_trans hB (h.own v hv),fun h0=>Nat.le_trans hB (h.og h0)⟩
theorem S4.congr {S':Nat→Nat→Bool} (h:S4 w B T n m S) (e:∀ v l,v<T→l<n→S' v l=S v l):S4 w B T n m S' :=
 ⟨h.fa,h.row,h.cf,fun v hv=>(h.fl v hv).congr (fun l hl=>e v l hv hl),h.cp,h.inj,h.own,h.og⟩
def M4.swap (m:M4) (v F c:Nat):M4:=⟨m.fa,m.g,m.cf,setR m.bl v F,setR m.cp v c⟩
theorem S4.swap (h:S4 w B T n m S) {v F c:Nat} {x:Nat→Bool} (hv:v<T) (hF:FlW w F n x) (hne:∀ u,u<T→u≠v→m.bl u≠F) (hFB:B≤F) (hc:n≤c∧c≤maxLen) :
  S4 (w.setCell ⟨m.g,v,none⟩ (.slice (some ⟨F,0,none⟩) n c)) B T n (m.swap v F c) (setR S v x):=by
 obtain ⟨cur,h1,h2⟩:=h.row (by omega)
 have hz:v<cur.size:=(Array.getElem?_eq_some_iff.mp (h2 v hv)).1
 have hkeep:∀ {u:Nat} {y:Nat→Bool},FlW w u n y→FlW (w.setCell ⟨m.g,v,none⟩ (.slice (some ⟨F,0,none⟩) n c)) u n y:=fun hy=>hy.keep (heap_setCell_other _ _ _ _ (fun e=>hy.off h1 (by decide) e.symm))
 refine ⟨h.fa,fun _=>⟨_,heap_setCell_same w m.g v cur _ _ h1,fun u hu=>?_⟩,h.cf,fun u hu=>?_,fun u hu=>?_,fun a b ha hb e=>?_,fun u hu=>?_,h.og⟩
 ·rw [Array.getElem?_setIfInBounds]
  show _=some (Value.slice (some ⟨setR m.bl v F u,0,none⟩) n (setR m.cp v c u))
  by_cases huv:v=u
  ·subst huv
   rw [if_pos rfl,if_pos hz,setR_at,setR_at]
  ·rw [if_neg huv,setR_ne _ _ _ (Ne.symm huv),setR_ne _ _ _ (Ne.symm huv)]
   exact h2 u hu
 ·show FlW _ (setR m.bl v F u) n (setR S v x u)
  by_cases huv:u=v
  ·subst huv
   rw [setR_at,setR_at]
   exact hkeep hF
  ·rw [setR_ne _ _ _ huv,setR_ne _ _ _ huv]
   exact hkeep (h.fl u hu)
 ·show n≤setR m.cp v c u∧setR m.cp v c u≤maxLen
  by_cases huv:u=v
  ·subst huv
   rw [setR_at]
   exact hc
  ·rw [setR_ne _ _ _ huv]
   exact h.cp u hu
 ·have e':setR m.bl v F a=setR m.bl v F b:=e
  by_cases hav:a=v
  ·by_cases hbv:b=v
   ·omega
   ·subst hav
    rw [setR_at,setR_ne _ _ _ hbv] at e'
    exact absurd e'.symm (hne b hb hbv)
  ·by_cases hbv:b=v
   ·subst hbv
    rw [setR_at,setR_ne _ _ _ hav] at e'
    exact absurd e' (hne a ha hav)
   ·rw [setR_ne _ _ _ hav,setR_ne _ _ _ hbv] at e'
    exact h.inj a b ha hb e'
 ·show B≤setR m.bl v F u
  by_cases huv:u=v
  ·subst huv
   rw [setR_at]
   exact hFB
  ·rw [setR_ne _ _ _ huv]
   exact h.own u hu
end
def Rows4 (w:World) (B:Nat) (v:Value) (k n:Nat) (bl cp:Nat→Nat) (x:Nat→Nat→Bool):Prop :=
 ∃ xs,w.ownsRow B 65 1 v k xs∧(∀ u,u<k→xs[u]?=some (.slice (some ⟨bl u,0,none⟩) n (cp u))∧B≤bl u∧(n≤cp u∧cp u≤maxLen)∧FlW w (bl u) n (x u))∧∀ i j,i<k→j<k→bl i=bl j→i=j
section
variable {w w':World} {B:Nat} {v:Value} {k n:Nat} {bl cp:Nat→Nat} {x:Nat→Nat→Bool}
theorem Rows4.below (h:Rows4 w B v k n bl cp x) (hb:Below w.heap.size w w'):Rows4 w' B v k n bl cp x:=by
 obtain ⟨xs,ho,h1,h2⟩:=h
 exact ⟨xs,ho.kept (below_grown hb) (by cases hv:v.ownBlock <;> simp),fun u hu=>⟨(h1 u hu).1,(h1 u hu).2.1,(h1 u hu).2.2.1,(h1 u hu).2.2.2.keep (hb.block _ (h1 u hu).2.2.2.lt)⟩,h2⟩
theorem Rows4.nil (w:World) (B n:Nat) (x:Nat→Nat→Bool) (hB:B≤w.heap.size):Rows4 (w.alloc (.cells #[] 65)) B (.slice (some ⟨w.heap.size,0,none⟩) 0 0) 0 n (fun _=>0) (fun _=>0) x :=
 ⟨[],World.ownsRow_lit (base:=B) (e:=65) (size:=1) w #[] 0 hB (by simp [maxLen]) rfl,fun i hi=>absurd hi (Nat.not_lt_zero _),fun i j hi=>absurd hi (Nat.not_lt_zero _)⟩
theorem Rows4.slice (h:Rows4 w B v k n bl cp x):∃ A c,v=.slice A k c∧k≤c∧c≤maxLen:=by
 obtain ⟨xs,ho,_⟩:=h
 rcases ho.2 with ⟨rfl,h0⟩ | ⟨g,cap,cur,hv,_,_,h4,h5,_⟩
 ·subst h0
  exact ⟨none,0,rfl,Nat.le_refl _,Nat.zero_le _⟩
 ·exact ⟨_,_,hv,h4,h5⟩
theorem Rows4.lt (h:Rows4 w B v k n bl cp x) {u:Nat} (hu:u<k):bl u<w.heap.size:=by
 obtain ⟨xs,_,h1,_⟩:=h
 exact (h1 u hu).2.2.2.lt
theorem Rows4.more {w2:World} {g cap F c:Nat} {xs:List Value} (ho:w.ownsRow B 65 1 v k xs) (h1:∀ u,u<k→xs[u]?=some (.slice (some ⟨bl u,0,none⟩) n (cp u))∧B≤bl u∧(n≤cp u∧cp u≤maxLen)∧FlW w (bl u) n (x u)) (h2:∀ i j,i<k→j<k→bl i=bl j→i=j)
  (hF:FlW w F n (x k)) (hne:∀ u,u<k→bl u≠F) (hFB:B≤F) (hc:n≤c∧c≤maxLen) (hg:w.grownBy w2 v.ownBlock)
  (ho2:w2.ownsRow B 65 1 (.slice (some ⟨g,0,none⟩) (k+1) cap) (k+1) (xs++[.slice (some ⟨F,0,none⟩) n c])) :
  Rows4 w2 B (.slice (some ⟨g,0,none⟩) (k+1) cap) (k+1) n (setR bl k F) (setR cp k c) x:=by
 have hl:xs.length=k:=by have:=ho.1;omega
 refine ⟨_,ho2,fun u hu=>?_,fun i j hi hj e=>?_⟩
 ·by_cases huk:u=k
  ·subst huk
   rw [setR_at,setR_at]
   exact ⟨by rw [← hl];simp,hFB,hc,hF.keep (hg.block _ hF.lt (hF.off_row ho (by decide)))⟩
  ·rw [setR_ne _ _ _ huk,setR_ne _ _ _ huk]
   obtain ⟨a1,a2,a3,a4⟩:=h1 u (by omega)
   exact ⟨by rw [List.getElem?_append_left (by omega)];exact a1,a2,a3,a4.keep (hg.block _ a4.lt (a4.off_row ho (by decide)))⟩
 ·by_cases hik:i=k
  ·by_cases hjk:j=k
   ·omega
   ·subst hik
    rw [setR_at,setR_ne _ _ _ hjk] at e
    exact absurd e.symm (hne j (by omega))
  ·by_cases hjk:j=k
   ·subst hjk
    rw [setR_at,setR_ne _ _ _ hik] at e
    exact absurd e (hne i (by omega))
   ·rw [setR_ne _ _ _ hik,setR_ne _ _ _ hjk] at e
    exact h2 i j (by omega) (by omega) e
end
def blkOf:Option Addr→Nat
 | some a=>a.block
 | none=>0
theorem Rows4.done {w:World} {B T n:Nat} {fa:Option Addr} {cf:Nat} {bl cp:Nat→Nat} {x:Nat→Nat→Bool} (h:Rows4 w B (.slice fa T cf) T n bl cp x) :
  S4 w B T n ⟨fa,blkOf fa,cf,bl,cp⟩ x:=by
 have hcf:T≤cf∧cf≤maxLen:=by
  obtain ⟨A,c,e,h3,h4⟩:=h.slice
  injection e with _ _ e
  subst e
  exact ⟨h3,h4⟩
 obtain ⟨xs,ho,h1,h2⟩:=h
 have hform:0<T→∃ g cur,fa=some ⟨g,0,none⟩∧B≤g∧w.heap[g]?=some (.cells cur 65 (0,0))∧∀ v,v<T→cur[v]?=xs[v]?:=fun h0=>by
  rcases ho.2 with ⟨_,e⟩ | ⟨g,cap,cur,hv,hB,h3,h4,h5,h6,h7⟩
  ·omega
  ·injection hv with hv _ _
   refine ⟨g,cur,hv,hB,h3,fun v hv=>?_⟩
   rw [← h7,List.getElem?_take,if_pos (by omega)]
   simp
 refine ⟨fun h0=>?_,fun h0=>?_,hcf,fun v hv=>(h1 v hv).2.2.2,fun v hv=>(h1 v hv).2.2.1,h2,fun v hv=>(h1 v hv).2.1,fun h0=>?_⟩
 ·obtain ⟨g,cur,rfl,_⟩:=hform h0
  rfl
 ·obtain ⟨g,cur,rfl,_,h8,h9⟩:=hform h0
  refine ⟨cur,h8,fun v hv=>?_⟩
  rw [h9 v hv]
  exact (h1 v hv).1
 ·obtain ⟨g,cur,rfl,hB,_⟩:=hform h0
  exact hB
structure F4 (w:World) (B R n T z:Nat) (ms:Nat→M4) (o:Nat→Nat→Nat→Bool):Prop where
 row:∃ cur,w.heap[R]?=some (.cells cur 66 (0,0))∧∀ i,i<n→cur[i]?=some (.slice (ms i).fa T (ms i).cf)
 st:∀ i,i<n→S4 w B T z (ms i) (o i)
 apart:∀ i j u v,i<n→j<n→u<T→v<T→(ms i).bl u=(ms j).bl v→i=j
 oR:B≤R
section
variable {w w':World} {B R n T z:Nat} {ms:Nat→M4} {o:Nat→Nat→Nat→Bool}
theorem F4.lt (h:F4 w B R n T z ms o):R<w.heap.size:=by
 obtain ⟨cur,h1,_⟩:=h.row
 exact heap_lt h1
theorem F4.keep (h:F4 w B R n T z ms o) (hb:Below w.heap.size w w'):F4 w' B R n T z ms o :=
 ⟨(by
  obtain ⟨cur,h1,h2⟩:=h.row
  exact ⟨cur,(hb.block _ (heap_lt h1)).trans h1,h2⟩),fun i hi=>(h.st i hi).keep hb,h.apart,h.oR⟩
theorem F4.cell (h:F4 w B R n T z ms o) {i:Nat} (hi:i<n):w.cell? ⟨R,i,none⟩=some (.slice (ms i).fa T (ms i).cf):=by
 obtain ⟨cur,h1,h2⟩:=h.row
 exact (cB h1 _).trans (h2 i hi)
end
def Rows5 (w:World) (B:Nat) (v:Value) (k T z:Nat) (ms:Nat→M4):Prop :=
 ∃ xs,w.ownsRow B 66 1 v k xs∧(∀ i,i<k→xs[i]?=some (.slice (ms i).fa T (ms i).cf))∧(∀ i,i<k→S4 w B T z (ms i) (fun _ _=>false))∧∀ i j u v,i<k→j<k→u<T→v<T→(ms i).bl u=(ms j).bl v→i=j
section
variable {w w':World} {B:Nat} {v:Value} {k T z:Nat} {ms:Nat→M4}
theorem Rows5.below (h:Rows5 w B v k T z ms) (hb:Below w.heap.size w w'):Rows5 w' B v k T z ms:=by
 obtain ⟨xs,ho,h1,h2,h3⟩:=h
 exact ⟨xs,ho.kept (below_grown hb) (by cases hv:v.ownBlock <;> simp),h1,fun i hi=>(h2 i hi).keep hb,h3⟩
theorem Rows5.nil (w:World) (B T z:Nat) (hB:B≤w.heap.size):Rows5 (w.alloc (.cells #[] 66)) B (.slice (some ⟨w.heap.size,0,none⟩) 0 0) 0 T z (fun _=>⟨none,0,0,fun _=>0,fun _=>0⟩) :=
 ⟨[],World.ownsRow_lit (base:=B) (e:=66) (size:=1) w #[] 0 hB (by simp [maxLen]) rfl,fun i hi=>absurd hi (Nat.not_lt_zero _),fun i hi=>absurd hi (Nat.not_lt_zero _),fun i j u v hi=>absurd hi (Nat.not_lt_zero _)⟩
theorem Rows5.slice (h:Rows5 w B v k T z ms):∃ A c,v=.slice A k c∧k≤c∧c≤maxLen:=by
 obtain ⟨xs,ho,_⟩:=h
 rcases ho.2 with ⟨rfl,h0⟩ | ⟨g,cap,cur,hv,_,_,h4,h5,_⟩
 ·subst h0
  exact ⟨none,0,rfl,Nat.le_refl _,Nat.zero_le _⟩
 ·exact ⟨_,_,hv,h4,h5⟩
theorem Rows5.lt (h:Rows5 w B v k T z ms) {i u:Nat} (hi:i<k) (hu:u<T):(ms i).bl u<w.heap.size:=by
 obtain ⟨xs,_,_,h2,_⟩:=h
 exact ((h2 i hi).fl u hu).lt
theorem S4.grown {m:M4} {S:Nat→Nat→Bool} {xs:List Value} (h:S4 w B T z m S) (ho:w.ownsRow B 66 1 v k xs) (hg:w.grownBy w' v.ownBlock):S4 w' B T z m S :=
 h.carry fun g cs t h1 ht=>hg.block _ (heap_lt h1) (fun e=>by
  obtain ⟨cur',h3⟩:=ownBlock_row ho g e.symm
  rw [h1] at h3
  injection h3 with h3
  injection h3 with _ h3 _
  rcases ht with rfl | rfl <;> exact absurd h3 (by decide))
theorem Rows5.more {w2:World} {g cap:Nat} {m:M4} {xs:List Value} {K:Nat} (ho:w.ownsRow B 66 1 v k xs)
  (h1:∀ i,i<k→xs[i]?=some (.slice (ms i).fa T (ms i).cf))
  (h2:∀ i,i<k→S4 w B T z (ms i) (fun _ _=>false)) (h3:∀ i j u v,i<k→j<k→u<T→v<T→(ms i).bl u=(ms j).bl v→i=j)
  (hm:S4 w K T z m (fun _ _=>false)) (hK:B≤K) (hlt:∀ i u,i<k→u<T→(ms i).bl u<K) (hg:w.grownBy w2 v.ownBlock)
  (ho2:w2.ownsRow B 66 1 (.slice (some ⟨g,0,none⟩) (k+1) cap) (k+1) (xs++[.slice m.fa T m.cf])) :
  Rows5 w2 B (.slice (some ⟨g,0,none⟩) (k+1) cap) (k+1) T z (setR ms k m):=by
 have hl:xs.length=k:=by have:=ho.1;omega
 refine ⟨_,ho2,fun i hi=>?_,fun i hi=>?_,fun i j u v hi hj hu hv e=>?_⟩
 ·by_cases hik:i=k
  ·subst hik
   rw [setR_at,← hl]
   simp
  ·rw [setR_ne _ _ _ hik,List.getElem?_append_left (by omega)]
   exact h1 i (by omega)
 ·by_cases hik:i=k
  ·subst hik
   rw [setR_at]
   exact (hm.lower hK).grown ho hg
  ·rw [setR_ne _ _ _ hik]
   exact (h2 i (by omega)).grown ho hg
 ·by_cases hik:i=k
  ·by_cases hjk:j=k
   ·omega
   ·subst hik
    rw [setR_at,setR_ne _ _ _ hjk] at e
    have:=hlt j v (by omega) hv
    have:=hm.own u hu
    omega
  ·by_cases hjk:j=k
   ·subst hjk
    rw [setR_at,setR_ne _ _ _ hik] at e
    have:=hlt i u (by omega) hu
    have:=hm.own v hv
    omega
   ·rw [setR_ne _ _ _ hik,setR_ne _ _ _ hjk] at e
    exact h3 i j u v (by omega) (by omega) hu hv e
theorem Rows5.done {n:Nat} (h:Rows5 w B v n T z ms) (hn:0<n):∃ R c,v=.slice (some ⟨R,0,none⟩) n c∧n≤c∧c≤maxLen∧F4 w B R n T z ms (fun _ _ _=>false):=by
 obtain ⟨xs,ho,h1,h2,h3⟩:=h
 rcases ho.2 with ⟨_,e⟩ | ⟨g,cap,cur,hv,hB,h4,h5,h6,h7,h8⟩
 ·omega
 ·refine ⟨g,cap,hv,h5,h6,⟨⟨cur,h4,fun i hi=>?_⟩,h2,h3,hB⟩⟩
  rw [← h1 i hi,← h8,List.getElem?_take,if_pos (by omega)]
  simp
end
end tr
end Go.Proofs.YtofcdecpipgmjaaGreatDoor
namespace Go.Proofs.YtofcdecpipgmjaaGreatDoor.tr
open Go.RowKit Go.Deep
set_option linter.unusedVariables false
structure Wr (w w':World) (P:Nat→Prop):Prop where
 os:w'.os=w.os
 tape:w'.tape=w.tape
 output:w'.output=w.output
 size:w.heap.size≤w'.heap.size
 block:∀ k,k<w.heap.size→¬ P k→w'.heap[k]?=w.heap[k]?
section
variable {a b c:World} {P Q:Nat→Prop}
theorem Wr.refl (w:World) (P:Nat→Prop):Wr w w P:=⟨rfl,rfl,rfl,Nat.le_refl _,fun _ _ _=>rfl⟩
theorem Wr.set (h:Wr a b P) {F o:Nat} (hF:P F) (v:Value):Wr a (b.setCell ⟨F,o,none⟩ v) P:=by
 have hg:=Lib.grownBy_setCell b F o v
 exact ⟨hg.os.trans h.os,hg.tape.trans h.tape,hg.output.trans h.output,Nat.le_trans h.size hg.size,fun k hk hp=>(hg.block k (Nat.lt_of_lt_of_le hk h.size) (fun e=>hp (by injection e with e;rw [e];exact hF))).trans (h.block k hk hp)⟩
theorem Wr.below (h:Wr a b P) {B:Nat} {w0:World} (h0:Below B w0 a) (hB:B≤a.heap.size) (hP:∀ k,P k→B≤k):Below B w0 b :=
 h0.trans ⟨h.os,h.tape,h.output,h.size,fun k hk=>h.block k (by omega) (fun hp=>by have:=hP k hp;omega)⟩
end
def rowsOf (T:Nat) (m:M4) (k:Nat):Prop:=∃ u,u<T∧k=m.bl u
theorem S4.wr {w w':World} {B T n:Nat} {m:M4} {S:Nat→Nat→Bool} {P:Nat→Prop} (h:S4 w B T n m S) (hw:Wr w w' P) (hP:∀ u,u<T→¬ P (m.bl u)) (hg:0<T→¬ P m.g):S4 w' B T n m S :=
 ⟨h.fa,fun h0=>by
  obtain ⟨cur,h1,h2⟩:=h.row h0
  exact ⟨cur,(hw.block _ (heap_lt h1) (hg h0)).trans h1,h2⟩,h.cf,fun v hv=>(h.fl v hv).keep (hw.block _ (h.fl v hv).lt (hP v hv)),h.cp,h.inj,h.own,h.og⟩
theorem S4.g_off {w:World} {B B' T n:Nat} {m m':M4} {S S':Nat→Nat→Bool} (h:S4 w B T n m S) (h':S4 w B' T n m' S') (h0:0<T):¬ rowsOf T m m'.g:=by
 rintro ⟨u,hu,e⟩
 obtain ⟨cur,h1,_⟩:=h'.row h0
 exact (h.fl u hu).off h1 (by decide) e
def pre (v i u j:Nat):Prop:=u<v∨(u=v∧j<i)
instance (v i u j:Nat):Decidable (pre v i u j):=by unfold pre;infer_instance
def mrg (x y:Nat→Nat→Bool) (v i u j:Nat):Bool:=y u j || (decide (pre v i u j) && x u j)
def fresh (T z:Nat) (x y:Nat→Nat→Bool) (v i:Nat):Prop:=∃ u j,pre v i u j∧u<T∧j<z∧x u j=true∧y u j=false
theorem mrg_start (x y:Nat→Nat→Bool) (u j:Nat):mrg x y 0 0 u j=y u j:=by
 unfold mrg
 rw [decide_eq_false (show ¬ pre 0 0 u j from by unfold pre;omega)]
 simp
theorem mrg_row {x y:Nat→Nat→Bool} {v z u j:Nat} (hj:j<z):mrg x y (v+1) 0 u j=mrg x y v z u j:=by
 unfold mrg
 rw [show decide (pre (v+1) 0 u j)=decide (pre v z u j) from decide_eq_decide.mpr (by unfold pre;omega)]
theorem mrg_last {x y:Nat→Nat→Bool} {T u j:Nat} (hu:u<T):mrg x y T 0 u j=(y u j || x u j):=by
 unfold mrg
 rw [decide_eq_true (show pre T 0 u j from by unfold pre;omega),Bool.true_and]
theorem mrg_here (x y:Nat→Nat→Bool) (v i:Nat):mrg x y v i v i=y v i:=by
 unfold mrg
 rw [decide_eq_false (show ¬ pre v i v i from by unfold pre;omega)]
 simp
theorem mrg_next (x y:Nat→Nat→Bool) (v i u j:Nat):mrg x y v (i+1) u j=if u=v∧j=i then (y v i || x v i) else mrg x y v i u j:=by
 unfold mrg
 by_cases h:u=v∧j=i
 ·obtain ⟨rfl,rfl⟩:=h
  rw [if_pos ⟨rfl,rfl⟩,decide_eq_true (show pre u (j+1) u j from by unfold pre;omega),Bool.true_and]
 ·rw [if_neg h,show decide (pre v (i+1) u j)=decide (pre v i u j) from decide_eq_decide.mpr (by unfold pre;omega)]
theorem mrg_skip {x y:Nat→Nat→Bool} {v i:Nat} (h:x v i=true→y v i=true) (u j:Nat):mrg x y v (i+1) u j=mrg x y v i u j:=by
 rw [mrg_next]
 by_cases h9:u=v∧j=i
 ·obtain ⟨rfl,rfl⟩:=h9
  rw [if_pos ⟨rfl,rfl⟩,mrg_here]
  cases hx:x u j
  ·simp
  ·rw [h hx];rfl
 ·rw [if_neg h9]
theorem mrg_put {x y:Nat→Nat→Bool} {v i:Nat} (h:x v i=true) (u j:Nat):mrg x y v (i+1) u j=setR (mrg x y v i) v (setR (mrg x y v i v) i true) u j:=by
 rw [mrg_next]
 by_cases hu:u=v
 ·subst hu
  rw [setR_at]
  by_cases hj:j=i
  ·subst hj
   rw [if_pos ⟨rfl,rfl⟩,setR_at,h]
   simp
  ·rw [if_neg (fun e=>hj e.2),setR_ne _ _ _ hj]
 ·rw [if_neg (fun e=>hu e.1),setR_ne _ _ _ hu]
theorem fresh_start {T z:Nat} {x y:Nat→Nat→Bool}:¬ fresh T z x y 0 0:=by
 rintro ⟨u,j,h,_⟩
 unfold pre at h
 omega
theorem fresh_row {T z:Nat} {x y:Nat→Nat→Bool} {v:Nat}:fresh T z x y (v+1) 0↔fresh T z x y v z:=by
 unfold fresh
 constructor
 ·rintro ⟨u,j,h,h1,h2,h3⟩
  exact ⟨u,j,by unfold pre at h ⊢;omega,h1,h2,h3⟩
 ·rintro ⟨u,j,h,h1,h2,h3⟩
  exact ⟨u,j,by unfold pre at h ⊢;omega,h1,h2,h3⟩
theorem fresh_skip {T z:Nat} {x y:Nat→Nat→Bool} {v i:Nat} (h:x v i=true→y v i=true):fresh T z x y v (i+1)↔fresh T z x y v i:=by
 constructor
 ·rintro ⟨u,j,hp,h1,h2,h3,h4⟩
  refine ⟨u,j,?_,h1,h2,h3,h4⟩
  by_cases h9:u=v∧j=i
  ·obtain ⟨rfl,rfl⟩:=h9
   rw [h h3] at h4
   cases h4
  ·unfold pre at hp ⊢;omega
 ·rintro ⟨u,j,hp,h1⟩
  exact ⟨u,j,by unfold pre at hp ⊢;omega,h1⟩
theorem fresh_put {T z:Nat} {x y:Nat→Nat→Bool} {v i:Nat} (hv:v<T) (hi:i<z) (h:x v i=true) (h':y v i=false):fresh T z x y v (i+1) :=
 ⟨v,i,by unfold pre;omega,hv,hi,h,h'⟩
theorem fresh_last {T z:Nat} {x y:Nat→Nat→Bool}:fresh T z x y T 0↔¬ within T z x y:=by
 constructor
 ·rintro ⟨u,j,_,h1,h2,h3,h4⟩ hw
  rw [hw u j h1 h2 h3] at h4
  cases h4
 ·intro hw
  refine Classical.byContradiction fun h9=>hw fun u j hu hj hx=>?_
  cases hy:y u j
  ·exact absurd ⟨u,j,by unfold pre;omega,hu,hj,hx,hy⟩ h9
  ·rfl
theorem F4.merge {w w':World} {B R n T z:Nat} {ms:Nat→M4} {o:Nat→Nat→Nat→Bool} {b:Nat} {x:Nat→Nat→Bool} (h:F4 w B R n T z ms o) (hb:b<n) (hw:Wr w w' (rowsOf T (ms b))) (hx:S4 w' B T z (ms b) (fun v l=>o b v l || x v l)):F4 w' B R n T z ms (addK o b x):=by
 refine ⟨?_,fun i hi=>?_,h.apart,h.oR⟩
 ·obtain ⟨cur,h1,h2⟩:=h.row
  refine ⟨cur,(hw.block _ (heap_lt h1) ?_).trans h1,h2⟩
  rintro ⟨u,hu,e⟩
  exact ((h.st b hb).fl u hu).off h1 (by decide) e
 ·by_cases hib:i=b
  ·subst hib
   exact hx.congr fun v l _ _=>addK_at o i x v l
  ·refine ((h.st i hi).wr hw (fun u hu=>?_) (fun h0=>(h.st b hb).g_off (h.st i hi) h0)).congr fun v l _ _=>addK_ne hib
   rintro ⟨v,hv,e⟩
   exact hib (h.apart i b u v hi hb hu hv e)
end Go.Proofs.YtofcdecpipgmjaaGreatDoor.tr
namespace Go.Proofs.YtofcdecpipgmjaaGreatDoor.tr
open Go.RowKit Go.Deep
set_option linter.unusedVariables false
def LRows (cs:Array Value) (o:Nat) (kn:Nat→Nat→Nat):Prop:=∀ m,m<61→∀ v,v<6→cs[o+(m*6+v)]?=some (.int .u64 (kn m v:Int))
def LKn (t:TypeId) (w:World) (K:Nat) (kn:Nat→Nat→Nat):Prop:=∃ cs,w.heap[K]?=some (.cells cs t (0,0))∧cs.size=366∧LRows cs 0 kn
theorem LKn.lt {t:TypeId} {w:World} {K:Nat} {kn:Nat→Nat→Nat} (h:LKn t w K kn):K<w.heap.size:=by
 obtain ⟨cs,h1,_⟩:=h
 exact heap_lt h1
theorem LKn.cell {t:TypeId} {w:World} {K:Nat} {kn:Nat→Nat→Nat} (h:LKn t w K kn) {m v:Nat} (hm:m<61) (hv:v<6):w.cell? ⟨K,m*6+v,none⟩=some (.int .u64 (kn m v:Int)):=by
 obtain ⟨cs,h1,_,h3⟩:=h
 rw [cB h1]
 have:=h3 m hm v hv
 rwa [Nat.zero_add] at this
theorem LKn.range {t:TypeId} {w:World} {K:Nat} {kn:Nat→Nat→Nat} (h:LKn t w K kn) {m:Nat} (hm:m<61):w.rangeAt K (m*6) (perC (kn m)):=by
 intro j v hv
 have hj:j<6:=(List.getElem?_eq_some_iff.mp hv).1
 rw [perC_get _ hj] at hv
 rw [h.cell hm hj,hv]
theorem LKn.there {t:TypeId} {w:World} {K:Nat} {kn:Nat→Nat→Nat} (h:LKn t w K kn) {m:Nat} (hm:m<61):w.there K (m*6) 6:=by
 obtain ⟨cs,h1,h2,h3⟩:=h
 intro j hj
 refine ⟨?_,frozen_of_row _ _ _ _ _ h1⟩
 rw [cB h1,Array.getElem?_eq_getElem (by omega)]
 rfl
theorem LKn.keep {t:TypeId} {w w':World} {K:Nat} {kn:Nat→Nat→Nat} (h:LKn t w K kn) (hb:Below w.heap.size w w'):LKn t w' K kn:=by
 have hl:=h.lt
 unfold LKn
 rw [hb.block K hl]
 exact h
theorem LKn.put {t:TypeId} {w:World} {K:Nat} {kn:Nat→Nat→Nat} (h:LKn t w K kn) {m:Nat} (hm:m<61) (x:Nat→Nat):LKn t (w.setCells K (m*6) (perC x)) K (setP kn m x):=by
 obtain ⟨cs,h1,h2,h3⟩:=h
 have hz:m*6+(perC x).length≤cs.size:=by rw [h2];show m*6+6≤366;omega
 refine ⟨_,heap_setCells (perC x) (m*6) w cs h1 hz,by rw [setN_size];exact h2,fun k hk v hv=>?_⟩
 rw [setN_get _ _ _ _ hz,Nat.zero_add]
 by_cases hkm:k=m
 ·subst hkm
  rw [if_pos (by show k*6≤k*6+v∧k*6+v<k*6+6;omega),show k*6+v-k*6=v from by omega,perC_get _ hv,setP_at]
 ·rw [if_neg (by show ¬ (m*6≤k*6+v∧k*6+v<m*6+6);omega),setP_ne _ _ _ hkm]
  have:=h3 k hk v hv
  rwa [Nat.zero_add] at this
def lkW (w:World) (K m v:Nat):Nat:=knW w K (m*6+v)
theorem LKn.read {t:TypeId} {w:World} {K:Nat} {kn:Nat→Nat→Nat} (h:LKn t w K kn) {m v:Nat} (hm:m<61) (hv:v<6):lkW w K m v=kn m v:=by
 unfold lkW knW
 rw [h.cell hm hv]
 simp
theorem LKn.measure {t:TypeId} {w:World} {K:Nat} {kn:Nat→Nat→Nat} (h:LKn t w K kn) {n:Nat} (hn:n≤61):sumTo (fun m=>wtP (lkW w K m)) n=sumTo (fun m=>wtP (kn m)) n:=by
 refine sumTo_congr fun m hm=>?_
 unfold wtP
 exact sumTo_congr fun v hv=>by rw [h.read (by omega) hv]
theorem lrows_one {cs:Array Value} {kn:Nat→Nat→Nat} (hz:cs.size=366) (h:LRows cs 0 kn):cs.all (·.oneCell')=true:=by
 rw [Array.all_eq_true_iff_forall_mem]
 intro u hu
 obtain ⟨i,hi,rfl⟩:=Array.mem_iff_getElem.mp hu
 have h9:=h (i / 6) (by omega) (i % 6) (by omega)
 rw [show 0+(i / 6*6+i % 6)=i from by omega,Array.getElem?_eq_getElem hi] at h9
 injection h9 with h9
 rw [h9]
 rfl
end Go.Proofs.YtofcdecpipgmjaaGreatDoor.tr
namespace Go.Proofs.YtofcdecpipgmjaaGreatDoor.tr
open Go.RowKit Go.Deep
set_option linter.unusedVariables false
def eq6 (x y:Nat→Nat):Bool:=(x 0==y 0) && (x 1==y 1) && (x 2==y 2) && (x 3==y 3) && (x 4==y 4) && (x 5==y 5)
theorem eq6_iff (x y:Nat→Nat):eq6 x y=true↔∀ v,v<6→x v=y v:=by
 unfold eq6
 simp only [Bool.and_eq_true,beq_iff_eq]
 constructor
 ·rintro ⟨⟨⟨⟨⟨h0,h1⟩,h2⟩,h3⟩,h4⟩,h5⟩ v hv
  match v,hv with
  | 0,_=>exact h0
  | 1,_=>exact h1
  | 2,_=>exact h2
  | 3,_=>exact h3
  | 4,_=>exact h4
  | 5,_=>exact h5
 ·intro h
  exact ⟨⟨⟨⟨⟨h 0 (by omega),h 1 (by omega)⟩,h 2 (by omega)⟩,h 3 (by omega)⟩,h 4 (by omega)⟩,h 5 (by omega)⟩
set_option maxHeartbeats 4000000 in
theorem eqPer6 (x y:Nat→Nat) (w:World):(Op.equalIn 10000 57 (.agg #[.int .u64 (x 0:Int),.int .u64 (x 1:Int),.int .u64 (x 2:Int),.int .u64 (x 3:Int),.int .u64 (x 4:Int),.int .u64 (x 5:Int)]) (.agg #[.int .u64 (y 0:Int),.int .u64 (y 1:Int),.int .u64 (y 2:Int),.int .u64 (y 3:Int),.int .u64 (y 4:Int),.int .u64 (y 5:Int)])).run Tryz.prog w=.ok ((x 0==y 0) && (x 1==y 1) && (x 2==y 2) && (x 3==y 3) && (x 4==y 4) && (x 5==y 5)) w:=by
 have u6:=Tryz.underlying55
 rw [show (10000:Nat)=9999+1 from rfl,Op.equalIn]
 simp only [Sem.run_bind,run_underlying Tryz.underlying57,Result.andThen_ok]
 simp only [Std.Legacy.Range.forIn_eq_forIn_range',Std.Legacy.Range.size,Nat.sub_zero,Nat.add_sub_cancel,Nat.div_one,List.range'_succ,List.range'_zero,List.forIn_cons,List.forIn_nil]
 go_simp
 generalize x 0=a0
 generalize x 1=a1
 generalize x 2=a2
 generalize x 3=a3
 generalize x 4=a4
 generalize x 5=a5
 generalize y 0=b0
 generalize y 1=b1
 generalize y 2=b2
 generalize y 3=b3
 generalize y 4=b4
 generalize y 5=b5
 have e:∀ a b:Nat,((a:Int)=(b:Int))↔a=b:=fun a b=>by omega
 simp only [e]
 by_cases h0:a0=b0
 ·subst h0
  by_cases h1:a1=b1
  ·subst h1
   by_cases h2:a2=b2
   ·subst h2
    by_cases h3:a3=b3
    ·subst h3
     by_cases h4:a4=b4
     ·subst h4
      by_cases h5:a5=b5
      ·subst h5;simp
      ·simp [h5]
     ·simp [h4]
    ·simp [h3]
   ·simp [h2]
  ·simp [h1]
 ·simp [h0]
theorem guardPer:Tryz.prog.eqGuardType Tryz.prog.depth 57=false:=by kernel_rfl
theorem exec_neq (ρ:Operand→Value) (o:Oper) (x y:Operand) (t:TypeId) (ho:o.op=.binOp .neq 57 x y t) (a b:Nat→Nat) (hx:ρ x=.agg (perC a).toArray) (hy:ρ y=.agg (perC b).toArray) (w:World):(execOp ρ o).run Tryz.prog w=.ok (.value (.bool (!(eq6 a b)))) w:=by
 have hE:(Op.equalIn 10000 57 (.agg (perC a).toArray) (.agg (perC b).toArray)).run Tryz.prog w=.ok (eq6 a b) w:=eqPer6 a b w
 unfold execOp
 simp only [ho,hx,hy,Sem.run_bind,run_eqGuard_agg w .neq 57 x y _ _ guardPer,Result.andThen_ok,run_neq_struct,hE,Sem.run_pure]
end Go.Proofs.YtofcdecpipgmjaaGreatDoor.tr
