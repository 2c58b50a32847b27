/- A search in the order of breadth: plain. What it finds,by which point,and the ways that -/
import Derived.Test.YtedkkphogeealaaGreatDoorUBase
import Derived.Test.YtedkkphogeealaaGreatDoorUMem
import Derived.Test.YtedkkphogeealaaGreatDoorULplG
namespace Go.Proofs.YtedkkphogeealaaGreatDoor
open Go.RowKit Go.Deep
set_option linter.unusedVariables false
def nmsR (R:List (Nat × Nat)):List Nat:=R.map Prod.fst
theorem nmsR_app (E R:List (Nat × Nat)):nmsR (E++R)=nmsR E++nmsR R:=List.map_append
theorem nmsR_cons (n a:Nat) (R:List (Nat × Nat)):nmsR ((n,a) :: R)=n :: nmsR R:=rfl
def fnd1 (a:Nat) (R:List (Nat × Nat)) (n:Nat):List (Nat × Nat):=if n∈nmsR R then R else (n,a) :: R
def fndL (a:Nat):List (Nat × Nat)→List Nat→List (Nat × Nat)
 | R,[]=>R
 | R,n :: l=>fndL a (fnd1 a R n) l
def qR (f:Nat) (R:List (Nat × Nat)):List Nat:=f :: (nmsR R).reverse
def bfsR (nx:Nat→List Nat) (f:Nat):Nat→List (Nat × Nat)
 | 0=>[]
 | i+1=>match (qR f (bfsR nx f i))[i]? with
  | some a=>fndL a (bfsR nx f i) (nx a)
  | none=>bfsR nx f i
theorem bfsR_take {nx:Nat→List Nat} {f i a:Nat} (h:(qR f (bfsR nx f i))[i]?=some a):bfsR nx f (i+1)=fndL a (bfsR nx f i) (nx a):=by
 show (match (qR f (bfsR nx f i))[i]? with | some a=>fndL a (bfsR nx f i) (nx a) | none=>bfsR nx f i)=_
 rw [h]
theorem bfsR_none {nx:Nat→List Nat} {f i:Nat} (h:(qR f (bfsR nx f i))[i]?=none):bfsR nx f (i+1)=bfsR nx f i:=by
 show (match (qR f (bfsR nx f i))[i]? with | some a=>fndL a (bfsR nx f i) (nx a) | none=>bfsR nx f i)=_
 rw [h]
theorem qR_length (f:Nat) (R:List (Nat × Nat)):(qR f R).length=R.length+1:=by simp [qR,nmsR]
theorem bfsR_stop {nx:Nat→List Nat} {f i:Nat} (h:(bfsR nx f i).length+1≤i):∀ j,i≤j→bfsR nx f j=bfsR nx f i:=by
 intro j hj
 induction j with
 | zero =>
  have:i=0:=by omega
  rw [this]
 | succ j ih =>
  by_cases e:i=j+1
  ·rw [e]
  ·have h2:=ih (by omega)
   rw [bfsR_none (List.getElem?_eq_none (by rw [qR_length,h2];omega)),h2]
theorem fnd1_suf (a:Nat) (R:List (Nat × Nat)) (n:Nat):∃ E,fnd1 a R n=E++R:=by
 unfold fnd1
 split
 ·exact ⟨[],rfl⟩
 ·exact ⟨[(n,a)],rfl⟩
theorem fndL_suf (a:Nat):∀ (l:List Nat) (R:List (Nat × Nat)),∃ E,fndL a R l=E++R
 | [],R=>⟨[],rfl⟩
 | n :: l,R=>by
  obtain ⟨E,h⟩:=fndL_suf a l (fnd1 a R n)
  obtain ⟨E',h'⟩:=fnd1_suf a R n
  exact ⟨E++E',by rw [fndL,h,h',List.append_assoc]⟩
theorem fndL_app (a:Nat):∀ (l m:List Nat) (R:List (Nat × Nat)),fndL a R (l++m)=fndL a (fndL a R l) m
 | [],m,R=>rfl
 | n :: l,m,R=>by rw [List.cons_append,fndL,fndL_app a l m];rfl
theorem bfsR_suf1 (nx:Nat→List Nat) (f i:Nat):∃ E,bfsR nx f (i+1)=E++bfsR nx f i:=by
 cases h:(qR f (bfsR nx f i))[i]? with
 | none=>exact ⟨[],by rw [bfsR_none h];rfl⟩
 | some a =>
  rw [bfsR_take h]
  exact fndL_suf a _ _
theorem bfsR_suf (nx:Nat→List Nat) (f i:Nat):∀ d,∃ E,bfsR nx f (i+d)=E++bfsR nx f i
 | 0=>⟨[],rfl⟩
 | d+1=>by
  obtain ⟨E,h⟩:=bfsR_suf nx f i d
  obtain ⟨E',h'⟩:=bfsR_suf1 nx f (i+d)
  exact ⟨E'++E,by rw [show i+(d+1)=i+d+1 from rfl,h',h,List.append_assoc]⟩
def OkR (nx:Nat→List Nat) (f:Nat):List (Nat × Nat)→Prop
 | []=>True
 | (n,a) :: R=>n ∉ nmsR R∧n∈nx a∧((a=f∧f ∉ nmsR R)∨(a≠f∧a∈nmsR R))∧OkR nx f R
theorem OkR.tail {nx:Nat→List Nat} {f:Nat}:∀ (E R:List (Nat × Nat)),OkR nx f (E++R)→OkR nx f R
 | [],R,h=>h
 | (n,a) :: E,R,h=>OkR.tail E R h.2.2.2
theorem mem_fnd1 {a n x:Nat} {R:List (Nat × Nat)}:x∈nmsR (fnd1 a R n)↔x=n∨x∈nmsR R:=by
 unfold fnd1
 split
 ·rename_i h
  exact ⟨.inr,fun e=>e.elim (fun e=>e ▸ h) id⟩
 ·simp [nmsR]
theorem mem_fndL {a x:Nat}:∀ (l:List Nat) (R:List (Nat × Nat)),x∈nmsR (fndL a R l)↔x∈l∨x∈nmsR R
 | [],R=>by simp [fndL]
 | n :: l,R=>by
  rw [fndL,mem_fndL l,mem_fnd1,List.mem_cons]
  constructor
  ·rintro (h | h | h)
   ·exact .inl (.inr h)
   ·exact .inl (.inl h)
   ·exact .inr h
  ·rintro ((h | h) | h)
   ·exact .inr (.inl h)
   ·exact .inl h
   ·exact .inr (.inr h)
theorem fndL_same {a:Nat}:∀ (l:List Nat) (R:List (Nat × Nat)),(∀ x∈l,x∈nmsR R)→fndL a R l=R
 | [],R,_=>rfl
 | n :: l,R,h=>by
  have:fnd1 a R n=R:=by
   unfold fnd1
   rw [if_pos (h n (by simp))]
  rw [fndL,this]
  exact fndL_same l R (fun x hx=>h x (by simp [hx]))
theorem OkR.found {nx:Nat→List Nat} {f a:Nat} (hne:a≠f):∀ (l:List Nat) (R:List (Nat × Nat)),(∀ x∈l,x∈nx a)→a∈nmsR R→OkR nx f R→OkR nx f (fndL a R l)
 | [],R,_,_,h=>h
 | n :: l,R,hl,ha,h=>by
  refine OkR.found hne l _ (fun x hx=>hl x (by simp [hx])) (mem_fnd1.mpr (.inr ha)) ?_
  unfold fnd1
  split
  ·exact h
  ·rename_i hn
   exact ⟨hn,hl n (by simp),.inr ⟨hne,ha⟩,h⟩
theorem OkR.first {nx:Nat→List Nat} {f:Nat}:∀ (l:List Nat) (R:List (Nat × Nat)),(∀ x∈l,x∈nx f)→f ∉ l→f ∉ nmsR R→OkR nx f R→OkR nx f (fndL f R l)
 | [],R,_,_,_,h=>h
 | n :: l,R,hl,hf,ha,h=>by
  have hnf:f≠n:=fun e=>hf (by simp [e])
  refine OkR.first l _ (fun x hx=>hl x (by simp [hx])) (fun e=>hf (by simp [e])) (fun e=>?_) ?_
  ·rcases mem_fnd1.mp e with e | e
   ·exact hnf e
   ·exact ha e
  ·unfold fnd1
   split
   ·exact h
   ·rename_i hn
    exact ⟨hn,hl n (by simp),.inl ⟨rfl,ha⟩,h⟩
theorem qR_zero (f:Nat) (R:List (Nat × Nat)):(qR f R)[0]?=some f:=rfl
theorem qR_succ {f i a:Nat} {R:List (Nat × Nat)} (h:(qR f R)[i+1]?=some a):a∈nmsR R:=by
 have:=List.mem_of_getElem? (show (nmsR R).reverse[i]?=some a from h)
 simpa using this
theorem bfsR_next0 (nx:Nat→List Nat) (f:Nat):∀ i,∀ x∈nx f,x∈nmsR (bfsR nx f (i+1)):=by
 intro i x hx
 obtain ⟨E,h⟩:=bfsR_suf nx f 1 i
 rw [show i+1=1+i by omega,h]
 have:x∈nmsR (bfsR nx f 1):=by
  rw [bfsR_take (qR_zero f _)]
  exact (mem_fndL _ _).mpr (.inl hx)
 simp only [nmsR,List.map_append,List.mem_append]
 exact .inr this
theorem bfsR_ok {nx:Nat→List Nat} {f:Nat} (hs:f ∉ nx f):∀ i,OkR nx f (bfsR nx f i)
 | 0=>trivial
 | i+1=>by
  have ih:=bfsR_ok hs i
  cases h:(qR f (bfsR nx f i))[i]? with
  | none=>rw [bfsR_none h];exact ih
  | some a =>
   rw [bfsR_take h]
   cases i with
   | zero =>
    cases (qR_zero f _).symm.trans h
    exact OkR.first _ _ (fun x hx=>hx) hs (by simp [bfsR,nmsR]) ih
   | succ i =>
    by_cases e:a=f
    ·subst e
     rw [fndL_same _ _ (bfsR_next0 nx _ i)]
     exact ih
    ·exact OkR.found e _ _ (fun x hx=>hx) (qR_succ h) ih
theorem bfsR_part {nx:Nat→List Nat} {f i a:Nat} (hs:f ∉ nx f) (h:(qR f (bfsR nx f i))[i]?=some a) {l m:List Nat} (hl:nx a=l++m):OkR nx f (fndL a (bfsR nx f i) l):=by
 have h1:=bfsR_ok (nx:=nx) hs (i+1)
 rw [bfsR_take h,hl,fndL_app] at h1
 obtain ⟨E,h2⟩:=fndL_suf a m (fndL a (bfsR nx f i) l)
 rw [h2] at h1
 exact OkR.tail _ _ h1
theorem OkR.nodup {nx:Nat→List Nat} {f:Nat}:∀ {R:List (Nat × Nat)},OkR nx f R→(nmsR R).Nodup
 | [],_=>List.nodup_nil
 | (n,a) :: R,h=>List.nodup_cons.mpr ⟨h.1,h.2.2.2.nodup⟩
theorem OkR.reach {nx:Nat→List Nat} {f:Nat}:∀ {R:List (Nat × Nat)},OkR nx f R→∀ x∈nmsR R,Reach nx f x
 | [],_,x,hx=>by simp [nmsR] at hx
 | (n,a) :: R,h,x,hx=>by
  rw [nmsR_cons,List.mem_cons] at hx
  rcases hx with rfl | hx
  ·rcases h.2.2.1 with ⟨rfl,_⟩ | ⟨_,ha⟩
   ·exact .one h.2.1
   ·exact .step (h.2.2.2.reach a ha) h.2.1
  ·exact h.2.2.2.reach x hx
def parR:List (Nat × Nat)→Nat→Nat
 | [],_=>0
 | (n,a) :: R,x=>if n=x then a else parR R x
def dstR:List (Nat × Nat)→Nat→Nat
 | [],_=>0
 | (n,a) :: R,x=>if n=x then dstR R a+1 else dstR R x
def wayR (f:Nat):List (Nat × Nat)→Nat→List Nat
 | [],x=>[x]
 | (n,a) :: R,x=>if n=x then (if a=f then [f] else wayR f R a)++[x] else wayR f R x
def toR (f:Nat) (R:List (Nat × Nat)) (a:Nat):List Nat:=if a=f then [f] else wayR f R a
theorem parR_mem {nx:Nat→List Nat} {f:Nat}:∀ {R:List (Nat × Nat)},OkR nx f R→∀ {x:Nat},x∈nmsR R→x∈nx (parR R x)∧(parR R x≠f→parR R x∈nmsR R)
 | [],_,x,hx=>by simp [nmsR] at hx
 | (n,a) :: R,h,x,hx=>by
  unfold parR
  by_cases e:n=x
  ·rw [if_pos e]
   subst e
   refine ⟨h.2.1,fun hne=>?_⟩
   rcases h.2.2.1 with ⟨e,_⟩ | ⟨_,ha⟩
   ·exact absurd e hne
   ·rw [nmsR_cons];exact List.mem_cons_of_mem _ ha
  ·rw [if_neg e]
   have hx2:x∈nmsR R:=by
    rw [nmsR_cons,List.mem_cons] at hx
    exact hx.resolve_left (fun h=>e h.symm)
   obtain ⟨h1,h2⟩:=parR_mem h.2.2.2 hx2
   exact ⟨h1,fun hne=>by rw [nmsR_cons];exact List.mem_cons_of_mem _ (h2 hne)⟩
theorem wayR_cons_ne {f n a x:Nat} {R:List (Nat × Nat)} (h:n≠x):wayR f ((n,a) :: R) x=wayR f R x:=by
 show (if n=x then _ else _)=_
 rw [if_neg h]
theorem wayR_step {nx:Nat→List Nat} {f:Nat}:∀ {R:List (Nat × Nat)},OkR nx f R→∀ {x:Nat},x∈nmsR R→wayR f R x=toR f R (parR R x)++[x]
 | [],_,x,hx=>by simp [nmsR] at hx
 | (n,a) :: R,h,x,hx=>by
  by_cases e:n=x
  ·subst e
   have hp:parR ((n,a) :: R) n=a:=by simp [parR]
   have hw:wayR f ((n,a) :: R) n=(if a=f then [f] else wayR f R a)++[n]:=by
    show (if n=n then _ else _)=_
    rw [if_pos rfl]
   rw [hp,hw]
   unfold toR
   by_cases e2:a=f
   ·rw [if_pos e2,if_pos e2]
   ·rw [if_neg e2,if_neg e2]
    have ha:a∈nmsR R:=(h.2.2.1.resolve_left (fun h=>e2 h.1)).2
    rw [wayR_cons_ne (fun e3=>h.1 (by rw [e3];exact ha))]
  ·have hx2:x∈nmsR R:=by
    rw [nmsR_cons,List.mem_cons] at hx
    exact hx.resolve_left (fun h=>e h.symm)
   have hp:parR ((n,a) :: R) x=parR R x:=by simp [parR,e]
   rw [wayR_cons_ne e,hp,wayR_step h.2.2.2 hx2]
   unfold toR
   by_cases e2:parR R x=f
   ·rw [if_pos e2,if_pos e2]
   ·rw [if_neg e2,if_neg e2]
    have ha:=(parR_mem h.2.2.2 hx2).2 e2
    rw [wayR_cons_ne (fun e3=>h.1 (by rw [e3];exact ha))]
theorem wayR_suf {nx:Nat→List Nat} {f:Nat}:∀ (E:List (Nat × Nat)) {R:List (Nat × Nat)},OkR nx f (E++R)→∀ {x:Nat},x∈nmsR R→wayR f (E++R) x=wayR f R x
 | [],R,_,x,_=>rfl
 | (n,a) :: E,R,h,x,hx=>by
  have h1:n ∉ nmsR (E++R):=h.1
  rw [nmsR_app,List.mem_append] at h1
  have hn:n≠x:=fun e=>h1 (.inr (e ▸ hx))
  rw [List.cons_append,wayR_cons_ne hn]
  exact wayR_suf E h.2.2.2 hx
theorem dstR_none:∀ {R:List (Nat × Nat)} {x:Nat},x ∉ nmsR R→dstR R x=0
 | [],_,_=>rfl
 | (n,a) :: R,x,h=>by
  rw [nmsR_cons,List.mem_cons] at h
  have e:n≠x:=fun e=>h (.inl e.symm)
  simp only [dstR,if_neg e]
  exact dstR_none (fun h2=>h (.inr h2))
theorem wayR_length {nx:Nat→List Nat} {f:Nat}:∀ {R:List (Nat × Nat)},OkR nx f R→∀ {x:Nat},x∈nmsR R→(wayR f R x).length=dstR R x+1
 | [],_,x,hx=>by simp [nmsR] at hx
 | (n,a) :: R,h,x,hx=>by
  by_cases e:n=x
  ·subst e
   have hw:wayR f ((n,a) :: R) n=(if a=f then [f] else wayR f R a)++[n]:=by
    show (if n=n then _ else _)=_
    rw [if_pos rfl]
   have hd:dstR ((n,a) :: R) n=dstR R a+1:=by simp [dstR]
   rw [hw,hd,List.length_append]
   rcases h.2.2.1 with ⟨e2,hf⟩ | ⟨e2,ha⟩
   ·rw [if_pos e2,dstR_none (e2 ▸ hf)]
    rfl
   ·rw [if_neg e2,wayR_length h.2.2.2 ha]
    rfl
  ·have hx2:x∈nmsR R:=by
    rw [nmsR_cons,List.mem_cons] at hx
    exact hx.resolve_left (fun h=>e h.symm)
   have hd:dstR ((n,a) :: R) x=dstR R x:=by simp [dstR,e]
   rw [wayR_cons_ne e,hd]
   exact wayR_length h.2.2.2 hx2
theorem dstR_le:∀ (R:List (Nat × Nat)) (x:Nat),dstR R x≤R.length
 | [],_=>Nat.le_refl _
 | (n,a) :: R,x=>by
  unfold dstR
  split
  ·have:=dstR_le R a
   simp only [List.length_cons];omega
  ·have:=dstR_le R x
   simp only [List.length_cons];omega
theorem wayR_last {nx:Nat→List Nat} {f:Nat} {R:List (Nat × Nat)} (h:OkR nx f R) {x:Nat} (hx:x∈nmsR R):(wayR f R x)[dstR R x]?=some x:=by
 have hl:=wayR_length h hx
 rw [wayR_step h hx,List.length_append] at hl
 simp only [List.length_cons,List.length_nil] at hl
 rw [wayR_step h hx,List.getElem?_append_right (by omega),show dstR R x-(toR f R (parR R x)).length=0 by omega]
 rfl
theorem bfsR_all {nx:Nat→List Nat} {f i:Nat} (hs:f ∉ nx f) (h:(bfsR nx f i).length+1≤i) (x:Nat):x∈nmsR (bfsR nx f i)↔Reach nx f x:=by
 refine ⟨(bfsR_ok hs i).reach x,fun hr=>?_⟩
 have hcl:∀ j a,j<i→(qR f (bfsR nx f i))[j]?=some a→∀ y∈nx a,y∈nmsR (bfsR nx f i):=by
  intro j a hj ha y hy
  obtain ⟨E,h1⟩:=bfsR_suf nx f j (i-j)
  rw [show j+(i-j)=i by omega] at h1
  by_cases hjl:j<(bfsR nx f j).length+1
  ·have h2:(qR f (bfsR nx f j))[j]?=some a:=by
    rw [h1] at ha
    rw [← ha]
    have:qR f (E++bfsR nx f j)=qR f (bfsR nx f j)++(nmsR E).reverse:=by simp [qR,nmsR]
    rw [this,List.getElem?_append_left (by rw [qR_length];omega)]
   obtain ⟨E',h3⟩:=bfsR_suf nx f (j+1) (i-(j+1))
   rw [show j+1+(i-(j+1))=i by omega,bfsR_take h2] at h3
   rw [h3]
   simp only [nmsR,List.map_append,List.mem_append]
   exact .inr ((mem_fndL _ _).mpr (.inl hy))
  ·have h4:=bfsR_stop (nx:=nx) (f:=f) (i:=j) (by omega) i (by omega)
   rw [h4] at ha
   have:=(List.getElem?_eq_some_iff.mp ha).1
   rw [qR_length] at this
   omega
 refine hr.least (F:=fun x=>x∈nmsR (bfsR nx f i)) (fun y hy=>?_) (fun z hz y hy=>?_)
 ·exact hcl 0 f (by omega) (qR_zero f _) y hy
 ·have hz2:z∈(nmsR (bfsR nx f i)).reverse:=by simpa using hz
  obtain ⟨k,hk⟩:=List.getElem?_of_mem hz2
  have hkl:=(List.getElem?_eq_some_iff.mp hk).1
  have:(nmsR (bfsR nx f i)).reverse.length=(bfsR nx f i).length:=by simp [nmsR]
  exact hcl (k+1) z (by omega) hk y hy
theorem nodup_below:∀ (n:Nat) (l:List Nat),l.Nodup→(∀ x∈l,x<n)→l.length≤n
 | 0,l,_,h=>by
  cases l with
  | nil=>exact Nat.le_refl _
  | cons x l=>exact absurd (h x (by simp)) (by omega)
 | n+1,l,hd,h=>by
  by_cases hn:n∈l
  ·have h1:=nodup_below n (l.erase n) (hd.erase n) (fun x hx=>by
    have h2:=h x (List.mem_of_mem_erase hx)
    have h3:x≠n:=fun e=>by
     subst e
     exact (List.Nodup.not_mem_erase hd) hx
    omega)
   rw [List.length_erase_of_mem hn] at h1
   omega
  ·have:=nodup_below n l hd (fun x hx=>by
    have h2:=h x hx
    have h3:x≠n:=fun e=>hn (e ▸ hx)
    omega)
   omega
theorem OkR.length {nx:Nat→List Nat} {f n:Nat} (hn:∀ a,∀ x∈nx a,x<n) {R:List (Nat × Nat)} (h:OkR nx f R):R.length≤n:=by
 have h1:=h.nodup
 have h2:∀ x∈nmsR R,x<n:=by
  intro x hx
  have:=(parR_mem h hx).1
  exact hn _ x this
 have h3:(nmsR R).length≤n:=by
  exact nodup_below n _ h1 h2
 simpa [nmsR] using h3
noncomputable def bfsE (nx:Nat→List Nat) (f:Nat):List (Nat × Nat):=Classical.choose (⟨_,rfl⟩:∃ R,R=bfsR nx f 62)
theorem bfsE_is (nx:Nat→List Nat) (f:Nat):∃ m,m=62∧bfsE nx f=bfsR nx f m:=⟨62,rfl,Classical.choose_spec (⟨_,rfl⟩:∃ R,R=bfsR nx f 62)⟩
theorem bfsE_ok {nx:Nat→List Nat} {f:Nat} (hs:f ∉ nx f):OkR nx f (bfsE nx f):=by
 obtain ⟨m,hm,h⟩:=bfsE_is nx f
 rw [h]
 exact bfsR_ok hs m
theorem bfsE_len {nx:Nat→List Nat} {f n:Nat} (hs:f ∉ nx f) (hn:∀ a,∀ x∈nx a,x<n):(bfsE nx f).length≤n:=(bfsE_ok hs).length hn
theorem mem_bfsE {nx:Nat→List Nat} {f n:Nat} (hs:f ∉ nx f) (hn:∀ a,∀ x∈nx a,x<n) (hle:n≤61) (x:Nat):x∈nmsR (bfsE nx f)↔Reach nx f x:=by
 have hl:=bfsE_len hs hn
 obtain ⟨m,hm,h⟩:=bfsE_is nx f
 rw [h] at hl ⊢
 exact bfsR_all hs (by omega) x
theorem bfsE_of {nx:Nat→List Nat} {f i n:Nat} (hs:f ∉ nx f) (hn:∀ a,∀ x∈nx a,x<n) (hle:n≤61) (h:(bfsR nx f i).length+1≤i):bfsR nx f i=bfsE nx f:=by
 have hl:=bfsE_len hs hn
 obtain ⟨m,hm,h2⟩:=bfsE_is nx f
 rw [h2] at hl ⊢
 rcases Nat.le_total i m with h1 | h1
 ·exact (bfsR_stop h m h1).symm
 ·exact bfsR_stop (by omega) i h1
theorem bfsE_suf {nx:Nat→List Nat} {f i n:Nat} (hs:f ∉ nx f) (hn:∀ a,∀ x∈nx a,x<n) (hle:n≤61):∃ E,bfsE nx f=E++bfsR nx f i:=by
 have hl:=bfsE_len hs hn
 obtain ⟨m,hm,h2⟩:=bfsE_is nx f
 rw [h2] at hl ⊢
 rcases Nat.le_total i m with h1 | h1
 ·obtain ⟨E,h⟩:=bfsR_suf nx f i (m-i)
  rw [show i+(m-i)=m by omega] at h
  exact ⟨E,h⟩
 ·exact ⟨[],(bfsR_stop (by omega) i h1).symm⟩
theorem bfsE_part {nx:Nat→List Nat} {f i a n:Nat} (hs:f ∉ nx f) (hn:∀ a,∀ x∈nx a,x<n) (hle:n≤61) (h:(qR f (bfsR nx f i))[i]?=some a) {l m:List Nat} (hl:nx a=l++m):∃ E,bfsE nx f=E++fndL a (bfsR nx f i) l:=by
 obtain ⟨E,h1⟩:=bfsE_suf (nx:=nx) (f:=f) (i:=i+1) hs hn hle
 rw [bfsR_take h,hl,fndL_app] at h1
 obtain ⟨E',h2⟩:=fndL_suf a m (fndL a (bfsR nx f i) l)
 exact ⟨E++E',by rw [h1,h2,List.append_assoc]⟩
noncomputable def wayE (nx:Nat→List Nat) (f x:Nat):List Nat:=wayR f (bfsE nx f) x
def NoSelf (k:Nat) (ds:List Nd):Prop:=∀ j d,ds[j]?=some d→((k+j:Nat):Int) ∉ d.next
theorem NoSelf.append {k:Nat} {A B:List Nd} (hA:NoSelf k A) (hB:NoSelf (k+A.length) B):NoSelf k (A++B):=by
 intro j d hj
 rcases Nat.lt_or_ge j A.length with h | h
 ·rw [List.getElem?_append_left h] at hj
  exact hA j d hj
 ·rw [List.getElem?_append_right h] at hj
  have:=hB _ d hj
  rwa [show k+A.length+(j-A.length)=k+j by omega] at this
theorem NoSelf.one {k:Nat} {d:Nd} (h:(k:Int) ∉ d.next):NoSelf k [d]:=by
 intro j e hj
 cases j with
 | zero=>cases hj;exact h
 | succ j=>simp at hj
theorem NoSelf.stPts (op x y n:Int) (k:Nat) (T E:List Nd) (hT:NoSelf (k+1) T) (hE:NoSelf (k+2+T.length) E):NoSelf k (stPts op x y n k T.length E.length T E):=by
 unfold Go.Proofs.YtedkkphogeealaaGreatDoor.stPts
 split
 ·refine NoSelf.append (A:=[_]) (NoSelf.one ?_) (NoSelf.append hT (NoSelf.append (A:=[_]) (NoSelf.one ?_) ?_))
  ·simp;omega
  ·simp;omega
  ·have e:k+[(⟨9,0,0,0,[((k+1:Nat):Int),((k+2+T.length:Nat):Int)]⟩:Nd)].length+T.length+[(⟨10,0,0,1,[((k+2+T.length+E.length:Nat):Int)]⟩:Nd)].length=k+2+T.length:=by simp;omega
   rw [e]
   exact hE
 ·split
  ·refine NoSelf.append (A:=[_]) (NoSelf.one ?_) (NoSelf.append hT (NoSelf.one ?_))
   ·simp;omega
   ·simp;omega
  ·exact NoSelf.one (by simp;omega)
theorem Sts.pts_self (s:Sts):∀ k,NoSelf k (s.pts k):=by
 induction s with
 | nil=>intro k j d hj;simp [Sts.pts] at hj
 | cons op x y n t e r iht ihe ihr =>
  intro k
  rw [Sts.pts_cons]
  have h:=NoSelf.stPts op x y n k (t.pts (k+1)) (e.pts (k+2+t.npts)) (iht _) (by rw [t.pts_len];exact ihe _)
  rw [t.pts_len,e.pts_len] at h
  refine h.append ?_
  rw [stPts_len _ _ _ _ _ _ _ _ _ (t.pts_len _) (e.pts_len _)]
  exact ihr _
theorem progPts_self (s:Sts):NoSelf 0 (progPts s):=(s.pts_self 0).append (NoSelf.one (by simp))
theorem nextN_self (s:Sts) (a:Nat):a ∉ nextN (progPts s) a:=by
 intro h
 unfold nextN at h
 obtain ⟨v,hv,hva⟩:=List.mem_map.mp h
 cases hd:(progPts s)[a]? with
 | none=>simp [nextP,hd] at hv
 | some d =>
  rw [nextP_some hd] at hv
  have h0:=progPts_self s a d hd
  rw [Nat.zero_add] at h0
  have hi:0≤v:=by
   have hm:d∈progPts s:=List.mem_of_getElem? hd
   rcases List.mem_append.mp hm with hm | hm
   ·have:=(s.pts_ok 0 d hm).2.2 v hv
    omega
   ·have:d=⟨11,0,0,0,[]⟩:=by simpa using hm
    subst this
    cases hv
  exact h0 (by rw [← hva,Int.toNat_of_nonneg hi];exact hv)
theorem nextN_lt {q:Nat} {ns:List Nd} (hD:PtsOk q ns) (a x:Nat) (h:x∈nextN ns a):x<ns.length:=by
 cases hd:ns[a]? with
 | none =>
  unfold nextN at h
  simp [nextP,hd] at h
 | some d=>exact (nextN_ints hD hd).2 x h
def UsP (ts:List Int) (ns:List Nd) (l i:Nat):Prop:=∃ (v:Nat) (d:Nd),v<ts.length∧ns[i]?=some d∧LoanB ts ns i v l∧useI ts d (v:Int)≠0
def UaP (ts:List Int) (ns:List Nd) (a l i:Nat):Prop:=Reach (nextN ns) a i∧UsP ts ns l i
noncomputable def uaB (ts:List Int) (ns:List Nd) (a l i:Nat):Bool:=@decide (UaP ts ns a l i) (Classical.propDecidable _)
theorem uaB_iff {ts:List Int} {ns:List Nd} {a l i:Nat}:uaB ts ns a l i=true↔UaP ts ns a l i:=by simp [uaB]
def bestF (D:Nat→Nat) (P:Nat→Bool):Nat→Option Nat
 | 0=>none
 | n+1=>if P n=true∧(∀ b,bestF D P n=some b→D n<D b) then some n else bestF D P n
theorem bestF_no {D:Nat→Nat} {P:Nat→Bool} {n:Nat} (h:P n=false):bestF D P (n+1)=bestF D P n:=by
 simp only [bestF,h,Bool.false_eq_true,false_and,if_false]
theorem bestF_first {D:Nat→Nat} {P:Nat→Bool} {n:Nat} (h:P n=true) (h0:bestF D P n=none):bestF D P (n+1)=some n:=by
 simp only [bestF,h,h0]
 simp
theorem bestF_less {D:Nat→Nat} {P:Nat→Bool} {n b:Nat} (h:P n=true) (h0:bestF D P n=some b) (hl:D n<D b):bestF D P (n+1)=some n:=by
 unfold bestF
 rw [if_pos ⟨h,fun x hx=>by rw [h0] at hx;injection hx with hx;subst hx;exact hl⟩]
theorem bestF_more {D:Nat→Nat} {P:Nat→Bool} {n b:Nat} (h0:bestF D P n=some b) (hl:D b≤D n):bestF D P (n+1)=some b:=by
 unfold bestF
 rw [if_neg,h0]
 rintro ⟨_,h⟩
 have:=h b h0
 omega
def minL (D:Nat→Nat) (m:Nat):List Nat→Nat
 | []=>m
 | x :: xs=>minL D (if D x<D m then x else m) xs
theorem minL_snoc (D:Nat→Nat) (x:Nat):∀ (l:List Nat) (m:Nat),minL D m (l++[x])=if D x<D (minL D m l) then x else minL D m l
 | [],m=>rfl
 | y :: ys,m=>minL_snoc D x ys _
def bestL (D:Nat→Nat):List Nat→Option Nat
 | []=>none
 | x :: xs=>some (minL D x xs)
theorem bestF_list (D:Nat→Nat) (P:Nat→Bool):∀ n,bestF D P n=bestL D ((List.range n).filter P)
 | 0=>rfl
 | n+1=>by
  have h:=bestF_list D P n
  rw [List.range_succ,List.filter_append]
  cases hp:P n
  ·rw [bestF_no hp,h]
   simp [hp]
  ·have e:[n].filter P=[n]:=by simp [hp]
   rw [e]
   generalize (List.range n).filter P=l at h ⊢
   cases l with
   | nil=>exact bestF_first hp h
   | cons y ys =>
    show bestF D P (n+1)=some (minL D y (ys++[n]))
    rw [minL_snoc]
    by_cases hl:D n<D (minL D y ys)
    ·rw [if_pos hl,bestF_less hp h hl]
    ·rw [if_neg hl,bestF_more h (by omega)]
theorem filter_more (P:Nat→Bool) (n:Nat) (h:∀ i,P i=true→i<n):∀ d,(List.range (n+d)).filter P=(List.range n).filter P
 | 0=>rfl
 | d+1=>by
  rw [← Nat.add_assoc,List.range_succ,List.filter_append,filter_more P n h d]
  have:P (n+d)=false:=by
   cases hp:P (n+d)
   ·rfl
   ·have:=h _ hp
    omega
  simp [this]
def InUA (ts:List Int) (s:Sts) (a l:Int):Prop:=validB ts s=true∧0≤a∧a<(progPts s).length∧0≤l∧l<(progPts s).length
open Classical in
noncomputable def uaR (ts:List Int) (s:Sts) (a l:Int):Option Nat:=if InUA ts s a l then bestF (dstR (bfsE (nextN (progPts s)) a.toNat)) (uaB ts (progPts s) a.toNat l.toNat) (progPts s).length else none
def AnsUA (ts:List Int) (s:Sts) (a l u:Int) (r:Bool):Prop:=u=(((uaR ts s a l).getD 0:Nat):Int)∧r=(uaR ts s a l).isSome
theorem ansUA_out {ts:List Int} {s:Sts} {a l:Int} (h:¬ InUA ts s a l):AnsUA ts s a l 0 false:=by
 have:uaR ts s a l=none:=by unfold uaR;rw [if_neg h]
 exact ⟨by rw [this];rfl,by rw [this];rfl⟩
theorem ansUA_some {ts:List Int} {s:Sts} {a l b:Nat} (h:InUA ts s a l) (hb:bestF (dstR (bfsE (nextN (progPts s)) a)) (uaB ts (progPts s) a l) (progPts s).length=some b):AnsUA ts s a l (b:Int) true:=by
 have:uaR ts s a l=some b:=by unfold uaR;rw [if_pos h];simpa using hb
 exact ⟨by rw [this];rfl,by rw [this];rfl⟩
theorem ansUA_none {ts:List Int} {s:Sts} {a l:Nat} (h:InUA ts s a l) (hb:bestF (dstR (bfsE (nextN (progPts s)) a)) (uaB ts (progPts s) a l) (progPts s).length=none):AnsUA ts s a l 0 false:=by
 have:uaR ts s a l=none:=by unfold uaR;rw [if_pos h];simpa using hb
 exact ⟨by rw [this];rfl,by rw [this];rfl⟩
theorem drop_cons_of {l:List Nat} {i a:Nat} {V:List Nat} (h:l.drop i=a :: V):l[i]?=some a∧V=l.drop (i+1)∧i<l.length:=by
 have hi:i<l.length:=by
  rcases Nat.lt_or_ge i l.length with h1 | h1
  ·exact h1
  ·rw [List.drop_eq_nil_of_le h1] at h
   cases h
 rw [List.drop_eq_getElem_cons hi] at h
 injection h with h1 h2
 exact ⟨by rw [List.getElem?_eq_getElem hi,h1],h2.symm,hi⟩
theorem qR_cons (f n a:Nat) (R:List (Nat × Nat)):qR f ((n,a) :: R)=qR f R++[n]:=by simp [qR,nmsR]
theorem qR_drop_snoc {f n a i:Nat} {R:List (Nat × Nat)} (h:i≤(qR f R).length):(qR f ((n,a) :: R)).drop i=(qR f R).drop i++[n]:=by
 rw [qR_cons,List.drop_append_of_le_length h]
structure BfI (nx:Nat→List Nat) (f i a j:Nat) (R:List (Nat × Nat)):Prop where
 here:(qR f (bfsR nx f i))[i]?=some a
 le:j≤(nx a).length
 eq:R=fndL a (bfsR nx f i) ((nx a).take j)
theorem BfI.start {nx:Nat→List Nat} {f i a:Nat} {V:List Nat} (h:(qR f (bfsR nx f i)).drop i=a :: V):BfI nx f i a 0 (bfsR nx f i) :=
 ⟨(drop_cons_of h).1,Nat.zero_le _,rfl⟩
theorem BfI.next {nx:Nat→List Nat} {f i a j n:Nat} {R:List (Nat × Nat)} (h:BfI nx f i a j R) (hn:(nx a)[j]?=some n):BfI nx f i a (j+1) (fnd1 a R n):=by
 have hj:=(List.getElem?_eq_some_iff.mp hn).1
 refine ⟨h.here,hj,?_⟩
 rw [List.take_add_one,hn,fndL_app,← h.eq]
 rfl
theorem BfI.done {nx:Nat→List Nat} {f i a:Nat} {R:List (Nat × Nat)} (h:BfI nx f i a (nx a).length R):R=bfsR nx f (i+1):=by
 rw [h.eq,List.take_length,bfsR_take h.here]
theorem BfI.ok {nx:Nat→List Nat} {f i a j:Nat} {R:List (Nat × Nat)} (h:BfI nx f i a j R) (hs:f ∉ nx f):OkR nx f R:=by
 rw [h.eq]
 exact bfsR_part hs h.here (List.take_append_drop j (nx a)).symm
theorem BfI.suf {nx:Nat→List Nat} {f i a j n:Nat} {R:List (Nat × Nat)} (h:BfI nx f i a j R) (hs:f ∉ nx f) (hn:∀ a,∀ x∈nx a,x<n) (hle:n≤61):∃ E,bfsE nx f=E++R:=by
 rw [h.eq]
 exact bfsE_part hs hn hle h.here (List.take_append_drop j (nx a)).symm
theorem BfI.lt {nx:Nat→List Nat} {f i a j:Nat} {R:List (Nat × Nat)} (h:BfI nx f i a j R):i+1≤(qR f R).length:=by
 obtain ⟨E,hE⟩:=fndL_suf a ((nx a).take j) (bfsR nx f i)
 have h1:=(List.getElem?_eq_some_iff.mp h.here).1
 rw [h.eq,hE,qR_length,List.length_append]
 rw [qR_length] at h1
 omega
theorem BfI.way {nx:Nat→List Nat} {f i a j n x:Nat} {R:List (Nat × Nat)} (h:BfI nx f i a j R) (hs:f ∉ nx f) (hn:∀ a,∀ x∈nx a,x<n) (hle:n≤61) (hx:x∈nmsR R):x∈nmsR (bfsE nx f)∧wayE nx f x=wayR f R x:=by
 obtain ⟨E,hE⟩:=h.suf hs hn hle
 have hok:=bfsE_ok hs
 refine ⟨by rw [hE,nmsR_app,List.mem_append];exact .inr hx,?_⟩
 unfold wayE
 rw [hE] at hok ⊢
 exact wayR_suf E hok hx
theorem below_set13 {B b o:Nat} {w w':World} {v:Value} (h:Below B w w') (hb:B≤b):Below B w (w'.setCell ⟨b,o,none⟩ v) :=
 ⟨h.os,h.tape,h.output,by have:=h.size;simpa [World.setCell] using this,fun k hk=>(heap_setCell_other _ _ _ _ (by simp;omega)).trans (h.block k hk)⟩
def WayPost13 (nx:Nat→List Nat) (f to:Nat) (w:World) (E:Ending) (w':World):Prop :=
 ∃ v,(to∈nmsR (bfsE nx f)∧E=.returned (.tuple #[v,.bool true])∧RowI w' w.heap.size v (intsW (wayE nx f to))∨to ∉ nmsR (bfsE nx f)∧E=.returned (.tuple #[v,.bool false])∧RowI w' w.heap.size v [])∧Below w.heap.size w w'
end Go.Proofs.YtedkkphogeealaaGreatDoor
