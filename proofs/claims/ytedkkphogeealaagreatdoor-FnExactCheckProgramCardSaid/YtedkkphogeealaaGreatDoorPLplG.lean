/- Loans that come to a point: plain. The least sets of pairs of a place and a loan that have -/
import Derived.Test.YtedkkphogeealaaGreatDoorPMem
import Derived.Test.YtedkkphogeealaaGreatDoorPPerG
namespace Go.Proofs.YtedkkphogeealaaGreatDoor
set_option linter.unusedVariables false
inductive LFlo (e:Nat→Nat→Prop) (G:Nat→Nat→Nat→Prop) (T:Nat→Nat→Nat→Nat→Prop):Nat→Nat→Nat→Prop
 | gen {k m v l:Nat}:e k m→G k v l→LFlo e G T m v l
 | step {k m u v l:Nat}:e k m→LFlo e G T k u l→T k u v l→LFlo e G T m v l
def Beh (G:Nat→Nat→Nat→Prop) (T:Nat→Nat→Nat→Nat→Prop) (k:Nat) (S:Nat→Nat→Prop) (v l:Nat):Prop:=G k v l∨∃ u,u<7∧S u l∧T k u v l
def bitR (x:Nat→Nat) (u l:Nat):Prop:=(x u).testBit l=true
def setP (f:Nat→Nat→Nat) (i:Nat) (v:Nat→Nat):Nat→Nat→Nat:=fun j=>if j=i then v else f j
theorem setP_at (f:Nat→Nat→Nat) (i:Nat) (v:Nat→Nat):setP f i v i=v:=by simp [setP]
theorem setP_ne (f:Nat→Nat→Nat) (i:Nat) (v:Nat→Nat) {j:Nat} (h:j≠i):setP f i v j=f j:=by simp [setP,h]
theorem or_lt61 {x y:Nat} (hx:x<2305843009213693952) (hy:y<2305843009213693952):x|||y<2305843009213693952:=Nat.or_lt_two_pow (n:=61) hx hy
structure LIn (e:Nat→Nat→Prop) (G:Nat→Nat→Nat→Prop) (T:Nat→Nat→Nat→Nat→Prop) (n:Nat) (kn:Nat→Nat→Nat) (W:Nat→Prop):Prop where
 lt:∀ m v,kn m v<2305843009213693952
 sound:∀ m,m<n→∀ v,v<7→∀ l,bitR (kn m) v l→LFlo e G T m v l
 next:∀ k,k<n→¬ W k→∀ m,e k m→∀ v,v<7→∀ l,Beh G T k (bitR (kn k)) v l→bitR (kn m) v l
theorem LFlo.place {e:Nat→Nat→Prop} {G:Nat→Nat→Nat→Prop} {T:Nat→Nat→Nat→Nat→Prop} (hG:∀ k v l,G k v l→v<7) (hT:∀ k u v l,T k u v l→v<7) {m v l:Nat} (h:LFlo e G T m v l):v<7:=by
 cases h with
 | gen _ h=>exact hG _ _ _ h
 | step _ _ h=>exact hT _ _ _ _ h
theorem LIn.last {e:Nat→Nat→Prop} {G:Nat→Nat→Nat→Prop} {T:Nat→Nat→Nat→Nat→Prop} {n:Nat} {kn:Nat→Nat→Nat} {W:Nat→Prop} (h:LIn e G T n kn W) (hW:∀ k,¬ W k) (hE:∀ a b,e a b→a<n) (hG:∀ k v l,G k v l→v<7) (hT:∀ k u v l,T k u v l→v<7) {m v l:Nat} (hm:m<n) (hv:v<7):bitR (kn m) v l↔LFlo e G T m v l:=by
 refine ⟨h.sound m hm v hv l,fun hf=>?_⟩
 clear hm
 induction hf with
 | gen h1 h2=>exact h.next _ (hE _ _ h1) (hW _) _ h1 _ hv _ (.inl h2)
 | step h1 h2 h3 ih =>
  have hu:=h2.place hG hT
  exact h.next _ (hE _ _ h1) (hW _) _ h1 _ hv _ (.inr ⟨_,hu,ih hu,h3⟩)
structure LAt (e:Nat→Nat→Prop) (G:Nat→Nat→Nat→Prop) (T:Nat→Nat→Nat→Nat→Prop) (n:Nat) (kn:Nat→Nat→Nat) (W:Nat→Prop) (a:Nat) (x0 y:Nat→Nat) (D:Nat→Prop):Prop where
 lt:∀ m v,kn m v<2305843009213693952
 ylt:∀ v,y v<2305843009213693952
 sound:∀ m,m<n→∀ v,v<7→∀ l,bitR (kn m) v l→LFlo e G T m v l
 behind:∀ v,v<7→∀ l,(bitR y v l↔Beh G T a (bitR x0) v l)
 old:∀ v,v<7→∀ l,bitR x0 v l→LFlo e G T a v l
 here:¬ W a→kn a=x0
 next:∀ k,k<n→¬ W k→∀ m,e k m→(k=a→D m)→∀ v,v<7→∀ l,Beh G T k (bitR (kn k)) v l→bitR (kn m) v l
section
variable {e:Nat→Nat→Prop} {G:Nat→Nat→Nat→Prop} {T:Nat→Nat→Nat→Nat→Prop} {n:Nat} {kn:Nat→Nat→Nat} {W W':Nat→Prop} {a:Nat} {x0 y:Nat→Nat} {D D':Nat→Prop} {b:Nat}
theorem LIn.take (h:LIn e G T n kn W) (ha:a<n) (hy:∀ v,y v<2305843009213693952) (hb:∀ v,v<7→∀ l,(bitR y v l↔Beh G T a (bitR (kn a)) v l)) (hW:∀ k,W k→W' k∨k=a):LAt e G T n kn W' a (kn a) y (fun _=>False) :=
 ⟨h.lt,hy,h.sound,hb,h.sound a ha,fun _=>rfl,fun k hk hw m hm hD v hv l hg=>by
  by_cases hka:k=a
  ·exact absurd (hD hka) id
  ·refine h.next k hk (fun hWk=>?_) m hm v hv l hg
   rcases hW k hWk with h1 | h1
   ·exact hw h1
   ·exact hka h1⟩
theorem LAt.done (h:LAt e G T n kn W a x0 y D) (hD:∀ m,e a m→D m):LIn e G T n kn W :=
 ⟨h.lt,h.sound,fun k hk hw m hm v hv l hg=>h.next k hk hw m hm (fun e'=>hD m (e' ▸ hm)) v hv l hg⟩
theorem LAt.less (h:LAt e G T n kn W a x0 y D) (hD:∀ m,D' m→D m):LAt e G T n kn W a x0 y D' :=
 ⟨h.lt,h.ylt,h.sound,h.behind,h.old,h.here,fun k hk hw m hm hDm=>h.next k hk hw m hm (fun e'=>hD m (hDm e'))⟩
theorem bitR_or (x y:Nat→Nat) (v l:Nat):bitR (fun v=>x v|||y v) v l↔bitR x v l∨bitR y v l:=by
 unfold bitR
 rw [Nat.testBit_or,Bool.or_eq_true]
theorem LAt.same (h:LAt e G T n kn W a x0 y D) (hj:∀ v,v<7→kn b v|||y v=kn b v) (hD:∀ m,D' m→D m∨m=b):LAt e G T n kn W a x0 y D' :=
 ⟨h.lt,h.ylt,h.sound,h.behind,h.old,h.here,fun k hk hw m hm hDm v hv l hg=>by
  by_cases hka:k=a
  ·subst hka
   rcases hD m (hDm rfl) with h1 | h1
   ·exact h.next k hk hw m hm (fun _=>h1) v hv l hg
   ·subst h1
    have h2:bitR (fun v=>kn m v|||y v) v l:=(bitR_or _ _ _ _).mpr (.inr ((h.behind v hv l).mpr (by rw [← h.here hw];exact hg)))
    unfold bitR at h2 ⊢
    rw [← hj v hv]
    exact h2
  ·exact h.next k hk hw m hm (fun e'=>absurd e' hka) v hv l hg⟩
theorem LAt.more (h:LAt e G T n kn W a x0 y D) (hab:e a b) {z:Nat→Nat} (hz:∀ v,z v=kn b v|||y v) (hW:∀ k,W' k↔W k∨k=b) (hD:∀ m,D' m→D m∨m=b):LAt e G T n (setP kn b z) W' a x0 y D':=by
 have hzb:∀ v l,bitR z v l↔bitR (kn b) v l∨bitR y v l:=by
  intro v l
  unfold bitR
  rw [hz v,Nat.testBit_or,Bool.or_eq_true]
 have hmono:∀ m v l,bitR (kn m) v l→bitR (setP kn b z m) v l:=by
  intro m v l hd
  by_cases hmb:m=b
  ·subst hmb
   rw [setP_at]
   exact (hzb _ _).mpr (.inl hd)
  ·rw [setP_ne _ _ _ hmb];exact hd
 refine ⟨fun m v=>?_,h.ylt,fun m hm v hv l hd=>?_,h.behind,h.old,fun hw=>?_,fun k hk hw m hm hDm v hv l hg=>?_⟩
 ·by_cases hmb:m=b
  ·rw [hmb,setP_at,hz];exact or_lt61 (h.lt b v) (h.ylt v)
  ·rw [setP_ne _ _ _ hmb];exact h.lt m v
 ·by_cases hmb:m=b
  ·subst hmb
   rw [setP_at] at hd
   rcases (hzb _ _).mp hd with h1 | h1
   ·exact h.sound m hm v hv l h1
   ·rcases (h.behind v hv l).mp h1 with h2 | ⟨u,hu,h2,h3⟩
    ·exact .gen hab h2
    ·exact .step hab (h.old u hu l h2) h3
  ·rw [setP_ne _ _ _ hmb] at hd
   exact h.sound m hm v hv l hd
 ·have:¬ (W a∨a=b):=fun h'=>hw ((hW a).mpr h')
  rw [setP_ne _ _ _ (fun e'=>this (.inr e'))]
  exact h.here (fun h'=>this (.inl h'))
 ·have hwk:¬ (W k∨k=b):=fun h'=>hw ((hW k).mpr h')
  have hkb:k≠b:=fun e'=>hwk (.inr e')
  rw [setP_ne _ _ _ hkb] at hg
  by_cases hka:k=a
  ·subst hka
   rcases hD m (hDm rfl) with h1 | h1
   ·exact hmono _ _ _ (h.next k hk (fun h'=>hwk (.inl h')) m hm (fun _=>h1) v hv l hg)
   ·subst h1
    rw [setP_at]
    refine (hzb _ _).mpr (.inr ((h.behind v hv l).mpr ?_))
    rw [← h.here (fun h'=>hwk (.inl h'))]
    exact hg
  ·exact hmono _ _ _ (h.next k hk (fun h'=>hwk (.inl h')) m hm (fun e'=>absurd e' hka) v hv l hg)
end
theorem LIn.start {e:Nat→Nat→Prop} {G:Nat→Nat→Nat→Prop} {T:Nat→Nat→Nat→Nat→Prop} {n:Nat} {W:Nat→Prop} (hW:∀ k,k<n→W k):LIn e G T n (fun _ _=>0) W:=by
 refine ⟨fun _ _=>by decide,fun m hm v hv l hb=>?_,fun k hk hw=>absurd (hW k hk) hw⟩
 unfold bitR at hb
 simp at hb
theorem sumTo_le {f g:Nat→Nat}:∀ {n:Nat},(∀ i,i<n→g i≤f i)→sumTo g n≤sumTo f n
 | 0,_=>Nat.le_refl _
 | n+1,h=>by
  unfold sumTo
  have:=sumTo_le (n:=n) (f:=f) (g:=g) (fun i hi=>h i (by omega))
  have:=h n (by omega)
  omega
theorem sumTo_lt {f g:Nat→Nat} {k:Nat}:∀ {n:Nat},k<n→g k<f k→(∀ i,i<n→g i≤f i)→sumTo g n<sumTo f n
 | 0,h,_,_=>by omega
 | n+1,h,h1,h2=>by
  unfold sumTo
  by_cases hk:k=n
  ·subst hk
   have:=sumTo_le (n:=k) (f:=f) (g:=g) (fun i hi=>h2 i (by omega))
   omega
  ·have:=sumTo_lt (n:=n) (f:=f) (g:=g) (by omega) h1 (fun i hi=>h2 i (by omega))
   have:=h2 n (by omega)
   omega
def wtP (x:Nat→Nat):Nat:=sumTo (fun v=>2305843009213693952-x v) 7
theorem wtP_or {x y z:Nat→Nat} (hx:∀ v,x v<2305843009213693952) (hz:∀ v,z v=x v|||y v) (h:∃ v,v<7∧z v≠x v):wtP z<wtP x:=by
 obtain ⟨v,hv,hne⟩:=h
 have hle:∀ i,x i≤z i:=fun i=>by rw [hz];exact Nat.left_le_or
 unfold wtP
 refine sumTo_lt hv ?_ (fun i _=>?_)
 ·have:=hle v
  have:=hx v
  omega
 ·have:=hle i
  omega
theorem wtP_set {kn:Nat→Nat→Nat} {n b:Nat} {y z:Nat→Nat} (hb:b<n) (hx:∀ v,kn b v<2305843009213693952) (hz:∀ v,z v=kn b v|||y v) (h:∃ v,v<7∧z v≠kn b v):sumTo (fun m=>wtP (setP kn b z m)) n<sumTo (fun m=>wtP (kn m)) n:=by
 refine sumTo_less hb ?_ (fun i hi=>?_)
 ·rw [setP_at];exact wtP_or hx hz h
 ·rw [setP_ne _ _ _ hi]
def loanN (ns:List Nd) (l:Nat) (v:Int):Prop:=∃ d,ns[l]?=some d∧(d.op=4∨d.op=5)∧d.y=v
def lostN (ts:List Int) (ns:List Nd) (k v:Nat):Prop:=usesN ts ns k v 2∨setsN ns k v
def genL (ns:List Nd) (k v l:Nat):Prop:=∃ d,ns[k]?=some d∧(d.op=4∨d.op=5)∧l=k∧(v=6∨d.x=(v:Int))∧v<7
def handL (ts:List Int) (ns:List Nd) (k u v l:Nat):Prop :=
 (v<6∧u<6∧((∃ d,ns[k]?=some d∧(d.op=3∨d.op=4∨d.op=5)∧d.x=(v:Int)∧d.y=(u:Int))∨(u=v∧¬ lostN ts ns k v))) ∨
 (v=6∧u=6∧∀ z:Nat,z<6→lostN ts ns k z→¬ loanN ns l z)
def LoanB (ts:List Int) (ns:List Nd):Nat→Nat→Nat→Prop:=LFlo (eN ns) (genL ns) (handL ts ns)
theorem genL_place (ns:List Nd) (k v l:Nat) (h:genL ns k v l):v<7:=by
 obtain ⟨_,_,_,_,_,h⟩:=h
 exact h
theorem handL_place (ts:List Int) (ns:List Nd) (k u v l:Nat) (h:handL ts ns k u v l):v<7:=by
 rcases h with ⟨h,_⟩ | ⟨h,_⟩ <;> omega
theorem LoanB.loan {ts:List Int} {ns:List Nd} {m v l:Nat} (h:LoanB ts ns m v l):∃ d,ns[l]?=some d∧(d.op=4∨d.op=5):=by
 induction h with
 | gen _ h =>
  obtain ⟨d,h1,h2,rfl,_⟩:=h
  exact ⟨d,h1,h2⟩
 | step _ _ _ ih=>exact ih
def okP (T v:Nat):Prop:=v<T∨v=6
def flP (o:Nat→Nat→Bool) (v l:Nat):Prop:=o v l=true
structure P4 (e:Nat→Nat→Prop) (G:Nat→Nat→Nat→Prop) (H:Nat→Nat→Nat→Nat→Prop) (n T:Nat) (o:Nat→Nat→Nat→Bool) (c:Bool) (D:Nat→Nat→Prop):Prop where
 dom:∀ m v l,o m v l=true→okP T v∧l<n
 sound:∀ m v l,m<n→o m v l=true→LFlo e G H m v l
 done:c=false→∀ i m,D i m→e i m→∀ v l,okP T v→l<n→Beh G H i (flP (o i)) v l→o m v l=true
theorem P4.last {e:Nat→Nat→Prop} {G:Nat→Nat→Nat→Prop} {H:Nat→Nat→Nat→Nat→Prop} {n T:Nat} {o:Nat→Nat→Nat→Bool} {D:Nat→Nat→Prop} (h:P4 e G H n T o false D) (hD:∀ i m,e i m→D i m) (hP:∀ m v l,LFlo e G H m v l→okP T v∧l<n) (hG:∀ k v l,G k v l→v<7) (hT:∀ k u v l,H k u v l→v<7) {m v l:Nat} (hm:m<n):o m v l=true↔LFlo e G H m v l:=by
 refine ⟨h.sound m v l hm,fun hf=>?_⟩
 clear hm
 have hp:=hP _ _ _ hf
 induction hf with
 | gen h1 h2=>exact h.done rfl _ _ (hD _ _ h1) h1 _ _ hp.1 hp.2 (.inl h2)
 | step h1 h2 h3 ih=>exact h.done rfl _ _ (hD _ _ h1) h1 _ _ hp.1 hp.2 (.inr ⟨_,h2.place hG hT,ih (hP _ _ _ h2),h3⟩)
theorem P4.congr {e:Nat→Nat→Prop} {G:Nat→Nat→Nat→Prop} {H:Nat→Nat→Nat→Nat→Prop} {n T:Nat} {o:Nat→Nat→Nat→Bool} {c:Bool} {D D':Nat→Nat→Prop} (h:P4 e G H n T o c D) (hD:∀ i m,e i m→D' i m→D i m):P4 e G H n T o c D' :=
 ⟨h.dom,h.sound,fun hc i m hd he=>h.done hc i m (hD i m he hd) he⟩
theorem P4.same {e:Nat→Nat→Prop} {G:Nat→Nat→Nat→Prop} {H:Nat→Nat→Nat→Nat→Prop} {n T:Nat} {o:Nat→Nat→Nat→Bool} {c:Bool} {D D':Nat→Nat→Prop} {a b:Nat} {x:Nat→Nat→Bool} (h:P4 e G H n T o c D)
  (hx:c=false→∀ v l,okP T v→l<n→Beh G H a (flP (o a)) v l→x v l=true) (hs:∀ v l,okP T v→l<n→x v l=true→o b v l=true) (hD:∀ i m,D' i m→D i m∨(i=a∧m=b)):P4 e G H n T o c D' :=
 ⟨h.dom,h.sound,fun hc i m hd he v l hv hl hb=>by
  rcases hD i m hd with h1 | ⟨rfl,rfl⟩
  ·exact h.done hc i m h1 he v l hv hl hb
  ·exact hs v l hv hl (hx hc v l hv hl hb)⟩
theorem P4.more {e:Nat→Nat→Prop} {G:Nat→Nat→Nat→Prop} {H:Nat→Nat→Nat→Nat→Prop} {n T:Nat} {o o':Nat→Nat→Nat→Bool} {c:Bool} {D D':Nat→Nat→Prop} {b:Nat} {x:Nat→Nat→Bool} (h:P4 e G H n T o c D)
  (hx:∀ v l,x v l=true→okP T v∧l<n) (hs:∀ v l,x v l=true→LFlo e G H b v l) (ho:∀ m v l,o' m v l=(o m v l || (decide (m=b) && x v l))):P4 e G H n T o' true D':=by
 refine ⟨fun m v l hm=>?_,fun m v l hmn hm=>?_,fun hc=>by cases hc⟩
 ·rw [ho,Bool.or_eq_true,Bool.and_eq_true] at hm
  rcases hm with hm | ⟨_,hm⟩
  ·exact h.dom m v l hm
  ·exact hx v l hm
 ·rw [ho,Bool.or_eq_true,Bool.and_eq_true] at hm
  rcases hm with hm | ⟨h1,hm⟩
  ·exact h.sound m v l hmn hm
  ·rw [decide_eq_true_eq] at h1
   subst h1
   exact hs v l hm
noncomputable def aftF (ts:List Int) (ns:List Nd) (a:Nat) (d:Nd) (S:Nat→Nat→Bool) (v l:Nat):Bool :=
 if v=6 then (decide (d.op=4∨d.op=5) && decide (l=a)) || (S 6 l && !(@decide (∃ z:Nat,z<6∧lostN ts ns a z∧loanN ns l z) (Classical.propDecidable _)))
 else if setI d=(v:Int) then
  (decide (d.op=4∨d.op=5) && decide (l=a)) || (decide (d.op=3∨((d.op=4∨d.op=5)∧(tyAt ts d.y=3∨tyAt ts d.y=4))) && S d.y.toNat l)
 else if useI ts d (v:Int)=2 then false else S v l
theorem LoanB.ref {ts:List Int} {ns:List Nd} (hA:AllTyped ts ns) {m v l:Nat} (h:LoanB ts ns m v l):v<6→tyAt ts (v:Int)=3∨tyAt ts (v:Int)=4:=by
 induction h with
 | gen _ h =>
  intro hv
  obtain ⟨d,hd,hop,rfl,hx,_⟩:=h
  have hx:d.x=_:=hx.resolve_left (by omega)
  rcases hA.2 _ d hd with ⟨_,_,h3⟩ | ⟨h3,_⟩
  ·rw [← hx]
   rcases hop with h4 | h4 <;> rw [h4] at h3 <;> simp [simpleB] at h3 <;> simp [h3]
  ·omega
 | step _ _ h ih =>
  intro hv
  rcases h with ⟨_,hu,⟨d,hd,hop,hx,hy⟩ | ⟨rfl,_⟩⟩ | ⟨h6,_⟩
  ·have ih:=ih hu
   rw [← hy] at ih
   rw [← hx]
   rcases hA.2 _ d hd with ⟨_,_,h3⟩ | ⟨h3,_⟩
   ·rcases hop with h4 | h4 | h4 <;> rw [h4] at h3 <;> simp [simpleB] at h3 <;> simp [h3] <;> (try omega)
   ·omega
  ·exact ih hv
  ·omega
theorem LoanB.dom {ts:List Int} {ns:List Nd} (hA:AllTyped ts ns) {m v l:Nat} (h:LoanB ts ns m v l):okP ts.length v∧l<ns.length:=by
 obtain ⟨d,hd,_⟩:=h.loan
 refine ⟨?_,(List.getElem?_eq_some_iff.mp hd).1⟩
 have h7:=h.place (genL_place ns) (handL_place ts ns)
 rcases Nat.lt_or_ge v 6 with h6 | h6
 ·have h3:=h.ref hA h6
  have:=tyAt_lt (ts:=ts) (v:=(v:Int)) (by omega)
  exact .inl (by omega)
 ·exact .inr (by omega)
theorem aftF_iff {ts:List Int} {ns:List Nd} (hA:AllTyped ts ns) {a:Nat} {d:Nd} (hd:ns[a]?=some d) {S:Nat→Nat→Bool} (hS:∀ v l,v<6→S v l=true→tyAt ts (v:Int)=3∨tyAt ts (v:Int)=4) {v l:Nat} (hv:v<7) :
  aftF ts ns a d S v l=true↔Beh (genL ns) (handL ts ns) a (flP S) v l:=by
 have hxy:=(effD_ok hA.1 (hA.2 a d hd)).xy
 have hgen:genL ns a v l↔(d.op=4∨d.op=5)∧l=a∧(v=6∨d.x=(v:Int)):=by
  constructor
  ·rintro ⟨d',h1,h2,h3,h4,_⟩
   rw [hd] at h1
   cases h1
   exact ⟨h2,h3,h4⟩
  ·rintro ⟨h2,h3,h4⟩
   exact ⟨d,hd,h2,h3,h4,hv⟩
 unfold Beh
 rw [hgen]
 unfold aftF
 by_cases h6:v=6
 ·subst h6
  rw [if_pos rfl]
  simp only [Bool.or_eq_true,Bool.and_eq_true,decide_eq_true_eq,Bool.not_eq_true',decide_eq_false_iff_not,true_or,and_true]
  refine or_congr Iff.rfl ⟨fun ⟨h1,h2⟩=>⟨6,by omega,h1,.inr ⟨rfl,rfl,fun z hz hl hn=>h2 ⟨z,hz,hl,hn⟩⟩⟩,?_⟩
  rintro ⟨u,hu,h1,h2⟩
  rcases h2 with ⟨h3,_⟩ | ⟨_,rfl,h3⟩
  ·omega
  ·exact ⟨h1,fun ⟨z,hz,hl,hn⟩=>h3 z hz hl hn⟩
 ·have hv6:v<6:=by omega
  rw [if_neg h6]
  have hset:setsN ns a v↔setI d=(v:Int):=setsN_at hd v
  have huse:usesN ts ns a v 2↔useI ts d v=2:=usesN_at hd v 2
  by_cases hs:setI d=(v:Int)
  ·rw [if_pos hs]
   have hx:d.x=(v:Int)∧1≤d.op∧d.op≤6:=by
    unfold setI at hs
    split at hs
    ·rename_i h9;exact ⟨hs,h9⟩
    ·omega
   simp only [Bool.or_eq_true,Bool.and_eq_true,decide_eq_true_eq]
   refine or_congr ⟨fun ⟨h1,h2⟩=>⟨h1,h2,.inr hx.1⟩,fun ⟨h1,h2,_⟩=>⟨h1,h2⟩⟩ ⟨fun ⟨h1,h2⟩=>⟨d.y.toNat,by omega,h2,.inl ⟨hv6,by omega,.inl ⟨d,hd,?_,hx.1,by omega⟩⟩⟩,?_⟩
   ·rcases h1 with h1 | ⟨h1 | h1,_⟩
    ·exact .inl h1
    ·exact .inr (.inl h1)
    ·exact .inr (.inr h1)
   ·rintro ⟨u,hu,h1,h2⟩
    rcases h2 with ⟨_,hu6,⟨d',hd',hop,_,hy⟩ | ⟨_,hl⟩⟩ | ⟨h3,_⟩
    ·rw [hd] at hd'
     cases hd'
     have hyu:d.y.toNat=u:=by omega
     rw [hyu]
     refine ⟨?_,h1⟩
     rcases hop with h9 | h9
     ·exact .inl h9
     ·have:=hS u l hu6 h1
      rw [← hy] at this
      exact .inr ⟨h9,this⟩
    ·exact absurd (.inr (hset.mpr hs)) hl
    ·omega
  ·rw [if_neg hs]
   have hng:¬ ((d.op=4∨d.op=5)∧l=a∧(v=6∨d.x=(v:Int))):=by
    rintro ⟨h1,_,h3⟩
    refine hs ?_
    unfold setI
    rw [if_pos (by omega)]
    omega
   by_cases hu2:useI ts d (v:Int)=2
   ·rw [if_pos hu2]
    simp only [Bool.false_eq_true,false_iff]
    rintro (h1 | ⟨u,hu,h1,h2⟩)
    ·exact hng h1
    ·rcases h2 with ⟨_,hu6,⟨d',hd',hop,hx,hy⟩ | ⟨_,hl⟩⟩ | ⟨h3,_⟩
     ·rw [hd] at hd'
      cases hd'
      refine hs ?_
      unfold setI
      rw [if_pos (by omega)]
      exact hx
     ·exact hl (.inl (huse.mpr hu2))
     ·omega
   ·rw [if_neg hu2]
    constructor
    ·intro h1
     refine .inr ⟨v,hv,h1,.inl ⟨hv6,hv6,.inr ⟨rfl,?_⟩⟩⟩
     rintro (h9 | h9)
     ·exact hu2 (huse.mp h9)
     ·exact hs (hset.mp h9)
    ·rintro (h1 | ⟨u,hu,h1,h2⟩)
     ·exact absurd h1 hng
     ·rcases h2 with ⟨_,hu6,⟨d',hd',hop,hx,hy⟩ | ⟨rfl,hl⟩⟩ | ⟨h3,_⟩
      ·rw [hd] at hd'
       cases hd'
       refine absurd ?_ hs
       unfold setI
       rw [if_pos (by omega)]
       exact hx
      ·exact h1
      ·omega
open Go.RowKit Go.Deep
def lentC (x:Nat→Nat):List Value:=[.int .u64 (x 0:Int),.int .u64 (x 1:Int),.int .u64 (x 2:Int),.int .u64 (x 3:Int),.int .u64 (x 4:Int),.int .u64 (x 5:Int),.int .u64 (x 6:Int)]
theorem lentC_get (x:Nat→Nat) {v:Nat} (hv:v<7):(lentC x)[v]?=some (.int .u64 (x v:Int)):=by
 match v,hv with
 | 0,_=>rfl
 | 1,_=>rfl
 | 2,_=>rfl
 | 3,_=>rfl
 | 4,_=>rfl
 | 5,_=>rfl
 | 6,_=>rfl
theorem lentC_one (x:Nat→Nat):(lentC x).toArray.all (·.oneCell')=true:=by simp [lentC,Value.oneCell']
def LRows (cs:Array Value) (o:Nat) (kn:Nat→Nat→Nat):Prop:=∀ m,m<61→∀ v,v<7→cs[o+(m*7+v)]?=some (.int .u64 (kn m v:Int))
def LKn (t:TypeId) (w:World) (K:Nat) (kn:Nat→Nat→Nat):Prop:=∃ cs,w.heap[K]?=some (.cells cs t (0,0))∧cs.size=427∧LRows cs 0 kn
theorem LKn.lt {t:TypeId} {w:World} {K:Nat} {kn:Nat→Nat→Nat} (h:LKn t w K kn):K<w.heap.size:=by
 obtain ⟨cs,h1,_⟩:=h
 exact heap_lt h1
theorem LKn.cell {t:TypeId} {w:World} {K:Nat} {kn:Nat→Nat→Nat} (h:LKn t w K kn) {m v:Nat} (hm:m<61) (hv:v<7):w.cell? ⟨K,m*7+v,none⟩=some (.int .u64 (kn m v:Int)):=by
 obtain ⟨cs,h1,_,h3⟩:=h
 rw [cB h1]
 have:=h3 m hm v hv
 rwa [Nat.zero_add] at this
theorem LKn.range {t:TypeId} {w:World} {K:Nat} {kn:Nat→Nat→Nat} (h:LKn t w K kn) {m:Nat} (hm:m<61):w.rangeAt K (m*7) (lentC (kn m)):=by
 intro j v hv
 have hj:j<7:=(List.getElem?_eq_some_iff.mp hv).1
 rw [lentC_get _ hj] at hv
 rw [h.cell hm hj,hv]
theorem LKn.there {t:TypeId} {w:World} {K:Nat} {kn:Nat→Nat→Nat} (h:LKn t w K kn) {m:Nat} (hm:m<61):w.there K (m*7) 7:=by
 obtain ⟨cs,h1,h2,h3⟩:=h
 intro j hj
 refine ⟨?_,frozen_of_row _ _ _ _ _ h1⟩
 rw [cB h1,Array.getElem?_eq_getElem (by omega)]
 rfl
theorem LKn.keep {t:TypeId} {w w':World} {K:Nat} {kn:Nat→Nat→Nat} (h:LKn t w K kn) (hb:Below w.heap.size w w'):LKn t w' K kn:=by
 have hl:=h.lt
 unfold LKn
 rw [hb.block K hl]
 exact h
theorem LKn.put {t:TypeId} {w:World} {K:Nat} {kn:Nat→Nat→Nat} (h:LKn t w K kn) {m:Nat} (hm:m<61) (x:Nat→Nat):LKn t (w.setCells K (m*7) (lentC x)) K (setP kn m x):=by
 obtain ⟨cs,h1,h2,h3⟩:=h
 have hz:m*7+(lentC x).length≤cs.size:=by rw [h2];show m*7+7≤427;omega
 refine ⟨_,heap_setCells (lentC x) (m*7) w cs h1 hz,by rw [setN_size];exact h2,fun k hk v hv=>?_⟩
 rw [setN_get _ _ _ _ hz,Nat.zero_add]
 by_cases hkm:k=m
 ·subst hkm
  rw [if_pos (by show k*7≤k*7+v∧k*7+v<k*7+7;omega),show k*7+v-k*7=v from by omega,lentC_get _ hv,setP_at]
 ·rw [if_neg (by show ¬ (m*7≤k*7+v∧k*7+v<m*7+7);omega),setP_ne _ _ _ hkm]
  have:=h3 k hk v hv
  rwa [Nat.zero_add] at this
def lkW (w:World) (K m v:Nat):Nat:=knW w K (m*7+v)
theorem LKn.read {t:TypeId} {w:World} {K:Nat} {kn:Nat→Nat→Nat} (h:LKn t w K kn) {m v:Nat} (hm:m<61) (hv:v<7):lkW w K m v=kn m v:=by
 unfold lkW knW
 rw [h.cell hm hv]
 simp
theorem LKn.measure {t:TypeId} {w:World} {K:Nat} {kn:Nat→Nat→Nat} (h:LKn t w K kn) {n:Nat} (hn:n≤61):sumTo (fun m=>wtP (lkW w K m)) n=sumTo (fun m=>wtP (kn m)) n:=by
 refine sumTo_congr fun m hm=>?_
 unfold wtP
 exact sumTo_congr fun v hv=>by rw [h.read (by omega) hv]
theorem lrows_one {cs:Array Value} {kn:Nat→Nat→Nat} (hz:cs.size=427) (h:LRows cs 0 kn):cs.all (·.oneCell')=true:=by
 rw [Array.all_eq_true_iff_forall_mem]
 intro u hu
 obtain ⟨i,hi,rfl⟩:=Array.mem_iff_getElem.mp hu
 have h9:=h (i / 7) (by omega) (i % 7) (by omega)
 rw [show 0+(i / 7*7+i % 7)=i from by omega,Array.getElem?_eq_getElem hi] at h9
 injection h9 with h9
 rw [h9]
 rfl
def bitsK (p:Nat→Bool):Nat→Nat
 | 0=>0
 | k+1=>if p k then bitsK p k|||2 ^ k else bitsK p k
theorem bitsK_lt (p:Nat→Bool):∀ k,bitsK p k<2 ^ k
 | 0=>by show 0<1;decide
 | k+1=>by
  have ih:=bitsK_lt p k
  have h2:2 ^ k<2 ^ (k+1):=Nat.pow_lt_pow_right (by decide) (by omega)
  unfold bitsK
  split
  ·exact Nat.or_lt_two_pow (by omega) h2
  ·omega
theorem bitsK_bit (p:Nat→Bool) (i:Nat):∀ k,(bitsK p k).testBit i=(decide (i<k) && p i)
 | 0=>by simp [bitsK]
 | k+1=>by
  have ih:=bitsK_bit p i k
  unfold bitsK
  by_cases hik:i=k
  ·subst hik
   split
   ·rename_i h
    rw [Nat.testBit_or,ih,Nat.testBit_two_pow_self]
    simp [h]
   ·rename_i h
    rw [ih]
    simp at h
    simp [h]
  ·have e:decide (i<k+1)=decide (i<k):=decide_eq_decide.mpr (by omega)
   split
   ·rw [Nat.testBit_or,ih,Nat.testBit_two_pow,e,decide_eq_false (fun h:k=i=>hik h.symm),Bool.or_false]
   ·rw [ih,e]
theorem bitsK_61 (p:Nat→Bool) {k:Nat} (hk:k≤61):bitsK p k<2305843009213693952 :=
 Nat.lt_of_lt_of_le (bitsK_lt p k) (Nat.pow_le_pow_right (by decide) hk:2 ^ k≤2 ^ 61)
def isLoan (ns:List Nd) (i:Nat):Bool:=match ns[i]? with | some d=>decide (d.op=4∨d.op=5) | none=>false
def isUniq (ns:List Nd) (i:Nat):Bool:=match ns[i]? with | some d=>decide (d.op=5) | none=>false
def isFrom (ns:List Nd) (v i:Nat):Bool:=match ns[i]? with | some d=>decide ((d.op=4∨d.op=5)∧d.y=(v:Int)) | none=>false
theorem isLoan_at {ns:List Nd} {i:Nat} {d:Nd} (h:ns[i]?=some d):isLoan ns i=decide (d.op=4∨d.op=5):=by unfold isLoan;rw [h]
theorem isUniq_at {ns:List Nd} {i:Nat} {d:Nd} (h:ns[i]?=some d):isUniq ns i=decide (d.op=5):=by unfold isUniq;rw [h]
theorem isFrom_at {ns:List Nd} {v i:Nat} {d:Nd} (h:ns[i]?=some d):isFrom ns v i=decide ((d.op=4∨d.op=5)∧d.y=(v:Int)):=by unfold isFrom;rw [h]
theorem isFrom_iff {ns:List Nd} {v i:Nat}:isFrom ns v i=true↔loanN ns i (v:Int):=by
 unfold isFrom loanN
 cases h:ns[i]? with
 | none=>simp
 | some d=>simp
structure LndC (ns:List Nd) (F m:Nat) (cs:Array Value):Prop where
 size:cs.size=558
 fl:cs[0]?=some (.pointer (some ⟨F,0,none⟩))
 made:cs[1]?=some (.int .u64 (bitsK (isLoan ns) m:Nat))
 uniq:cs[2]?=some (.int .u64 (bitsK (isUniq ns) m:Nat))
 from_:∀ v,v<6→cs[3+v]?=some (.int .u64 (bitsK (isFrom ns v) m:Nat))
def VRow (cs:Array Value) (o:Nat) (kn:Nat→Nat):Prop:=∀ i,i<61→cs[o+i]?=some (.int .u64 (kn i:Int))
structure LndIn (ts:List Int) (ns:List Nd) (C F hi:Nat) (A:Option Addr) (c:Nat) (ah bk:Nat→Nat) (L m:Nat) (mb lv:Nat→Nat) (w:World):Prop where
 fl:FlowsIn ts ns C F hi A c ah bk w
 row:∃ cs,w.heap[L]?=some (.cells cs 97 (0,0))∧LndC ns F m cs∧VRow cs 9 mb∧VRow cs 70 lv
 lt:F<L∧C<L∧hi≤L
section
variable {ts:List Int} {ns:List Nd} {C F hi:Nat} {A:Option Addr} {c:Nat} {ah bk:Nat→Nat} {L m:Nat} {mb lv:Nat→Nat} {a b:World}
theorem LndIn.ltW (h:LndIn ts ns C F hi A c ah bk L m mb lv a):L<a.heap.size:=by
 obtain ⟨cs,h1,_⟩:=h.row
 exact heap_lt h1
theorem LndIn.keep (h:LndIn ts ns C F hi A c ah bk L m mb lv a) (hb:Below a.heap.size a b):LndIn ts ns C F hi A c ah bk L m mb lv b:=by
 refine ⟨h.fl.keep hb,?_,h.lt⟩
 rw [hb.block L h.ltW]
 exact h.row
theorem LndIn.flCell (h:LndIn ts ns C F hi A c ah bk L m mb lv a):a.cell? ⟨L,0,none⟩=some (.pointer (some ⟨F,0,none⟩)):=by
 obtain ⟨cs,h1,h2,_⟩:=h.row
 rw [cB h1]
 exact h2.fl
theorem LndIn.madeCell (h:LndIn ts ns C F hi A c ah bk L m mb lv a):a.cell? ⟨L,1,none⟩=some (.int .u64 (bitsK (isLoan ns) m:Nat)):=by
 obtain ⟨cs,h1,h2,_⟩:=h.row
 rw [cB h1]
 exact h2.made
theorem LndIn.uniqCell (h:LndIn ts ns C F hi A c ah bk L m mb lv a):a.cell? ⟨L,2,none⟩=some (.int .u64 (bitsK (isUniq ns) m:Nat)):=by
 obtain ⟨cs,h1,h2,_⟩:=h.row
 rw [cB h1]
 exact h2.uniq
theorem LndIn.fromCell (h:LndIn ts ns C F hi A c ah bk L m mb lv a) {v:Nat} (hv:v<6):a.cell? ⟨L,3+v,none⟩=some (.int .u64 (bitsK (isFrom ns v) m:Nat)):=by
 obtain ⟨cs,h1,h2,_⟩:=h.row
 rw [cB h1]
 exact h2.from_ v hv
theorem LndIn.mbCell (h:LndIn ts ns C F hi A c ah bk L m mb lv a) {i:Nat} (hi:i<61):a.cell? ⟨L,9+i,none⟩=some (.int .u64 (mb i:Int)):=by
 obtain ⟨cs,h1,h2,h3,_⟩:=h.row
 rw [cB h1]
 exact h3 i hi
theorem LndIn.lvCell (h:LndIn ts ns C F hi A c ah bk L m mb lv a) {i:Nat} (hi:i<61):a.cell? ⟨L,70+i,none⟩=some (.int .u64 (lv i:Int)):=by
 obtain ⟨cs,h1,h2,h3,h4⟩:=h.row
 rw [cB h1]
 exact h4 i hi
theorem FlowsIn.other (h:FlowsIn ts ns C F hi A c ah bk a) (hF:F<L) (hC:C<L) (hh:hi≤L) (o:Nat) (x:Value):FlowsIn ts ns C F hi A c ah bk (a.setCell ⟨L,o,none⟩ x):=by
 refine ⟨?_,h.gr.kept (heap_setCell_other _ _ _ _ (by simp;omega)),h.sc.keep (Nat.le_refl _) (Nat.le_refl _) fun p h3 h4=>World.cell?_of_block (heap_setCell_other _ _ _ _ (by simp;omega)),⟨h.lt.1,h.lt.2.1,by have:=h.lt.2.2;simpa [World.setCell] using this⟩,h.sets⟩
 rw [heap_setCell_other _ _ _ _ (by simp;omega)]
 exact h.row
theorem set_get {cs:Array Value} {o:Nat} {x:Value} (ho:o<cs.size) (j:Nat):(cs.setIfInBounds o x)[j]?=if j=o then some x else cs[j]?:=by
 rw [Array.getElem?_setIfInBounds]
 by_cases h:o=j
 ·subst h
  rw [if_pos rfl,if_pos rfl,if_pos ho]
 ·rw [if_neg h,if_neg (fun e=>h e.symm)]
theorem LndIn.skip (h:LndIn ts ns C F hi A c ah bk L m mb lv a) {d:Nd} (hd:ns[m]?=some d) (hop:¬ (d.op=4∨d.op=5)):LndIn ts ns C F hi A c ah bk L (m+1) mb lv a:=by
 obtain ⟨cs,h1,h2,h3,h4⟩:=h.row
 have e1:bitsK (isLoan ns) (m+1)=bitsK (isLoan ns) m:=by
  show (if isLoan ns m then _ else _)=_
  rw [isLoan_at hd,decide_eq_false hop];rfl
 have e2:bitsK (isUniq ns) (m+1)=bitsK (isUniq ns) m:=by
  show (if isUniq ns m then _ else _)=_
  rw [isUniq_at hd,decide_eq_false (fun e=>hop (.inr e))];rfl
 have e3:∀ v,bitsK (isFrom ns v) (m+1)=bitsK (isFrom ns v) m:=by
  intro v
  show (if isFrom ns v m then _ else _)=_
  rw [isFrom_at hd,decide_eq_false (fun e=>hop e.1)];rfl
 exact ⟨h.fl,⟨cs,h1,⟨h2.size,h2.fl,by rw [e1];exact h2.made,by rw [e2];exact h2.uniq,fun v hv=>by rw [e3];exact h2.from_ v hv⟩,h3,h4⟩,h.lt⟩
end
def LoIn (ts:List Int) (v:Int) (ns:List Nd) (k l:Nat):Prop:=0≤v∧v<6∧LoanB ts ns k v.toNat l
def LoPl (ts:List Int) (ns:List Nd) (k l:Nat):Prop:=LoanB ts ns k 6 l
def LoLv (ts:List Int) (ns:List Nd) (k l:Nat):Prop:=∃ v,v<6∧LiveB ts ns k v∧¬ lostN ts ns k v∧LoanB ts ns k v l
end Go.Proofs.YtedkkphogeealaaGreatDoor
