/- What comes to a point,for six variables: plain. The least sets that have what points brin -/
import Derived.Test.YtofcdecpipgmjaaGreatDoorRMem
namespace Go.Proofs.YtofcdecpipgmjaaGreatDoor.tr
set_option linter.unusedVariables false
inductive LFlo (e:Nat→Nat→Prop) (G:Nat→Nat→Nat→Prop) (T:Nat→Nat→Nat→Nat→Prop):Nat→Nat→Nat→Prop
 | gen {k m v l:Nat}:e k m→G k v l→LFlo e G T m v l
 | step {k m u v l:Nat}:e k m→LFlo e G T k u l→T k u v l→LFlo e G T m v l
def Beh (G:Nat→Nat→Nat→Prop) (T:Nat→Nat→Nat→Nat→Prop) (k:Nat) (S:Nat→Nat→Prop) (v l:Nat):Prop:=G k v l∨∃ u,u<6∧S u l∧T k u v l
def bitR (x:Nat→Nat) (u l:Nat):Prop:=(x u).testBit l=true
def setP (f:Nat→Nat→Nat) (i:Nat) (v:Nat→Nat):Nat→Nat→Nat:=fun j=>if j=i then v else f j
theorem setP_at (f:Nat→Nat→Nat) (i:Nat) (v:Nat→Nat):setP f i v i=v:=by simp [setP]
theorem setP_ne (f:Nat→Nat→Nat) (i:Nat) (v:Nat→Nat) {j:Nat} (h:j≠i):setP f i v j=f j:=by simp [setP,h]
theorem or_lt61 {x y:Nat} (hx:x<2305843009213693952) (hy:y<2305843009213693952):x|||y<2305843009213693952:=Nat.or_lt_two_pow (n:=61) hx hy
structure LIn (e:Nat→Nat→Prop) (G:Nat→Nat→Nat→Prop) (T:Nat→Nat→Nat→Nat→Prop) (n:Nat) (kn:Nat→Nat→Nat) (W:Nat→Prop):Prop where
 lt:∀ m v,kn m v<2305843009213693952
 sound:∀ m,m<n→∀ v,v<6→∀ l,bitR (kn m) v l→LFlo e G T m v l
 next:∀ k,k<n→¬ W k→∀ m,e k m→∀ v,v<6→∀ l,Beh G T k (bitR (kn k)) v l→bitR (kn m) v l
theorem LFlo.place {e:Nat→Nat→Prop} {G:Nat→Nat→Nat→Prop} {T:Nat→Nat→Nat→Nat→Prop} (hG:∀ k v l,G k v l→v<6) (hT:∀ k u v l,T k u v l→v<6) {m v l:Nat} (h:LFlo e G T m v l):v<6:=by
 cases h with
 | gen _ h=>exact hG _ _ _ h
 | step _ _ h=>exact hT _ _ _ _ h
theorem LIn.last {e:Nat→Nat→Prop} {G:Nat→Nat→Nat→Prop} {T:Nat→Nat→Nat→Nat→Prop} {n:Nat} {kn:Nat→Nat→Nat} {W:Nat→Prop} (h:LIn e G T n kn W) (hW:∀ k,¬ W k) (hE:∀ a b,e a b→a<n) (hG:∀ k v l,G k v l→v<6) (hT:∀ k u v l,T k u v l→v<6) {m v l:Nat} (hm:m<n) (hv:v<6):bitR (kn m) v l↔LFlo e G T m v l:=by
 refine ⟨h.sound m hm v hv l,fun hf=>?_⟩
 clear hm
 induction hf with
 | gen h1 h2=>exact h.next _ (hE _ _ h1) (hW _) _ h1 _ hv _ (.inl h2)
 | step h1 h2 h3 ih =>
  have hu:=h2.place hG hT
  exact h.next _ (hE _ _ h1) (hW _) _ h1 _ hv _ (.inr ⟨_,hu,ih hu,h3⟩)
structure LAt (e:Nat→Nat→Prop) (G:Nat→Nat→Nat→Prop) (T:Nat→Nat→Nat→Nat→Prop) (n:Nat) (kn:Nat→Nat→Nat) (W:Nat→Prop) (a:Nat) (x0 y:Nat→Nat) (D:Nat→Prop):Prop where
 lt:∀ m v,kn m v<2305843009213693952
 ylt:∀ v,y v<2305843009213693952
 sound:∀ m,m<n→∀ v,v<6→∀ l,bitR (kn m) v l→LFlo e G T m v l
 behind:∀ v,v<6→∀ l,(bitR y v l↔Beh G T a (bitR x0) v l)
 old:∀ v,v<6→∀ l,bitR x0 v l→LFlo e G T a v l
 here:¬ W a→kn a=x0
 next:∀ k,k<n→¬ W k→∀ m,e k m→(k=a→D m)→∀ v,v<6→∀ l,Beh G T k (bitR (kn k)) v l→bitR (kn m) v l
section
variable {e:Nat→Nat→Prop} {G:Nat→Nat→Nat→Prop} {T:Nat→Nat→Nat→Nat→Prop} {n:Nat} {kn:Nat→Nat→Nat} {W W':Nat→Prop} {a:Nat} {x0 y:Nat→Nat} {D D':Nat→Prop} {b:Nat}
theorem LIn.take (h:LIn e G T n kn W) (ha:a<n) (hy:∀ v,y v<2305843009213693952) (hb:∀ v,v<6→∀ l,(bitR y v l↔Beh G T a (bitR (kn a)) v l)) (hW:∀ k,W k→W' k∨k=a):LAt e G T n kn W' a (kn a) y (fun _=>False) :=
 ⟨h.lt,hy,h.sound,hb,h.sound a ha,fun _=>rfl,fun k hk hw m hm hD v hv l hg=>by
  by_cases hka:k=a
  ·exact absurd (hD hka) id
  ·refine h.next k hk (fun hWk=>?_) m hm v hv l hg
   rcases hW k hWk with h1 | h1
   ·exact hw h1
   ·exact hka h1⟩
theorem LAt.done (h:LAt e G T n kn W a x0 y D) (hD:∀ m,e a m→D m):LIn e G T n kn W :=
 ⟨h.lt,h.sound,fun k hk hw m hm v hv l hg=>h.next k hk hw m hm (fun e'=>hD m (e' ▸ hm)) v hv l hg⟩
theorem LAt.less (h:LAt e G T n kn W a x0 y D) (hD:∀ m,D' m→D m):LAt e G T n kn W a x0 y D' :=
 ⟨h.lt,h.ylt,h.sound,h.behind,h.old,h.here,fun k hk hw m hm hDm=>h.next k hk hw m hm (fun e'=>hD m (hDm e'))⟩
theorem bitR_or (x y:Nat→Nat) (v l:Nat):bitR (fun v=>x v|||y v) v l↔bitR x v l∨bitR y v l:=by
 unfold bitR
 rw [Nat.testBit_or,Bool.or_eq_true]
theorem LAt.same (h:LAt e G T n kn W a x0 y D) (hj:∀ v,v<6→kn b v|||y v=kn b v) (hD:∀ m,D' m→D m∨m=b):LAt e G T n kn W a x0 y D' :=
 ⟨h.lt,h.ylt,h.sound,h.behind,h.old,h.here,fun k hk hw m hm hDm v hv l hg=>by
  by_cases hka:k=a
  ·subst hka
   rcases hD m (hDm rfl) with h1 | h1
   ·exact h.next k hk hw m hm (fun _=>h1) v hv l hg
   ·subst h1
    have h2:bitR (fun v=>kn m v|||y v) v l:=(bitR_or _ _ _ _).mpr (.inr ((h.behind v hv l).mpr (by rw [← h.here hw];exact hg)))
    unfold bitR at h2 ⊢
    rw [← hj v hv]
    exact h2
  ·exact h.next k hk hw m hm (fun e'=>absurd e' hka) v hv l hg⟩
theorem LAt.more (h:LAt e G T n kn W a x0 y D) (hab:e a b) {z:Nat→Nat} (hz:∀ v,z v=kn b v|||y v) (hW:∀ k,W' k↔W k∨k=b) (hD:∀ m,D' m→D m∨m=b):LAt e G T n (setP kn b z) W' a x0 y D':=by
 have hzb:∀ v l,bitR z v l↔bitR (kn b) v l∨bitR y v l:=by
  intro v l
  unfold bitR
  rw [hz v,Nat.testBit_or,Bool.or_eq_true]
 have hmono:∀ m v l,bitR (kn m) v l→bitR (setP kn b z m) v l:=by
  intro m v l hd
  by_cases hmb:m=b
  ·subst hmb
   rw [setP_at]
   exact (hzb _ _).mpr (.inl hd)
  ·rw [setP_ne _ _ _ hmb];exact hd
 refine ⟨fun m v=>?_,h.ylt,fun m hm v hv l hd=>?_,h.behind,h.old,fun hw=>?_,fun k hk hw m hm hDm v hv l hg=>?_⟩
 ·by_cases hmb:m=b
  ·rw [hmb,setP_at,hz];exact or_lt61 (h.lt b v) (h.ylt v)
  ·rw [setP_ne _ _ _ hmb];exact h.lt m v
 ·by_cases hmb:m=b
  ·subst hmb
   rw [setP_at] at hd
   rcases (hzb _ _).mp hd with h1 | h1
   ·exact h.sound m hm v hv l h1
   ·rcases (h.behind v hv l).mp h1 with h2 | ⟨u,hu,h2,h3⟩
    ·exact .gen hab h2
    ·exact .step hab (h.old u hu l h2) h3
  ·rw [setP_ne _ _ _ hmb] at hd
   exact h.sound m hm v hv l hd
 ·have:¬ (W a∨a=b):=fun h'=>hw ((hW a).mpr h')
  rw [setP_ne _ _ _ (fun e'=>this (.inr e'))]
  exact h.here (fun h'=>this (.inl h'))
 ·have hwk:¬ (W k∨k=b):=fun h'=>hw ((hW k).mpr h')
  have hkb:k≠b:=fun e'=>hwk (.inr e')
  rw [setP_ne _ _ _ hkb] at hg
  by_cases hka:k=a
  ·subst hka
   rcases hD m (hDm rfl) with h1 | h1
   ·exact hmono _ _ _ (h.next k hk (fun h'=>hwk (.inl h')) m hm (fun _=>h1) v hv l hg)
   ·subst h1
    rw [setP_at]
    refine (hzb _ _).mpr (.inr ((h.behind v hv l).mpr ?_))
    rw [← h.here (fun h'=>hwk (.inl h'))]
    exact hg
  ·exact hmono _ _ _ (h.next k hk (fun h'=>hwk (.inl h')) m hm (fun e'=>absurd e' hka) v hv l hg)
end
theorem LIn.start {e:Nat→Nat→Prop} {G:Nat→Nat→Nat→Prop} {T:Nat→Nat→Nat→Nat→Prop} {n:Nat} {W:Nat→Prop} (hW:∀ k,k<n→W k):LIn e G T n (fun _ _=>0) W:=by
 refine ⟨fun _ _=>by decide,fun m hm v hv l hb=>?_,fun k hk hw=>absurd (hW k hk) hw⟩
 unfold bitR at hb
 simp at hb
theorem sumTo_le {f g:Nat→Nat}:∀ {n:Nat},(∀ i,i<n→g i≤f i)→sumTo g n≤sumTo f n
 | 0,_=>Nat.le_refl _
 | n+1,h=>by
  unfold sumTo
  have:=sumTo_le (n:=n) (f:=f) (g:=g) (fun i hi=>h i (by omega))
  have:=h n (by omega)
  omega
theorem sumTo_lt {f g:Nat→Nat} {k:Nat}:∀ {n:Nat},k<n→g k<f k→(∀ i,i<n→g i≤f i)→sumTo g n<sumTo f n
 | 0,h,_,_=>by omega
 | n+1,h,h1,h2=>by
  unfold sumTo
  by_cases hk:k=n
  ·subst hk
   have:=sumTo_le (n:=k) (f:=f) (g:=g) (fun i hi=>h2 i (by omega))
   omega
  ·have:=sumTo_lt (n:=n) (f:=f) (g:=g) (by omega) h1 (fun i hi=>h2 i (by omega))
   have:=h2 n (by omega)
   omega
def wtP (x:Nat→Nat):Nat:=sumTo (fun v=>2305843009213693952-x v) 6
theorem wtP_or {x y z:Nat→Nat} (hx:∀ v,x v<2305843009213693952) (hz:∀ v,z v=x v|||y v) (h:∃ v,v<6∧z v≠x v):wtP z<wtP x:=by
 obtain ⟨v,hv,hne⟩:=h
 have hle:∀ i,x i≤z i:=fun i=>by rw [hz];exact Nat.left_le_or
 unfold wtP
 refine sumTo_lt hv ?_ (fun i _=>?_)
 ·have:=hle v
  have:=hx v
  omega
 ·have:=hle i
  omega
theorem wtP_set {kn:Nat→Nat→Nat} {n b:Nat} {y z:Nat→Nat} (hb:b<n) (hx:∀ v,kn b v<2305843009213693952) (hz:∀ v,z v=kn b v|||y v) (h:∃ v,v<6∧z v≠kn b v):sumTo (fun m=>wtP (setP kn b z m)) n<sumTo (fun m=>wtP (kn m)) n:=by
 refine sumTo_less hb ?_ (fun i hi=>?_)
 ·rw [setP_at];exact wtP_or hx hz h
 ·rw [setP_ne _ _ _ hi]
def lostN (ts:List Int) (ns:List Nd) (k v:Nat):Prop:=usesN ts ns k v 2∨setsN ns k v
def gQ (q:Nat) (d:Nd) (a l:Nat):Bool :=
 if q=0 then decide (d.op=2) && decide (l=a) else if q=1 then decide (l=a)
 else (decide (d.op=1) && decide (d.n=(l:Int))) || (decide (d.op=6) && decide (l<10))
def hQ (q:Nat) (d:Nd):Bool:=if q=0 then decide (d.op=3∨d.op=4∨d.op=5) else if q=1 then false else decide (d.op=3)
def szQ (q n:Nat):Nat:=if q=0 then n else if q=1 then n else 10
def genT (q:Nat) (ns:List Nd) (k v l:Nat):Prop:=∃ d,ns[k]?=some d∧setI d=(v:Int)∧gQ q d k l=true∧v<6
def handT (q:Nat) (ts:List Int) (ns:List Nd) (k u v l:Nat):Prop :=
 v<6∧u<6∧((∃ d,ns[k]?=some d∧setI d=(v:Int)∧hQ q d=true∧d.y=(u:Int))∨(u=v∧¬ lostN ts ns k v))
def TrB (q:Nat) (ts:List Int) (ns:List Nd):Nat→Nat→Nat→Prop:=LFlo (eN ns) (genT q ns) (handT q ts ns)
theorem genT_place (q:Nat) (ns:List Nd) (k v l:Nat) (h:genT q ns k v l):v<6:=by
 obtain ⟨_,_,_,_,h⟩:=h
 exact h
theorem handT_place (q:Nat) (ts:List Int) (ns:List Nd) (k u v l:Nat) (h:handT q ts ns k u v l):v<6:=h.1
theorem gQ_lt {q:Nat} {ts:List Int} {ns:List Nd} (hA:AllTyped ts ns) {a l:Nat} {d:Nd} (hd:ns[a]?=some d) (h:gQ q d a l=true):l<szQ q ns.length:=by
 have ha:=(List.getElem?_eq_some_iff.mp hd).1
 unfold gQ at h
 unfold szQ
 by_cases h0:q=0
 ·rw [if_pos h0] at h ⊢
  simp only [Bool.and_eq_true,decide_eq_true_eq] at h
  omega
 ·rw [if_neg h0] at h ⊢
  by_cases h1:q=1
  ·rw [if_pos h1] at h ⊢
   simp only [decide_eq_true_eq] at h
   omega
  ·rw [if_neg h1] at h ⊢
   simp only [Bool.or_eq_true,Bool.and_eq_true,decide_eq_true_eq] at h
   rcases h with ⟨h2,h3⟩ | ⟨_,h3⟩
   ·rcases hA.2 a d hd with ⟨_,_,h4⟩ | ⟨h4,_⟩
    ·rw [h2] at h4
     simp [simpleB] at h4
     omega
    ·omega
   ·exact h3
theorem TrB.dom {q:Nat} {ts:List Int} {ns:List Nd} (hA:AllTyped ts ns) {m v l:Nat} (h:TrB q ts ns m v l):v<ts.length∧l<szQ q ns.length:=by
 induction h with
 | gen _ h =>
  obtain ⟨d,h1,h2,h3,_⟩:=h
  exact ⟨by have:=typed_set (hA.2 _ d h1) _ (by omega) h2;omega,gQ_lt hA h1 h3⟩
 | step _ _ h ih =>
  refine ⟨?_,ih.2⟩
  obtain ⟨_,_,⟨d,h1,h2,_⟩ | ⟨rfl,_⟩⟩:=h
  ·have:=typed_set (hA.2 _ d h1) _ (by omega) h2;omega
  ·exact ih.1
def aftT (q:Nat) (ts:List Int) (d:Nd) (a:Nat) (S:Nat→Nat→Bool) (v l:Nat):Bool :=
 if setI d=(v:Int) then gQ q d a l || (hQ q d && S d.y.toNat l) else if useI ts d (v:Int)=2 then false else S v l
def flP (o:Nat→Nat→Bool) (v l:Nat):Prop:=o v l=true
theorem aftT_iff {q:Nat} {ts:List Int} {ns:List Nd} (hA:AllTyped ts ns) {a:Nat} {d:Nd} (hd:ns[a]?=some d) {S:Nat→Nat→Bool} {v l:Nat} (hv:v<6) :
  aftT q ts d a S v l=true↔Beh (genT q ns) (handT q ts ns) a (flP S) v l:=by
 have hxy:=(effD_ok hA.1 (hA.2 a d hd)).xy
 have hset:setsN ns a v↔setI d=(v:Int):=setsN_at hd v
 have huse:usesN ts ns a v 2↔useI ts d v=2:=usesN_at hd v 2
 have hgen:genT q ns a v l↔setI d=(v:Int)∧gQ q d a l=true:=by
  constructor
  ·rintro ⟨d',h1,h2,h3,_⟩
   rw [hd] at h1
   cases h1
   exact ⟨h2,h3⟩
  ·rintro ⟨h2,h3⟩
   exact ⟨d,hd,h2,h3,hv⟩
 unfold Beh
 rw [hgen]
 unfold aftT
 by_cases hs:setI d=(v:Int)
 ·rw [if_pos hs,Bool.or_eq_true,Bool.and_eq_true]
  refine or_congr ⟨fun h=>⟨hs,h⟩,fun h=>h.2⟩ ⟨fun ⟨h1,h2⟩=>⟨d.y.toNat,by omega,h2,hv,by omega,.inl ⟨d,hd,hs,h1,by omega⟩⟩,?_⟩
  rintro ⟨u,hu,h1,_,_,⟨d',hd',_,h2,hy⟩ | ⟨_,hl⟩⟩
  ·rw [hd] at hd'
   cases hd'
   have e:d.y.toNat=u:=by omega
   rw [e]
   exact ⟨h2,h1⟩
  ·exact absurd (.inr (hset.mpr hs)) hl
 ·rw [if_neg hs]
  by_cases hu2:useI ts d (v:Int)=2
  ·rw [if_pos hu2]
   simp only [Bool.false_eq_true,false_iff]
   rintro (⟨h1,_⟩ | ⟨u,hu,h1,_,_,⟨d',hd',h2,_⟩ | ⟨rfl,hl⟩⟩)
   ·exact hs h1
   ·rw [hd] at hd'
    cases hd'
    exact hs h2
   ·exact hl (.inl (huse.mpr hu2))
  ·rw [if_neg hu2]
   constructor
   ·intro h1
    refine .inr ⟨v,hv,h1,hv,hv,.inr ⟨rfl,?_⟩⟩
    rintro (h9 | h9)
    ·exact hu2 (huse.mp h9)
    ·exact hs (hset.mp h9)
   ·rintro (⟨h1,_⟩ | ⟨u,hu,h1,_,_,⟨d',hd',h2,_⟩ | ⟨rfl,hl⟩⟩)
    ·exact absurd h1 hs
    ·rw [hd] at hd'
     cases hd'
     exact absurd h2 hs
    ·exact h1
def valZ (q:Nat) (d:Nd) (a:Nat) (x:Nat→Nat):Nat :=
 if q=0 then (if d.op=2 then 2 ^ a else if d.op=3∨d.op=4∨d.op=5 then x d.y.toNat else 0)
 else if q=1 then 2 ^ a
 else (if d.op=1 then 2 ^ d.n.toNat else if d.op=3 then x d.y.toNat else if d.op=6 then 1023 else 0)
def trZ (q:Nat) (ts:List Int) (d:Nd) (a:Nat) (x:Nat→Nat) (v:Nat):Nat :=
 if setI d=(v:Int) then valZ q d a x else if useI ts d (v:Int)=2 then 0 else x v
theorem bit_1023 (l:Nat):Nat.testBit 1023 l=decide (l<10):=by
 have:=Nat.testBit_two_pow_sub_one 10 l
 simpa using this
theorem valZ_bit {q:Nat} (hq:q<3) {d:Nd} (hn:d.op=1→0≤d.n) (a:Nat) (x:Nat→Nat) (l:Nat):(valZ q d a x).testBit l=(gQ q d a l || (hQ q d && (x d.y.toNat).testBit l)):=by
 have e2:∀ k,(2 ^ k:Nat).testBit l=decide (l=k):=fun k=>by rw [Nat.testBit_two_pow];exact decide_eq_decide.mpr eq_comm
 unfold valZ gQ hQ
 by_cases h0:q=0
 ·simp only [if_pos h0]
  by_cases h2:d.op=2
  ·simp only [if_pos h2,e2]
   simp [h2]
  ·rw [if_neg h2]
   by_cases h3:d.op=3∨d.op=4∨d.op=5
   ·rw [if_pos h3,decide_eq_false h2,decide_eq_true h3]
    simp
   ·rw [if_neg h3,decide_eq_false h2,decide_eq_false h3]
    simp
 ·simp only [if_neg h0]
  by_cases h1:q=1
  ·simp only [if_pos h1,e2]
   simp
  ·simp only [if_neg h1]
   by_cases h4:d.op=1
   ·have hnl:decide (l=d.n.toNat)=decide (d.n=(l:Int)):=decide_eq_decide.mpr (by have:=hn h4;omega)
    simp only [if_pos h4,e2,hnl]
    simp [h4]
   ·rw [if_neg h4]
    by_cases h5:d.op=3
    ·rw [if_pos h5,decide_eq_false h4,decide_eq_true h5,decide_eq_false (show ¬ d.op=6 from by omega)]
     simp
    ·rw [if_neg h5]
     by_cases h6:d.op=6
     ·rw [if_pos h6,decide_eq_false h4,decide_eq_false h5,decide_eq_true h6,bit_1023]
      simp
     ·rw [if_neg h6,decide_eq_false h4,decide_eq_false h5,decide_eq_false h6]
      simp
theorem valZ_lt {q:Nat} {d:Nd} {a:Nat} {x:Nat→Nat} (hn:d.op=1→d.n≤9) (ha:a<61) (hx:∀ v,x v<2305843009213693952):valZ q d a x<2305843009213693952:=by
 have h2:2 ^ a<2305843009213693952:=(Nat.pow_lt_pow_right (by decide) ha:2 ^ a<2 ^ 61)
 unfold valZ
 split
 ·split
  ·exact h2
  ·split
   ·exact hx _
   ·decide
 ·split
  ·exact h2
  ·split
   ·rename_i h
    have h9:=hn h
    exact Nat.lt_of_lt_of_le (Nat.pow_lt_pow_right (by decide) (show d.n.toNat<10 from by omega):2 ^ d.n.toNat<2 ^ 10) (by decide)
   ·split
    ·exact hx _
    ·split
     ·decide
     ·decide
theorem trZ_lt {q:Nat} {ts:List Int} {d:Nd} {a:Nat} {x:Nat→Nat} (hn:d.op=1→d.n≤9) (ha:a<61) (hx:∀ v,x v<2305843009213693952) (v:Nat):trZ q ts d a x v<2305843009213693952:=by
 unfold trZ
 split
 ·exact valZ_lt hn ha hx
 ·split
  ·decide
  ·exact hx _
theorem num_ok {ts:List Int} {ns:List Nd} (hA:AllTyped ts ns) {a:Nat} {d:Nd} (hd:ns[a]?=some d) (h:d.op=1):0≤d.n∧d.n≤9:=by
 rcases hA.2 a d hd with ⟨_,_,h4⟩ | ⟨h4,_⟩
 ·rw [h] at h4
  simp [simpleB] at h4
  omega
 ·omega
theorem trZ_iff {q:Nat} (hq:q<3) {ts:List Int} {ns:List Nd} (hA:AllTyped ts ns) {a:Nat} {d:Nd} (hd:ns[a]?=some d) {x:Nat→Nat} {v l:Nat} (hv:v<6):bitR (trZ q ts d a x) v l↔Beh (genT q ns) (handT q ts ns) a (bitR x) v l:=by
 have h:=aftT_iff (q:=q) hA hd (S:=fun u j=>(x u).testBit j) (l:=l) hv
 have e:(trZ q ts d a x v).testBit l=aftT q ts d a (fun u j=>(x u).testBit j) v l:=by
  unfold trZ aftT
  split
  ·exact valZ_bit hq (fun h1=>(num_ok hA hd h1).1) a x l
  ·split
   ·simp
   ·rfl
 unfold bitR
 rw [e]
 exact h
end Go.Proofs.YtofcdecpipgmjaaGreatDoor.tr
namespace Go.Proofs.YtofcdecpipgmjaaGreatDoor.tr
set_option linter.unusedVariables false
theorem loan_alias {ts:List Int} {ns:List Nd} (hA:AllTyped ts ns) {k m u v l:Nat} {d:Nd} (hd:ns[k]?=some d) (ho:d.op=4∨d.op=5) (hx:d.x=(v:Int)) (hy:d.y=(u:Int)) (hv:v<6) (hu:u<6) (he:eN ns k m) (h:TrB 0 ts ns k u l) :
  TrB 0 ts ns m v l∧TrB 0 ts ns m u l:=by
 have hs:setI d=(v:Int):=by
  unfold setI
  rw [if_pos (by omega)]
  exact hx
 refine ⟨.step he h ⟨hv,hu,.inl ⟨d,hd,hs,?_,hy⟩⟩,.step he h ⟨hu,hu,.inr ⟨rfl,?_⟩⟩⟩
 ·simp [hQ]
  omega
 ·rintro (⟨d',h1,h2⟩ | ⟨d',h1,h2⟩)
  ·rw [hd] at h1
   injection h1 with h1
   subst h1
   unfold useI at h2
   rw [if_neg (by omega)] at h2
   rcases ho with ho | ho
   all_goals
    simp [ho] at h2
    try omega
  ·rw [hd] at h1
   injection h1 with h1
   subst h1
   rcases hA.2 _ d hd with ⟨_,_,h6⟩ | ⟨h6,_⟩
   ·rcases ho with ho | ho <;> rw [ho] at h6 <;> simp [simpleB] at h6 <;> omega
   ·omega
end Go.Proofs.YtofcdecpipgmjaaGreatDoor.tr
namespace Go.Proofs.YtofcdecpipgmjaaGreatDoor.tr
set_option linter.unusedVariables false
def within (T z:Nat) (x y:Nat→Nat→Bool):Prop:=∀ v l,v<T→l<z→x v l=true→y v l=true
structure P4 (e:Nat→Nat→Prop) (G:Nat→Nat→Nat→Prop) (H:Nat→Nat→Nat→Nat→Prop) (n T z:Nat) (o:Nat→Nat→Nat→Bool) (c:Bool) (D:Nat→Nat→Prop):Prop where
 dom:∀ m v l,o m v l=true→v<T∧l<z
 sound:∀ m v l,m<n→o m v l=true→LFlo e G H m v l
 done:c=false→∀ i m,D i m→e i m→∀ v l,v<T→l<z→Beh G H i (flP (o i)) v l→o m v l=true
section
variable {e:Nat→Nat→Prop} {G:Nat→Nat→Nat→Prop} {H:Nat→Nat→Nat→Nat→Prop} {n T z:Nat} {o:Nat→Nat→Nat→Bool} {c:Bool} {D D':Nat→Nat→Prop}
theorem P4.last (h:P4 e G H n T z o false D) (hT:T≤6) (hD:∀ i m,e i m→D i m) (hP:∀ m v l,LFlo e G H m v l→v<T∧l<z) {m v l:Nat} (hm:m<n):o m v l=true↔LFlo e G H m v l:=by
 refine ⟨h.sound m v l hm,fun hf=>?_⟩
 clear hm
 have hp:=hP _ _ _ hf
 induction hf with
 | gen h1 h2=>exact h.done rfl _ _ (hD _ _ h1) h1 _ _ hp.1 hp.2 (.inl h2)
 | step h1 h2 h3 ih=>exact h.done rfl _ _ (hD _ _ h1) h1 _ _ hp.1 hp.2 (.inr ⟨_,Nat.lt_of_lt_of_le (hP _ _ _ h2).1 hT,ih (hP _ _ _ h2),h3⟩)
theorem P4.congr (h:P4 e G H n T z o c D) (hD:∀ i m,e i m→D' i m→D i m):P4 e G H n T z o c D' :=
 ⟨h.dom,h.sound,fun hc i m hd he=>h.done hc i m (hD i m he hd) he⟩
theorem P4.same {a b:Nat} {x:Nat→Nat→Bool} (h:P4 e G H n T z o c D)
  (hx:c=false→∀ v l,v<T→l<z→Beh G H a (flP (o a)) v l→x v l=true) (hs:within T z x (o b)) (hD:∀ i m,D' i m→D i m∨(i=a∧m=b)):P4 e G H n T z o c D' :=
 ⟨h.dom,h.sound,fun hc i m hd he v l hv hl hb=>by
  rcases hD i m hd with h1 | ⟨rfl,rfl⟩
  ·exact h.done hc i m h1 he v l hv hl hb
  ·exact hs v l hv hl (hx hc v l hv hl hb)⟩
def addK (o:Nat→Nat→Nat→Bool) (b:Nat) (x:Nat→Nat→Bool):Nat→Nat→Nat→Bool:=fun m v l=>o m v l || (decide (m=b) && x v l)
theorem P4.more {b:Nat} {x:Nat→Nat→Bool} (h:P4 e G H n T z o c D)
  (hx:∀ v l,x v l=true→v<T∧l<z) (hs:∀ v l,x v l=true→LFlo e G H b v l):P4 e G H n T z (addK o b x) true D':=by
 refine ⟨fun m v l hm=>?_,fun m v l hmn hm=>?_,fun hc=>by cases hc⟩
 ·unfold addK at hm
  rw [Bool.or_eq_true,Bool.and_eq_true] at hm
  rcases hm with hm | ⟨_,hm⟩
  ·exact h.dom m v l hm
  ·exact hx v l hm
 ·unfold addK at hm
  rw [Bool.or_eq_true,Bool.and_eq_true] at hm
  rcases hm with hm | ⟨h1,hm⟩
  ·exact h.sound m v l hmn hm
  ·rw [decide_eq_true_eq] at h1
   subst h1
   exact hs v l hm
end
theorem addK_at (o:Nat→Nat→Nat→Bool) (b:Nat) (x:Nat→Nat→Bool) (v l:Nat):addK o b x b v l=(o b v l || x v l):=by
 unfold addK
 rw [decide_eq_true rfl,Bool.true_and]
theorem addK_ne {o:Nat→Nat→Nat→Bool} {b m:Nat} {x:Nat→Nat→Bool} {v l:Nat} (h:m≠b):addK o b x m v l=o m v l:=by
 unfold addK
 rw [decide_eq_false h,Bool.false_and,Bool.or_false]
def missF (o:Nat→Nat→Nat→Bool) (n z:Nat):Nat:=sumTo (fun i=>sumTo (fun v=>sumTo (fun l=>if o i v l then 0 else 1) z) 6) n
theorem missF_less {o:Nat→Nat→Nat→Bool} {b n T z v l:Nat} {x:Nat→Nat→Bool} (hb:b<n) (hT:T≤6) (hv:v<T) (hl:l<z) (hx:x v l=true) (ho:o b v l=false):missF (addK o b x) n z<missF o n z:=by
 have hle:∀ u j,(if addK o b x b u j then 0 else 1)≤(if o b u j then 0 else 1):=fun u j=>by
  rw [addK_at]
  cases o b u j <;> cases x u j <;> simp
 refine sumTo_less hb ?_ (fun i hi=>by simp only [addK_ne hi])
 refine sumTo_lt (show v<6 from by omega) ?_ (fun u hu=>sumTo_le fun j hj=>hle u j)
 refine sumTo_lt hl ?_ (fun j hj=>hle v j)
 show (if addK o b x b v l then 0 else 1)<(if o b v l then 0 else 1)
 rw [addK_at,ho,hx]
 decide
theorem aft_dom {q:Nat} {ts:List Int} {ns:List Nd} (hA:AllTyped ts ns) {a:Nat} {d:Nd} (hd:ns[a]?=some d) {S:Nat→Nat→Bool} (hS:∀ v l,S v l=true→v<ts.length∧l<szQ q ns.length) {v l:Nat} (h:aftT q ts d a S v l=true):v<ts.length∧l<szQ q ns.length:=by
 unfold aftT at h
 by_cases hs:setI d=(v:Int)
 ·rw [if_pos hs,Bool.or_eq_true,Bool.and_eq_true] at h
  have hv:=typed_set (hA.2 a d hd) v (by omega) hs
  refine ⟨by omega,?_⟩
  rcases h with h | ⟨_,h⟩
  ·exact gQ_lt hA hd h
  ·exact (hS _ l h).2
 ·rw [if_neg hs] at h
  by_cases hu:useI ts d (v:Int)=2
  ·rw [if_pos hu] at h
   cases h
  ·rw [if_neg hu] at h
   exact hS v l h
structure K4 (q:Nat) (ts:List Int) (ns:List Nd) (o0 o:Nat→Nat→Nat→Bool) (c:Bool) (k j M:Nat) (d:Nd):Prop where
 p:P4 (eN ns) (genT q ns) (handT q ts ns) ns.length ts.length (szQ q ns.length) o c (fun i m=>i<k∨(i=k∧∃ y,y<j∧d.next[y]?=some (m:Int)))
 same:c=false→o k=o0 k
 dec:c=true→missF o ns.length (szQ q ns.length)<M
 le:missF o ns.length (szQ q ns.length)≤M
 old:∀ v l,o0 k v l=true→(v<ts.length∧l<szQ q ns.length)∧TrB q ts ns k v l
structure J4 (q:Nat) (ts:List Int) (ns:List Nd) (o:Nat→Nat→Nat→Bool) (c:Bool) (k M:Nat):Prop where
 p:P4 (eN ns) (genT q ns) (handT q ts ns) ns.length ts.length (szQ q ns.length) o c (fun i m=>i<k)
 dec:c=true→missF o ns.length (szQ q ns.length)<M
 le:missF o ns.length (szQ q ns.length)≤M
def Q4 (q:Nat) (ts:List Int) (ns:List Nd) (o:Nat→Nat→Nat→Bool) (c:Bool):Prop:=P4 (eN ns) (genT q ns) (handT q ts ns) ns.length ts.length (szQ q ns.length) o c (fun _ _=>True)
theorem Q4.zero (q:Nat) (ts:List Int) (ns:List Nd):Q4 q ts ns (fun _ _ _=>false) true:=⟨fun m v l h=>(by cases h),fun m v l _ h=>(by cases h),fun h=>(by cases h)⟩
theorem Q4.pass {q:Nat} {ts:List Int} {ns:List Nd} {o:Nat→Nat→Nat→Bool} {c:Bool} (h:Q4 q ts ns o c):J4 q ts ns o false 0 (missF o ns.length (szQ q ns.length)) :=
 ⟨⟨h.dom,h.sound,fun _ i m hd=>absurd hd (Nat.not_lt_zero _)⟩,fun h=>(by cases h),Nat.le_refl _⟩
theorem eN_lt {ns:List Nd} {a b:Nat} (h:eN ns a b):a<ns.length:=by
 rcases Nat.lt_or_ge a ns.length with h9 | h9
 ·exact h9
 ·exfalso
  have hab':b∈nextN ns a:=h
  unfold nextN nextP at hab'
  rw [List.getElem?_eq_none h9] at hab'
  simp at hab'
theorem J4.pass {q:Nat} {ts:List Int} {ns:List Nd} {o:Nat→Nat→Nat→Bool} {c:Bool} {M:Nat} (h:J4 q ts ns o c ns.length M):Q4 q ts ns o c :=
 h.p.congr fun i m he _=>eN_lt he
theorem J4.point {q:Nat} {ts:List Int} {ns:List Nd} {o:Nat→Nat→Nat→Bool} {c:Bool} {k M:Nat} (h:J4 q ts ns o c k M) (hk:k<ns.length) (d:Nd):K4 q ts ns o o c k 0 M d :=
 ⟨h.p.congr fun i m he hd=>hd.elim id (fun q=>by obtain ⟨_,y,hy,_⟩:=q;exact absurd hy (Nat.not_lt_zero _)),fun _=>rfl,h.dec,h.le,fun v l hv=>⟨h.p.dom k v l hv,h.p.sound k v l hk hv⟩⟩
theorem K4.done {z q:Nat} {ts:List Int} {ns:List Nd} {o0 o:Nat→Nat→Nat→Bool} {c:Bool} {k M:Nat} {d:Nd} (h:K4 q ts ns o0 o c k d.next.length M d) (hD:PtsOk z ns) (hle:ns.length≤61) (hd:ns[k]?=some d):J4 q ts ns o c (k+1) M :=
 ⟨h.p.congr fun i m he hik=>by
  by_cases hi:i<k
  ·exact .inl hi
  ·have hik':i=k:=by have:i<k+1:=hik;omega
   subst hik'
   obtain ⟨d',y,e1,e2⟩:=(mem_nextN hD hle _ _).mp he
   rw [hd] at e1
   injection e1 with e1
   subst e1
   exact .inr ⟨rfl,y,(List.getElem?_eq_some_iff.mp e2.1).1,e2.1⟩,h.dec,h.le⟩
theorem K4.beh {q:Nat} {ts:List Int} {ns:List Nd} {o0 o:Nat→Nat→Nat→Bool} {c:Bool} {k j M:Nat} {d:Nd} (h:K4 q ts ns o0 o c k j M d) (hA:AllTyped ts ns) (hd:ns[k]?=some d) {v l:Nat} (hv:v<6) :
  aftT q ts d k (o0 k) v l=true↔Beh (genT q ns) (handT q ts ns) k (flP (o0 k)) v l:=aftT_iff hA hd hv
theorem K4.keep {q:Nat} {ts:List Int} {ns:List Nd} {o0 o:Nat→Nat→Nat→Bool} {c:Bool} {k j b M:Nat} {d:Nd} (h:K4 q ts ns o0 o c k j M d) (hA:AllTyped ts ns) (hd:ns[k]?=some d) (hb:d.next[j]?=some (b:Int))
  (hw:within ts.length (szQ q ns.length) (aftT q ts d k (o0 k)) (o b)):K4 q ts ns o0 o c k (j+1) M d:=by
 refine ⟨h.p.same (a:=k) (b:=b) (x:=aftT q ts d k (o0 k)) (fun hc v l hv hl hB=>?_) hw (fun i m hm=>?_),h.same,h.dec,h.le,h.old⟩
 ·rw [h.same hc] at hB
  exact (h.beh hA hd (Nat.lt_of_lt_of_le hv hA.1)).mpr hB
 ·rcases hm with hm | ⟨hm,y,hy,hym⟩
  ·exact .inl (.inl hm)
  ·by_cases hyj:y=j
   ·subst hyj
    rw [hb] at hym
    injection hym with hym
    exact .inr ⟨hm,by omega⟩
   ·exact .inl (.inr ⟨hm,y,by omega,hym⟩)
theorem K4.dom {q:Nat} {ts:List Int} {ns:List Nd} {o0 o:Nat→Nat→Nat→Bool} {c:Bool} {k j M:Nat} {d:Nd} (h:K4 q ts ns o0 o c k j M d) (hA:AllTyped ts ns) (hd:ns[k]?=some d) (v l:Nat) (hx:aftT q ts d k (o0 k) v l=true):v<ts.length∧l<szQ q ns.length :=
 aft_dom hA hd (fun v l hs=>(h.old v l hs).1) hx
theorem K4.add {q:Nat} {ts:List Int} {ns:List Nd} {o0 o:Nat→Nat→Nat→Bool} {c:Bool} {k j b M:Nat} {d:Nd} (h:K4 q ts ns o0 o c k j M d) (hA:AllTyped ts ns) (hd:ns[k]?=some d) (hbn:b<ns.length) (he:eN ns k b)
  (hw:¬ within ts.length (szQ q ns.length) (aftT q ts d k (o0 k)) (o b)):K4 q ts ns o0 (addK o b (aftT q ts d k (o0 k))) true k (j+1) M d:=by
 have hdom:=h.dom hA hd
 have hless:missF (addK o b (aftT q ts d k (o0 k))) ns.length (szQ q ns.length)<missF o ns.length (szQ q ns.length):=by
  refine Classical.byContradiction fun h9=>hw fun v l hv hl hx=>?_
  cases hob:o b v l
  ·exact absurd (missF_less hbn hA.1 hv hl hx hob) h9
  ·rfl
 refine ⟨h.p.more (b:=b) (x:=aftT q ts d k (o0 k)) hdom (fun v l hx=>?_),fun hc=>(by cases hc),fun _=>Nat.lt_of_lt_of_le hless h.le,Nat.le_of_lt (Nat.lt_of_lt_of_le hless h.le),h.old⟩
 rcases (h.beh hA hd (Nat.lt_of_lt_of_le (hdom v l hx).1 hA.1)).mp hx with h1 | ⟨u,hu,h1,h2⟩
 ·exact .gen he h1
 ·exact .step he (h.old u l h1).2 h2
theorem addK_within {o:Nat→Nat→Nat→Bool} {b T z:Nat} {x:Nat→Nat→Bool} (hx:∀ v l,x v l=true→v<T∧l<z) (hw:within T z x (o b)):addK o b x=o:=by
 funext m v l
 by_cases hm:m=b
 ·subst hm
  rw [addK_at]
  cases hv:x v l
  ·simp
  ·rw [hw v l (hx v l hv).1 (hx v l hv).2 hv];rfl
 ·exact addK_ne hm
theorem K4.step {q:Nat} {ts:List Int} {ns:List Nd} {o0 o:Nat→Nat→Nat→Bool} {c r:Bool} {k j b M:Nat} {d:Nd} (h:K4 q ts ns o0 o c k j M d) (hA:AllTyped ts ns) (hd:ns[k]?=some d) (hb:d.next[j]?=some (b:Int)) (hbn:b<ns.length) (he:eN ns k b)
  (hr:r=true↔¬ within ts.length (szQ q ns.length) (aftT q ts d k (o0 k)) (o b)):K4 q ts ns o0 (addK o b (aftT q ts d k (o0 k))) (r || c) k (j+1) M d:=by
 by_cases hw:within ts.length (szQ q ns.length) (aftT q ts d k (o0 k)) (o b)
 ·have e:r=false:=by
   cases hrr:r
   ·rfl
   ·exact absurd hw (hr.mp hrr)
  rw [e,Bool.false_or,addK_within (h.dom hA hd) hw]
  exact h.keep hA hd hb hw
 ·rw [hr.mpr hw,Bool.true_or]
  exact h.add hA hd hbn he hw
theorem Q4.last {q:Nat} {ts:List Int} {ns:List Nd} {o:Nat→Nat→Nat→Bool} (h:Q4 q ts ns o false) (hA:AllTyped ts ns) {m v l:Nat} (hm:m<ns.length):o m v l=true↔TrB q ts ns m v l :=
 P4.last h hA.1 (fun _ _ _=>trivial) (fun m v l hf=>TrB.dom hA hf) hm
end Go.Proofs.YtofcdecpipgmjaaGreatDoor.tr
