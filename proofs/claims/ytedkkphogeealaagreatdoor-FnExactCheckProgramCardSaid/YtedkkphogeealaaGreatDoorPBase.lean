/- Lists of statements as plain data,and how they lie in memory. Nothing of the program is u -/
import Derived.Deep.RegionHeld3
import Derived.Below
import Derived.Deep.Slices
import Derived.Lib.TrailingZeros
namespace Go.Proofs.YtedkkphogeealaaGreatDoor
theorem sA {α : Type _} {l : List α} {i : Nat} {a : α} : l.toArray.setIfInBounds i a = (l.set i a).toArray := by simp
theorem sB {α : Type _} {x : α} {xs : List α} {b : α} : (x :: xs).set 0 b = b :: xs := rfl
theorem sC {α : Type _} {x : α} {xs : List α} {n : Nat} {b : α} : (x :: xs).set (n + 1) b = x :: xs.set n b := rfl
open Go.RowKit Go.Deep
theorem tk {P:Program} {ops:Array Oper} {Q:Exit→Act→World→Prop} {md:Region.Mode} {S:World→Prop} {i:Nat} {v:Value} {fuel:Nat} {listed:Array Bool} {a:Act} {w:World} {f1 f2 f3 f4 f5 f6} (hi:ops[i]? = some (Oper.mk f1 f2 f3 f4 f5 f6)) (hy:YieldsIf P ops S (Oper.mk f1 f2 f3 f4 f5 f6) v a) (hS:S w) (h:wpAnyH P md ops Q S fuel (listed.setIfInBounds i true) (a.put f1 v) w) (hb:(Region.noSelect ops && Region.free md ops listed i && (Region.ready md ops listed).contains i) = true:=by kernel_rfl) (hQ:∀ c a' w',Q (.panic c) (a'.put f1 v) w' → Q (.panic c) a' w':=by exact fun _ _ _ h=>h):wpAnyH P md ops Q S (fuel+1) listed a w:=by
 simp only [Bool.and_eq_true] at hb
 exact wpAnyH_take hi hb.1.1 hb.1.2 hb.2 hQ hy hS h
theorem tkd {P:Program} {ops:Array Oper} {Q:Exit→Act→World→Prop} {md:Region.Mode} {S:World→Prop} {i:Nat} {v:Value} {fuel:Nat} {listed:Array Bool} {a:Act} {w:World} {f1 f2 f3 f4 f5 f6} (hi:ops[i]? = some (Oper.mk f1 f2 f3 f4 f5 f6)) (hS:S w) (h:wpAnyH P md ops Q S fuel (listed.setIfInBounds i true) (a.put f1 v) w) (hy:YieldsIf P ops S (Oper.mk f1 f2 f3 f4 f5 f6) v a:=by exact Or.inl ⟨by rfl,fun w hSw=>by go_simp⟩) (hb:(Region.noSelect ops && Region.free md ops listed i && (Region.ready md ops listed).contains i) = true:=by kernel_rfl) (hQ:∀ c a' w',Q (.panic c) (a'.put f1 v) w' → Q (.panic c) a' w':=by exact fun _ _ _ h=>h):wpAnyH P md ops Q S (fuel+1) listed a w:=tk hi hy hS h hb hQ
inductive Sts where
 | nil
 | cons (op x y n:Int) (t e r:Sts)
def Sts.len:Sts→Nat
 | .nil=>0
 | .cons _ _ _ _ _ _ r=>r.len+1
def Sts.size:Sts→Nat
 | .nil=>0
 | .cons _ _ _ _ t e r=>1+t.size+e.size+r.size
def Sts.drop:Nat→Sts→Sts
 | 0,s=>s
 | _+1,.nil=>.nil
 | k+1,.cons _ _ _ _ _ _ r=>r.drop k
theorem Sts.len_le_size (s:Sts):s.len≤s.size:=by
 induction s with
 | nil=>simp [Sts.len,Sts.size]
 | cons op x y n t e r iht ihe ihr=>simp only [Sts.len,Sts.size];omega
theorem Sts.drop_lt (s:Sts):∀ k,k<s.len→∃ op x y n t e,s.drop k=.cons op x y n t e (s.drop (k+1)):=by
 induction s with
 | nil=>intro k hk;simp [Sts.len] at hk
 | cons op x y n t e r iht ihe ihr =>
  intro k hk
  cases k with
  | zero=>exact ⟨op,x,y,n,t,e,rfl⟩
  | succ k =>
   obtain ⟨op',x',y',n',t',e',h⟩:=ihr k (by simp only [Sts.len] at hk;omega)
   exact ⟨op',x',y',n',t',e',h⟩
theorem Sts.drop_len (s:Sts):s.drop s.len=.nil:=by
 induction s with
 | nil=>rfl
 | cons op x y n t e r iht ihe ihr=>exact ihr
def Rep (w:World) (lo hi:Nat):Sts→Addr→Prop
 | .nil,_=>True
 | .cons op x y n t e r,a =>
  (w.cell? a=some (.int .i64 op)∧w.cell? (a.add 1)=some (.int .i64 x)∧w.cell? (a.add 2)=some (.int .i64 y)∧w.cell? (a.add 3)=some (.int .i64 n)) ∧
  (∃ A c,w.cell? (a.add 4)=some (.slice A t.len c)∧t.len≤c∧c≤maxLen∧(0<t.len→∃ b,A=some b∧lo≤b.block∧b.block<hi∧Rep w lo hi t b)) ∧
  (∃ A c,w.cell? (a.add 5)=some (.slice A e.len c)∧e.len≤c∧c≤maxLen∧(0<e.len→∃ b,A=some b∧lo≤b.block∧b.block<hi∧Rep w lo hi e b)) ∧
  Rep w lo hi r (a.add 6)
def RepV (w:World) (lo hi:Nat) (s:Sts) (A:Option Addr) (c:Nat):Prop :=
 s.len≤c∧c≤maxLen∧(0<s.len→∃ b,A=some b∧lo≤b.block∧b.block<hi∧Rep w lo hi s b)
def IntsV (w:World) (lo hi:Nat) (xs:List Int) (A:Option Addr) (c:Nat):Prop :=
 xs.length≤c∧c≤maxLen∧(0<xs.length→∃ b,A=some b∧lo≤b.block∧b.block<hi∧∀ j v,xs[j]?=some v→w.cell? (b.add j)=some (.int .i64 v))
theorem block_add (a:Addr) (n:Nat):(a.add n).block=a.block:=by unfold Addr.add;split <;> rfl
theorem Rep.keep {w w':World} {lo hi lo' hi':Nat} (hlo:lo'≤lo) (hhi:hi≤hi') (hk:∀ p:Addr,lo≤p.block→p.block<hi→w'.cell? p=w.cell? p) (s:Sts) :
  ∀ a:Addr,lo≤a.block→a.block<hi→Rep w lo hi s a→Rep w' lo' hi' s a:=by
 induction s with
 | nil=>intro _ _ _ _;trivial
 | cons op x y n t e r iht ihe ihr =>
  intro a ha ha' h
  obtain ⟨⟨h0,h1,h2,h3⟩,⟨A,c,h4,h5,h6,h7⟩,⟨A',c',h8,h9,h10,h11⟩,hr⟩:=h
  have hb:∀ k,lo≤(a.add k).block:=fun k=>by rw [block_add];exact ha
  have hb':∀ k,(a.add k).block<hi:=fun k=>by rw [block_add];exact ha'
  refine ⟨⟨(hk _ ha ha').trans h0,(hk _ (hb 1) (hb' 1)).trans h1,(hk _ (hb 2) (hb' 2)).trans h2,(hk _ (hb 3) (hb' 3)).trans h3⟩,
   ⟨A,c,(hk _ (hb 4) (hb' 4)).trans h4,h5,h6,fun hl=>?_⟩,⟨A',c',(hk _ (hb 5) (hb' 5)).trans h8,h9,h10,fun hl=>?_⟩,ihr _ (hb 6) (hb' 6) hr⟩
  ·obtain ⟨b,rfl,hbb,hbb',hR⟩:=h7 hl
   exact ⟨b,rfl,by omega,by omega,iht _ hbb hbb' hR⟩
  ·obtain ⟨b,rfl,hbb,hbb',hR⟩:=h11 hl
   exact ⟨b,rfl,by omega,by omega,ihe _ hbb hbb' hR⟩
theorem RepV.keep {w w':World} {lo hi lo' hi':Nat} {s:Sts} {A:Option Addr} {c:Nat} (h:RepV w lo hi s A c) (hlo:lo'≤lo) (hhi:hi≤hi') (hk:∀ p:Addr,lo≤p.block→p.block<hi→w'.cell? p=w.cell? p):RepV w' lo' hi' s A c :=
 ⟨h.1,h.2.1,fun hl=>by
  obtain ⟨b,rfl,hb,hb',hR⟩:=h.2.2 hl
  exact ⟨b,rfl,by omega,by omega,hR.keep hlo hhi hk _ _ hb hb'⟩⟩
theorem RepV.below {w w':World} {lo hi hi':Nat} {s:Sts} {A:Option Addr} {c:Nat} (h:RepV w lo hi s A c) (hb:Below hi w w') (hhi:hi≤hi'):RepV w' 0 hi' s A c :=
 h.keep (Nat.zero_le _) hhi fun _ _ hp=>hb.cell hp
theorem RepV.below' {w w':World} {lo hi hi':Nat} {s:Sts} {A:Option Addr} {c:Nat} (h:RepV w lo hi s A c) (hb:Below hi w w') (hhi:hi≤hi'):RepV w' lo hi' s A c :=
 h.keep (Nat.le_refl _) hhi fun _ _ hp=>hb.cell hp
theorem IntsV.keep {w w':World} {lo hi lo' hi':Nat} {xs:List Int} {A:Option Addr} {c:Nat} (h:IntsV w lo hi xs A c) (hlo:lo'≤lo) (hhi:hi≤hi') (hk:∀ p:Addr,lo≤p.block→p.block<hi→w'.cell? p=w.cell? p):IntsV w' lo' hi' xs A c :=
 ⟨h.1,h.2.1,fun hl=>by
  obtain ⟨b,rfl,hb,hb',hR⟩:=h.2.2 hl
  exact ⟨b,rfl,by omega,by omega,fun j v hv=>(hk _ (by rw [block_add];exact hb) (by rw [block_add];exact hb')).trans (hR j v hv)⟩⟩
theorem IntsV.below {w w':World} {lo hi hi':Nat} {xs:List Int} {A:Option Addr} {c:Nat} (h:IntsV w lo hi xs A c) (hb:Below hi w w') (hhi:hi≤hi'):IntsV w' 0 hi' xs A c :=
 h.keep (Nat.zero_le _) hhi fun _ _ hp=>hb.cell hp
theorem IntsV.below' {w w':World} {lo hi hi':Nat} {xs:List Int} {A:Option Addr} {c:Nat} (h:IntsV w lo hi xs A c) (hb:Below hi w w') (hhi:hi≤hi'):IntsV w' lo hi' xs A c :=
 h.keep (Nat.le_refl _) hhi fun _ _ hp=>hb.cell hp
theorem IntsV.elem {w:World} {lo hi:Nat} {xs:List Int} {A:Option Addr} {c:Nat} (h:IntsV w lo hi xs A c) {k:Nat} (hk:k<xs.length) :
  ∃ b v,A=some b∧lo≤b.block∧b.block<hi∧xs[k]?=some v∧w.cell? (b.add k)=some (.int .i64 v):=by
 obtain ⟨b,rfl,hb,hb',hR⟩:=h.2.2 (by omega)
 exact ⟨b,xs[k],rfl,hb,hb',List.getElem?_eq_getElem hk,hR k _ (List.getElem?_eq_getElem hk)⟩
theorem Rep.at_ {w:World} {lo hi:Nat} (s:Sts):∀ (k:Nat) (a:Addr),Rep w lo hi s a→Rep w lo hi (s.drop k) (a.add (6*k)):=by
 induction s with
 | nil=>intro k a _;cases k <;> trivial
 | cons op x y n t e r iht ihe ihr =>
  intro k a h
  cases k with
  | zero=>simpa [Sts.drop,Addr.add] using h
  | succ k =>
   have:=ihr k (a.add 6) h.2.2.2
   rw [add_add] at this
   rw [show 6*(k+1)=6+6*k by omega]
   exact this
theorem RepV.elem {w:World} {lo hi:Nat} {s:Sts} {A:Option Addr} {c:Nat} (h:RepV w lo hi s A c) {k:Nat} (hk:k<s.len) :
  ∃ b op x y n t e,A=some b∧lo≤b.block∧b.block<hi∧s.drop k=.cons op x y n t e (s.drop (k+1))∧∃ At ct Ae ce,
   (w.cell? (b.add (k*6))=some (.int .i64 op)∧w.cell? ⟨(b.add (k*6)).block,(b.add (k*6)).off+1,none⟩=some (.int .i64 x)∧w.cell? ⟨(b.add (k*6)).block,(b.add (k*6)).off+2,none⟩=some (.int .i64 y) ∧
    w.cell? ⟨(b.add (k*6)).block,(b.add (k*6)).off+3,none⟩=some (.int .i64 n)∧w.cell? ⟨(b.add (k*6)).block,(b.add (k*6)).off+4,none⟩=some (.slice At t.len ct) ∧
    w.cell? ⟨(b.add (k*6)).block,(b.add (k*6)).off+5,none⟩=some (.slice Ae e.len ce))∧RepV w lo hi t At ct∧RepV w lo hi e Ae ce:=by
 obtain ⟨b,rfl,hb,hb',hR⟩:=h.2.2 (by omega)
 obtain ⟨op,x,y,n,t,e,hd⟩:=s.drop_lt k hk
 have hk':=hR.at_ s k b
 rw [hd,Nat.mul_comm] at hk'
 obtain ⟨⟨h0,h1,h2,h3⟩,⟨At,ct,h4,h5,h6,h7⟩,⟨Ae,ce,h8,h9,h10,h11⟩,_⟩:=hk'
 exact ⟨b,op,x,y,n,t,e,rfl,hb,hb',hd,At,ct,Ae,ce,⟨h0,h1,h2,h3,h4,h8⟩,⟨h5,h6,h7⟩,⟨h9,h10,h11⟩⟩
theorem Sts.drop_size_le (s:Sts):∀ k,(s.drop k).size≤s.size:=by
 induction s with
 | nil=>intro k;cases k <;> exact Nat.le_refl _
 | cons op x y n t e r iht ihe ihr =>
  intro k
  cases k with
  | zero=>exact Nat.le_refl _
  | succ k=>exact Nat.le_trans (ihr k) (by simp only [Sts.size];omega)
theorem RepV.drop_sizes {s:Sts} {k:Nat} {op x y n:Int} {t e:Sts} (hd:s.drop k=.cons op x y n t e (s.drop (k+1))):t.size<s.size∧e.size<s.size:=by
 have:=s.drop_size_le k
 rw [hd] at this
 simp only [Sts.size] at this
 omega
def Sts.inner (s:Sts):Nat:=s.size-s.len
theorem Sts.inner_cons (op x y n:Int) (t e r:Sts):(Sts.cons op x y n t e r).inner=t.size+e.size+r.inner:=by
 have:=r.len_le_size
 simp only [Sts.inner,Sts.size,Sts.len]
 omega
theorem Sts.drop_inner_le (s:Sts):∀ k,(s.drop k).inner≤s.inner:=by
 induction s with
 | nil=>intro k;cases k <;> exact Nat.le_refl _
 | cons op x y n t e r iht ihe ihr =>
  intro k
  cases k with
  | zero=>exact Nat.le_refl _
  | succ k=>exact Nat.le_trans (ihr k) (by rw [Sts.inner_cons];omega)
def Filled (w:World) (lo hi g:Nat) (s:Sts) (k:Nat):Prop :=
 ∀ j,j<k→∀ op x y n t e,s.drop j=.cons op x y n t e (s.drop (j+1))→∃ At ct Ae ce,
  (w.cell? ⟨g,j*6,none⟩=some (.int .i64 op)∧w.cell? ⟨g,j*6+1,none⟩=some (.int .i64 x)∧w.cell? ⟨g,j*6+2,none⟩=some (.int .i64 y)∧w.cell? ⟨g,j*6+3,none⟩=some (.int .i64 n) ∧
   w.cell? ⟨g,j*6+4,none⟩=some (.slice At t.len ct)∧w.cell? ⟨g,j*6+5,none⟩=some (.slice Ae e.len ce))∧RepV w lo hi t At ct∧RepV w lo hi e Ae ce
theorem add_block (g o k:Nat):(⟨g,o,none⟩:Addr).add k=⟨g,o+k,none⟩:=by
 unfold Addr.add
 by_cases h:k=0 <;> simp [h]
theorem Filled.rep {w:World} {lo hi g:Nat} (S:Sts) (k0:Nat):∀ (s:Sts) (k:Nat),S.drop k=s→k+s.len=k0→Filled w lo hi g S k0→Rep w lo hi s ⟨g,k*6,none⟩:=by
 intro s
 induction s with
 | nil=>intro k _ _ _;trivial
 | cons op x y n t e r iht ihe ihr =>
  intro k hd hl hF
  simp only [Sts.len] at hl
  have hkl:k<S.len:=by
   rcases Nat.lt_or_ge k S.len with h | h
   ·exact h
   ·exfalso
    have:∀ (s:Sts) k,s.len≤k→s.drop k=.nil:=by
     intro s
     induction s with
     | nil=>intro k _;cases k <;> rfl
     | cons op x y n t e r iht ihe ihr =>
      intro k hk
      cases k with
      | zero=>simp [Sts.len] at hk
      | succ k=>exact ihr k (by simp only [Sts.len] at hk;omega)
    rw [this S k h] at hd
    cases hd
  obtain ⟨op',x',y',n',t',e',hd'⟩:=S.drop_lt k hkl
  have hd2:=hd'
  rw [hd] at hd2
  injection hd2 with e1 e2 e3 e4 e5 e6 e7
  subst e1 e2 e3 e4 e5 e6
  obtain ⟨At,ct,Ae,ce,⟨h0,h1,h2,h3,h4,h5⟩,hRt,hRe⟩:=hF k (by omega) _ _ _ _ _ _ hd'
  refine ⟨⟨h0,by rw [add_block];exact h1,by rw [add_block];exact h2,by rw [add_block];exact h3⟩,⟨At,ct,by rw [add_block];exact h4,hRt.1,hRt.2.1,hRt.2.2⟩,⟨Ae,ce,by rw [add_block];exact h5,hRe.1,hRe.2.1,hRe.2.2⟩,?_⟩
  rw [add_block,show k*6+6=(k+1)*6 by omega]
  exact ihr (k+1) e7.symm (by omega) hF
theorem Filled.mono {w:World} {lo hi lo' g:Nat} {s:Sts} {k:Nat} (h:Filled w lo hi g s k) (hlo:lo'≤lo):Filled w lo' hi g s k:=by
 intro j hj op x y n t e hd
 obtain ⟨At,ct,Ae,ce,h0,hRt,hRe⟩:=h j hj op x y n t e hd
 exact ⟨At,ct,Ae,ce,h0,hRt.keep hlo (Nat.le_refl _) fun _ _ _=>rfl,hRe.keep hlo (Nat.le_refl _) fun _ _ _=>rfl⟩
theorem Filled.repV {w:World} {lo hi g:Nat} {s:Sts} (h:Filled w lo hi g s s.len) (hg:lo≤g) (hg':g<hi) (hm:s.len≤maxLen):RepV w lo hi s (some ⟨g,0,none⟩) s.len :=
 ⟨Nat.le_refl _,hm,fun _=>⟨_,rfl,hg,hg',by simpa using Filled.rep s s.len s 0 rfl (by omega) h⟩⟩
set_option linter.unusedVariables false
def bitsFrom:Nat→Nat→Nat→List Nat
 | 0,_,_=>[]
 | f+1,i,x=>if x % 2=1 then i :: bitsFrom f (i+1) (x / 2) else bitsFrom f (i+1) (x / 2)
def bitsOf (x:Nat):List Nat:=bitsFrom 64 0 x
theorem bitsFrom_zero:∀ f i,bitsFrom f i 0=[]
 | 0,i=>rfl
 | f+1,i=>by
  unfold bitsFrom
  rw [if_neg (by decide)]
  exact bitsFrom_zero f (i+1)
theorem bitsOf_zero:bitsOf 0=[]:=bitsFrom_zero 64 0
theorem and_pred_odd (x:Nat) (h:x % 2=1):(x&&&(x-1)) % 2=0∧(x&&&(x-1)) / 2=x / 2:=by
 constructor
 ·have:(x&&&(x-1)).testBit 0=false:=by
   rw [Nat.testBit_and]
   have:(x-1).testBit 0=false:=by simp [Nat.testBit_zero];omega
   rw [this,Bool.and_false]
  rw [Nat.testBit_zero] at this
  have:=of_decide_eq_false this
  omega
 ·have e:(x-1) / 2=x / 2:=by omega
  have:=Nat.and_div_two (a:=x) (b:=x-1)
  rw [this,e,Nat.and_self]
theorem and_pred_even (x:Nat) (h:x % 2=0) (h0:0<x):(x&&&(x-1)) % 2=0∧(x&&&(x-1)) / 2=(x / 2)&&&(x / 2-1):=by
 constructor
 ·have:(x&&&(x-1)).testBit 0=false:=by
   rw [Nat.testBit_and]
   have:x.testBit 0=false:=by simp [Nat.testBit_zero];omega
   rw [this,Bool.false_and]
  rw [Nat.testBit_zero] at this
  have:=of_decide_eq_false this
  omega
 ·have e:(x-1) / 2=x / 2-1:=by omega
  have:=Nat.and_div_two (a:=x) (b:=x-1)
  rw [this,e]
theorem bitsFrom_step:∀ f i x,0<x→x<2 ^ f→bitsFrom f i x=(i+Lib.ctzFrom f x) :: bitsFrom f i (x&&&(x-1))
 | 0,i,x,h0,h=>by simp at h;omega
 | f+1,i,x,h0,h=>by
  unfold bitsFrom Lib.ctzFrom
  by_cases h1:x % 2=1
  ·obtain ⟨e1,e2⟩:=and_pred_odd x h1
   rw [if_pos h1,if_pos h1,e1,e2,if_neg (by decide)]
   rfl
  ·have hx:x / 2<2 ^ f:=by rw [Nat.pow_succ] at h;omega
   obtain ⟨e1,e2⟩:=and_pred_even x (by omega) h0
   rw [if_neg h1,if_neg h1,e1,e2,if_neg (by decide),bitsFrom_step f (i+1) (x / 2) (by omega) hx]
   congr 1
   omega
theorem bitsOf_step (x:Nat) (h0:x≠0) (h:x<18446744073709551616):bitsOf x=Lib.ctz 64 x :: bitsOf (x&&&(x-1)):=by
 have e:Lib.ctz 64 x=Lib.ctzFrom 64 x:=by simp [Lib.ctz,h0]
 unfold bitsOf
 rw [e,bitsFrom_step 64 0 x (by omega) h,Nat.zero_add]
theorem and_pred_lt (x:Nat) (h0:x≠0):x&&&(x-1)<x:=Nat.lt_of_le_of_lt Nat.and_le_right (by omega)
theorem mem_bitsFrom:∀ f i x k,k∈bitsFrom f i x↔i≤k∧k<i+f∧x.testBit (k-i)=true
 | 0,i,x,k=>by simp [bitsFrom];omega
 | f+1,i,x,k=>by
  have ih:=mem_bitsFrom f (i+1) (x / 2) k
  have ht:i+1≤k→(x / 2).testBit (k-(i+1))=x.testBit (k-i):=by
   intro h
   rw [show k-i=(k-(i+1))+1 from by omega,Nat.testBit_succ]
  unfold bitsFrom
  by_cases h1:x % 2=1
  ·rw [if_pos h1,List.mem_cons,ih]
   constructor
   ·rintro (rfl | ⟨h2,h3,h4⟩)
    ·exact ⟨Nat.le_refl _,by omega,by simp [Nat.testBit_zero,h1]⟩
    ·exact ⟨by omega,by omega,by rw [← ht h2];exact h4⟩
   ·rintro ⟨h2,h3,h4⟩
    by_cases he:k=i
    ·exact .inl he
    ·exact .inr ⟨by omega,by omega,by rw [ht (by omega)];exact h4⟩
  ·rw [if_neg h1,ih]
   constructor
   ·rintro ⟨h2,h3,h4⟩
    exact ⟨by omega,by omega,by rw [← ht h2];exact h4⟩
   ·rintro ⟨h2,h3,h4⟩
    by_cases he:k=i
    ·subst he
     simp [Nat.testBit_zero] at h4
     omega
    ·exact ⟨by omega,by omega,by rw [ht (by omega)];exact h4⟩
theorem mem_bitsOf (x k:Nat):k∈bitsOf x↔k<64∧x.testBit k=true:=by
 unfold bitsOf
 rw [mem_bitsFrom]
 simp
theorem bitsFrom_length:∀ f i x,(bitsFrom f i x).length≤f
 | 0,i,x=>by simp [bitsFrom]
 | f+1,i,x=>by
  have:=bitsFrom_length f (i+1) (x / 2)
  unfold bitsFrom
  split
  ·simp;omega
  ·omega
theorem bitsOf_length (x:Nat):(bitsOf x).length≤64:=bitsFrom_length 64 0 x
theorem bitsFrom_filter:∀ f i x,bitsFrom f i x=(List.range' i f).filter (fun k=>x.testBit (k-i))
 | 0,i,x=>rfl
 | f+1,i,x=>by
  have ih:=bitsFrom_filter f (i+1) (x / 2)
  have ht:(List.range' (i+1) f).filter (fun k=>(x / 2).testBit (k-(i+1)))=(List.range' (i+1) f).filter (fun k=>x.testBit (k-i)):=by
   apply List.filter_congr
   intro k hk
   have:=List.mem_range'_1.mp hk
   rw [show k-i=(k-(i+1))+1 from by omega,Nat.testBit_succ]
  unfold bitsFrom
  rw [List.range'_succ,ih,ht]
  by_cases h1:x % 2=1
  ·rw [if_pos h1,List.filter_cons_of_pos (by simp [Nat.testBit_zero,h1])]
  ·rw [if_neg h1,List.filter_cons_of_neg (by simp [Nat.testBit_zero];omega)]
theorem bitsOf_filter (x:Nat):bitsOf x=(List.range 64).filter (fun k=>x.testBit k):=by
 unfold bitsOf
 rw [bitsFrom_filter,List.range_eq_range']
 simp
inductive Reach (nx:Nat→List Nat):Nat→Nat→Prop
 | one {a b:Nat}:b∈nx a→Reach nx a b
 | step {a b c:Nat}:Reach nx a b→c∈nx b→Reach nx a c
structure Found (nx:Nat→List Nat) (a:Nat) (F:Nat→Prop) (W:List Nat):Prop where
 sound:∀ x,F x→Reach nx a x
 waits:∀ x∈W,Reach nx a x
 first:∀ y∈nx a,F y∨y∈W
 next:∀ x,F x→∀ y∈nx x,F y∨y∈W
structure FoundB (nx:Nat→List Nat) (a:Nat) (F:Nat→Prop) (W:List Nat):Prop where
 sound:∀ x,F x→Reach nx a x
 waits:∀ x∈W,Reach nx a x
 first:∀ y∈nx a,F y
 next:∀ x,F x→x∈W∨∀ y∈nx x,F y
theorem filter_split (p r:Nat→Bool):∀ l:List Nat,(l.filter fun k=>p k || r k).length=(l.filter p).length+(l.filter fun k=>r k && !p k).length
 | []=>rfl
 | x :: l=>by
  have ih:=filter_split p r l
  simp only [List.filter_cons]
  cases hp:p x <;> cases hr:r x <;> simp [ih] <;> omega
structure Nd where
 op:Int
 x:Int
 y:Int
 n:Int
 next:List Int
def stN (op:Int) (nt ne:Nat):Nat:=if op=9 then 2+nt+ne else if op=10 then 2+nt else 1
def stPts (op x y n:Int) (k nt ne:Nat) (T E:List Nd):List Nd :=
 if op=9 then ⟨9,0,0,0,[((k+1:Nat):Int),((k+2+nt:Nat):Int)]⟩ :: (T++⟨10,0,0,1,[((k+2+nt+ne:Nat):Int)]⟩ :: E)
 else if op=10 then ⟨10,0,0,0,[((k+1:Nat):Int),((k+2+nt:Nat):Int)]⟩ :: (T++[⟨10,0,0,1,[(k:Int)]⟩])
 else [⟨op,x,y,n,[((k+1:Nat):Int)]⟩]
def Sts.npts:Sts→Nat
 | .nil=>0
 | .cons op _ _ _ t e r=>stN op t.npts e.npts+r.npts
def Sts.pts:Sts→Nat→List Nd
 | .nil,_=>[]
 | .cons op x y n t e r,k=>stPts op x y n k t.npts e.npts (t.pts (k+1)) (e.pts (k+2+t.npts))++r.pts (k+stN op t.npts e.npts)
theorem Sts.pts_cons (op x y n:Int) (t e r:Sts) (k:Nat):(Sts.cons op x y n t e r).pts k=stPts op x y n k t.npts e.npts (t.pts (k+1)) (e.pts (k+2+t.npts))++r.pts (k+stN op t.npts e.npts):=rfl
theorem stPts_len (op x y n:Int) (k nt ne:Nat) (T E:List Nd) (hT:T.length=nt) (hE:E.length=ne):(stPts op x y n k nt ne T E).length=stN op nt ne:=by
 unfold stPts stN
 split
 ·simp;omega
 ·split
  ·simp;omega
  ·simp
theorem Sts.pts_len (s:Sts):∀ k,(s.pts k).length=s.npts:=by
 induction s with
 | nil=>intro k;rfl
 | cons op x y n t e r iht ihe ihr =>
  intro k
  rw [Sts.pts_cons,List.length_append,stPts_len _ _ _ _ _ _ _ _ _ (iht _) (ihe _),ihr]
  rfl
theorem Sts.npts_le (s:Sts):s.npts≤2*s.size:=by
 induction s with
 | nil=>exact Nat.le_refl _
 | cons op x y n t e r iht ihe ihr =>
  simp only [Sts.npts,Sts.size,stN]
  split
  ·omega
  ·split <;> omega
def progPts (s:Sts):List Nd:=s.pts 0++[⟨11,0,0,0,[]⟩]
theorem progPts_len (s:Sts):(progPts s).length=s.npts+1:=by simp [progPts,s.pts_len]
def NdOk (lo hi:Nat) (d:Nd):Prop:=1≤d.next.length∧d.next.length≤2∧∀ v∈d.next,(lo:Int)≤v∧v≤hi
theorem NdOk.wide {lo hi lo' hi':Nat} {d:Nd} (h:NdOk lo hi d) (hl:lo'≤lo) (hh:hi≤hi'):NdOk lo' hi' d :=
 ⟨h.1,h.2.1,fun v hv=>⟨by have:=(h.2.2 v hv).1;omega,by have:=(h.2.2 v hv).2;omega⟩⟩
theorem Sts.pts_ok (s:Sts):∀ k,∀ d∈s.pts k,NdOk k (k+s.npts) d:=by
 induction s with
 | nil=>intro k d hd;cases hd
 | cons op x y n t e r iht ihe ihr =>
  intro k d hd
  rw [Sts.pts_cons,List.mem_append] at hd
  simp only [Sts.npts]
  rcases hd with hd | hd
  ·unfold stPts at hd
   by_cases h9:op=9
   ·rw [if_pos h9] at hd
    have hn:stN op t.npts e.npts=2+t.npts+e.npts:=by simp [stN,h9]
    rw [hn]
    simp only [List.mem_cons,List.mem_append] at hd
    rcases hd with rfl | hd | rfl | hd
    ·exact ⟨by simp,by simp,fun v hv=>by simp at hv;omega⟩
    ·exact (iht _ d hd).wide (by omega) (by omega)
    ·exact ⟨by simp,by simp,fun v hv=>by simp at hv;omega⟩
    ·exact (ihe _ d hd).wide (by omega) (by omega)
   ·rw [if_neg h9] at hd
    by_cases h10:op=10
    ·rw [if_pos h10] at hd
     have hn:stN op t.npts e.npts=2+t.npts:=by simp [stN,h10]
     rw [hn]
     simp only [List.mem_cons,List.mem_append,List.not_mem_nil,or_false] at hd
     rcases hd with rfl | hd | rfl
     ·exact ⟨by simp,by simp,fun v hv=>by simp at hv;omega⟩
     ·exact (iht _ d hd).wide (by omega) (by omega)
     ·exact ⟨by simp,by simp,fun v hv=>by simp at hv;omega⟩
    ·rw [if_neg h10] at hd
     have hn:stN op t.npts e.npts=1:=by simp [stN,h9,h10]
     rw [hn]
     simp only [List.mem_cons,List.not_mem_nil,or_false] at hd
     subst hd
     exact ⟨by simp,by simp,fun v hv=>by simp at hv;omega⟩
  ·exact (ihr _ d hd).wide (by omega) (by omega)
def choicesOf (ds:List Nd):Nat:=(ds.filter fun d=>decide (d.next.length=2)).length
def choicesI (ok:Bool) (s:Sts):Int:=if ok then (choicesOf (progPts s):Int) else 0
def tyAt (ts:List Int) (v:Int):Int:=if v<0∨(ts.length:Int)≤v then 0 else ts.getD v.toNat 0
def typesB (ts:List Int):Bool:=ts.all (fun t=>decide (1≤t∧t≤4)) && decide (ts.length≤6)
def simpleB (op tx ty x y n:Int):Bool :=
 if op=1 then decide (tx=1∧y=0∧0≤n∧n≤9)
 else if op=2 then decide (tx=2∧y=0∧0≤n∧n≤9)
 else if n≠0 then false
 else if op=3 then decide (tx=ty∧0<tx∧x≠y)
 else if op=4 then decide (tx=3∧2≤ty∧x≠y)
 else if op=5 then decide (tx=4∧(ty=2∨ty=4)∧x≠y)
 else if op=6 then decide (tx=1∧2≤ty)
 else if op=7 then decide ((tx=2∨tx=4)∧ty=1)
 else if op=8 then decide (tx=2∧y=0)
 else false
def bodyB (ts:List Int):Int→Sts→Bool
  | _,.nil=>true
  | d,.cons op x y n t e r =>
    (if op≠9∧op≠10 then decide (t.len=0∧e.len=0) && simpleB op (tyAt ts x) (tyAt ts y) x y n
     else decide (1≤d∧x=0∧y=0∧n=0∧(op=10→e.len=0)) && (bodyB ts (d-1) t && bodyB ts (d-1) e)) && bodyB ts d r
def stmtB (ts:List Int) (d op x y n:Int) (t e:Sts):Bool :=
 if op≠9∧op≠10 then decide (t.len=0∧e.len=0) && simpleB op (tyAt ts x) (tyAt ts y) x y n
 else decide (1≤d∧x=0∧y=0∧n=0∧(op=10→e.len=0)) && (bodyB ts (d-1) t && bodyB ts (d-1) e)
theorem bodyB_cons (ts:List Int) (d op x y n:Int) (t e r:Sts):bodyB ts d (.cons op x y n t e r)=(stmtB ts d op x y n t e && bodyB ts d r):=rfl
def validB (ts:List Int) (s:Sts):Bool:=typesB ts && (bodyB ts 4 s && decide (s.size≤30))
def countI (ts:List Int) (s:Sts):Int:=if validB ts s then s.size else 0
def Edge (ns:List Nd) (k j a b:Nat):Prop:=∃ d i,ns[a]?=some d∧d.next[i]?=some (b:Int)∧(a<k∨(a=k∧i<j))
theorem Edge.zero (ns:List Nd) (a b:Nat):¬ Edge ns 0 0 a b:=by
 rintro ⟨d,i,_,_,h | ⟨_,h⟩⟩ <;> omega
theorem Edge.row {ns:List Nd} {k a b:Nat} {d:Nd} (hd:ns[k]?=some d):Edge ns k d.next.length a b↔Edge ns (k+1) 0 a b:=by
 constructor
 ·rintro ⟨e,i,h1,h2,h | ⟨h,h3⟩⟩
  ·exact ⟨e,i,h1,h2,.inl (by omega)⟩
  ·exact ⟨e,i,h1,h2,.inl (by omega)⟩
 ·rintro ⟨e,i,h1,h2,h | ⟨h,h3⟩⟩
  ·by_cases hak:a=k
   ·subst hak
    rw [hd] at h1
    cases h1
    refine ⟨d,i,hd,h2,.inr ⟨rfl,?_⟩⟩
    exact (List.getElem?_eq_some_iff.mp h2).1
   ·exact ⟨e,i,h1,h2,.inl (by omega)⟩
  ·omega
theorem Edge.one {ns:List Nd} {k j a b c:Nat} {d:Nd} (hd:ns[k]?=some d) (hc:d.next[j]?=some (c:Int)):Edge ns k (j+1) a b↔Edge ns k j a b∨(a=k∧b=c):=by
 constructor
 ·rintro ⟨e,i,h1,h2,h | ⟨h,h3⟩⟩
  ·exact .inl ⟨e,i,h1,h2,.inl h⟩
  ·by_cases hij:i=j
   ·subst hij h
    rw [hd] at h1
    cases h1
    rw [hc] at h2
    have:(c:Int)=b:=by simpa using h2
    exact .inr ⟨rfl,by omega⟩
   ·exact .inl ⟨e,i,h1,h2,.inr ⟨h,by omega⟩⟩
 ·rintro (⟨e,i,h1,h2,h | ⟨h,h3⟩⟩ | ⟨h1,h2⟩)
  ·exact ⟨e,i,h1,h2,.inl h⟩
  ·exact ⟨e,i,h1,h2,.inr ⟨h,by omega⟩⟩
  ·subst h1 h2
   exact ⟨d,j,hd,hc,.inr ⟨rfl,by omega⟩⟩
structure Sets2 (E:Nat→Nat→Prop) (ah bk:Nat→Nat):Prop where
 ahLt:∀ i,ah i<18446744073709551616
 bkLt:∀ i,bk i<18446744073709551616
 ah:∀ a b,a<64→b<64→((ah a).testBit b=true↔E a b)
 bk:∀ a b,a<64→b<64→((bk b).testBit a=true↔E a b)
def setAt (f:Nat→Nat) (i v:Nat):Nat→Nat:=fun j=>if j=i then v else f j
theorem Sets2.more {E E':Nat→Nat→Prop} {ah bk:Nat→Nat} (h:Sets2 E ah bk) {a b:Nat} (ha:a<64) (hb:b<64) (hE:∀ x y,E' x y↔E x y∨(x=a∧y=b)):Sets2 E' (setAt ah a (ah a|||2 ^ b)) (setAt bk b (bk b|||2 ^ a)):=by
 have hlt:∀ x i,x<18446744073709551616→i<64→x|||2 ^ i<18446744073709551616:=by
  intro x i hx hi
  have h2:2 ^ i<2 ^ 64:=Nat.pow_lt_pow_right (by decide) hi
  have:x|||2 ^ i<2 ^ 64:=Nat.or_lt_two_pow (by omega) h2
  omega
 refine ⟨fun i=>?_,fun i=>?_,fun x y hx hy=>?_,fun x y hx hy=>?_⟩
 ·unfold setAt
  split
  ·exact hlt _ _ (h.ahLt a) hb
  ·exact h.ahLt i
 ·unfold setAt
  split
  ·exact hlt _ _ (h.bkLt b) ha
  ·exact h.bkLt i
 ·unfold setAt
  rw [hE]
  split
  ·rename_i hxa
   subst hxa
   rw [Nat.testBit_or,Bool.or_eq_true,h.ah x y hx hy,Nat.testBit_two_pow]
   simp only [decide_eq_true_eq,true_and]
   exact or_congr Iff.rfl eq_comm
  ·rename_i hxa
   rw [h.ah x y hx hy]
   exact ⟨.inl,fun h=>h.elim id fun h=>absurd h.1 hxa⟩
 ·unfold setAt
  rw [hE]
  split
  ·rename_i hyb
   subst hyb
   rw [Nat.testBit_or,Bool.or_eq_true,h.bk x y hx hy,Nat.testBit_two_pow]
   simp only [decide_eq_true_eq,and_true]
   exact or_congr Iff.rfl eq_comm
  ·rename_i hyb
   rw [h.bk x y hx hy]
   exact ⟨.inl,fun h=>h.elim id fun h=>absurd h.2 hyb⟩
theorem Sets2.zero:Sets2 (fun _ _=>False) (fun _=>0) (fun _=>0):=⟨fun _=>by decide,fun _=>by decide,fun a b _ _=>by simp,fun a b _ _=>by simp⟩
theorem Sets2.congr {E E':Nat→Nat→Prop} {ah bk:Nat→Nat} (h:Sets2 E ah bk) (hE:∀ x y,E' x y↔E x y):Sets2 E' ah bk :=
 ⟨h.ahLt,h.bkLt,fun a b ha hb=>(h.ah a b ha hb).trans (hE a b).symm,fun a b ha hb=>(h.bk a b ha hb).trans (hE a b).symm⟩
def okT:Sts→Prop
 | .nil=>True
 | .cons op x y n t e r=>(1≤op∧op≤10∧(op≤8→0≤x∧x≤5∧0≤y∧y≤5∧0≤n∧n≤9))∧okT t∧okT e∧okT r
theorem ty_range {ts:List Int} {v:Int} (h6:ts.length≤6) (h:tyAt ts v≠0):0≤v∧v≤5:=by
 unfold tyAt at h
 by_cases hv:v<0∨(ts.length:Int)≤v
 ·rw [if_pos hv] at h;exact absurd rfl h
 ·omega
theorem ok_simple {ts:List Int} {op x y n:Int} (h6:ts.length≤6) (h:simpleB op (tyAt ts x) (tyAt ts y) x y n=true):1≤op∧op≤10∧(op≤8→0≤x∧x≤5∧0≤y∧y≤5∧0≤n∧n≤9):=by
 have hx:tyAt ts x≠0→0≤x∧x≤5:=ty_range h6
 have hy:tyAt ts y≠0→0≤y∧y≤5:=ty_range h6
 generalize tyAt ts x=tx at *
 generalize tyAt ts y=ty at *
 unfold simpleB at h
 by_cases e1:op=1
 ·rw [if_pos e1] at h
  simp only [decide_eq_true_eq] at h
  have a1:=hx (by omega)
  exact ⟨by omega,by omega,fun _=>⟨a1.1,a1.2,by omega,by omega,by omega,by omega⟩⟩
 by_cases e2:op=2
 ·rw [if_neg e1,if_pos e2] at h
  simp only [decide_eq_true_eq] at h
  have a1:=hx (by omega)
  exact ⟨by omega,by omega,fun _=>⟨a1.1,a1.2,by omega,by omega,by omega,by omega⟩⟩
 by_cases hn:n≠0
 ·rw [if_neg e1,if_neg e2,if_pos hn] at h;cases h
 have hn0:n=0:=by omega
 by_cases e3:op=3
 ·rw [if_neg e1,if_neg e2,if_neg hn,if_pos e3] at h
  simp only [decide_eq_true_eq] at h
  have a1:=hx (by omega)
  have a2:=hy (by omega)
  exact ⟨by omega,by omega,fun _=>⟨a1.1,a1.2,by omega,by omega,by omega,by omega⟩⟩
 by_cases e4:op=4
 ·rw [if_neg e1,if_neg e2,if_neg hn,if_neg e3,if_pos e4] at h
  simp only [decide_eq_true_eq] at h
  have a1:=hx (by omega)
  have a2:=hy (by omega)
  exact ⟨by omega,by omega,fun _=>⟨a1.1,a1.2,by omega,by omega,by omega,by omega⟩⟩
 by_cases e5:op=5
 ·rw [if_neg e1,if_neg e2,if_neg hn,if_neg e3,if_neg e4,if_pos e5] at h
  simp only [decide_eq_true_eq] at h
  have a1:=hx (by omega)
  have a2:=hy (by omega)
  exact ⟨by omega,by omega,fun _=>⟨a1.1,a1.2,by omega,by omega,by omega,by omega⟩⟩
 by_cases e6:op=6
 ·rw [if_neg e1,if_neg e2,if_neg hn,if_neg e3,if_neg e4,if_neg e5,if_pos e6] at h
  simp only [decide_eq_true_eq] at h
  have a1:=hx (by omega)
  have a2:=hy (by omega)
  exact ⟨by omega,by omega,fun _=>⟨a1.1,a1.2,by omega,by omega,by omega,by omega⟩⟩
 by_cases e7:op=7
 ·rw [if_neg e1,if_neg e2,if_neg hn,if_neg e3,if_neg e4,if_neg e5,if_neg e6,if_pos e7] at h
  simp only [decide_eq_true_eq] at h
  have a1:=hx (by omega)
  have a2:=hy (by omega)
  exact ⟨by omega,by omega,fun _=>⟨a1.1,a1.2,by omega,by omega,by omega,by omega⟩⟩
 by_cases e8:op=8
 ·rw [if_neg e1,if_neg e2,if_neg hn,if_neg e3,if_neg e4,if_neg e5,if_neg e6,if_neg e7,if_pos e8] at h
  simp only [decide_eq_true_eq] at h
  have a1:=hx (by omega)
  exact ⟨by omega,by omega,fun _=>⟨a1.1,a1.2,by omega,by omega,by omega,by omega⟩⟩
 rw [if_neg e1,if_neg e2,if_neg hn,if_neg e3,if_neg e4,if_neg e5,if_neg e6,if_neg e7,if_neg e8] at h
 cases h
theorem okT_of_body {ts:List Int} (h6:ts.length≤6) (s:Sts):∀ d,bodyB ts d s=true→okT s:=by
 induction s with
 | nil=>intro d _;trivial
 | cons op x y n t e r iht ihe ihr =>
  intro d h
  rw [bodyB_cons,Bool.and_eq_true] at h
  obtain ⟨h1,h2⟩:=h
  unfold stmtB at h1
  by_cases hop:op≠9∧op≠10
  ·rw [if_pos hop,Bool.and_eq_true,decide_eq_true_eq] at h1
   obtain ⟨⟨ht,he⟩,h3⟩:=h1
   have nt:t=.nil:=by cases t with | nil=>rfl | cons=>simp [Sts.len] at ht
   have ne:e=.nil:=by cases e with | nil=>rfl | cons=>simp [Sts.len] at he
   subst nt ne
   exact ⟨ok_simple h6 h3,trivial,trivial,ihr d h2⟩
  ·rw [if_neg hop,Bool.and_eq_true,Bool.and_eq_true,decide_eq_true_eq] at h1
   exact ⟨⟨by omega,by omega,fun h8=>by omega⟩,iht _ h1.2.1,ihe _ h1.2.2,ihr d h2⟩
def nextP (ds:List Nd) (at_:Nat):List Int:=(ds[at_]?.map (·.next)).getD []
def stepP (nx:List Int) (ch:List Int):Int × List Int :=
 match nx with
 | []=>(0,ch)
 | [a]=>(a,ch)
 | a :: b :: _=>match ch with
  | []=>(b,[])
  | c :: cs=>(if c % 2=0 then a else b,cs)
def runP (ds:List Nd):Nat→Nat→List Int→List Int × Bool
 | 0,at_,_=>if nextP ds at_=[] then ([(at_:Int)],true) else ([],false)
 | m+1,at_,ch=>if nextP ds at_=[] then ([(at_:Int)],true) else ((at_:Int) :: (runP ds m (stepP (nextP ds at_) ch).1.toNat (stepP (nextP ds at_) ch).2).1,(runP ds m (stepP (nextP ds at_) ch).1.toNat (stepP (nextP ds at_) ch).2).2)
theorem pts_ops (s:Sts):okT s→∀ k,∀ d∈s.pts k,d.op≠11:=by
 induction s with
 | nil=>intro _ k d hd;cases hd
 | cons op x y n t e r iht ihe ihr =>
  intro hok k d hd
  obtain ⟨⟨h1,h10,_⟩,ht,he,hr⟩:=hok
  rw [Sts.pts_cons,List.mem_append] at hd
  rcases hd with hd | hd
  ·unfold stPts at hd
   by_cases h9:op=9
   ·rw [if_pos h9] at hd
    simp only [List.mem_cons,List.mem_append] at hd
    rcases hd with rfl | hd | rfl | hd
    ·simp
    ·exact iht ht _ d hd
    ·simp
    ·exact ihe he _ d hd
   ·rw [if_neg h9] at hd
    by_cases h10:op=10
    ·rw [if_pos h10] at hd
     simp only [List.mem_cons,List.mem_append,List.not_mem_nil,or_false] at hd
     rcases hd with rfl | hd | rfl
     ·simp
     ·exact iht ht _ d hd
     ·simp
    ·rw [if_neg h10] at hd
     simp only [List.mem_cons,List.not_mem_nil,or_false] at hd
     subst hd
     show op≠11
     omega
  ·exact ihr hr _ d hd
structure NdP (q:Nat) (d:Nd):Prop where
 op:d.op≠11
 one:1≤d.next.length
 two:d.next.length≤2
 le:∀ v∈d.next,0≤v∧v≤q
def PtsOk (q:Nat) (ds:List Nd):Prop:=ds.length=q+1∧ds[q]?=some ⟨11,0,0,0,[]⟩∧∀ k,k<q→∃ d,ds[k]?=some d∧NdP q d
theorem progPts_ok (s:Sts) (hok:okT s):PtsOk s.npts (progPts s):=by
 refine ⟨progPts_len s,?_,fun k hk=>?_⟩
 ·unfold progPts
  rw [List.getElem?_append_right (by rw [s.pts_len];exact Nat.le_refl _),s.pts_len,Nat.sub_self]
  rfl
 ·have hl:k<(s.pts 0).length:=by rw [s.pts_len];exact hk
  have hm:=List.getElem_mem hl
  have h:=s.pts_ok 0 _ hm
  refine ⟨(s.pts 0)[k],?_,pts_ops s hok 0 _ hm,h.1,h.2.1,fun v hv=>?_⟩
  ·unfold progPts
   rw [List.getElem?_append_left hl,List.getElem?_eq_getElem hl]
  ·have:=h.2.2 v hv
   omega
theorem nextP_some {ds:List Nd} {k:Nat} {d:Nd} (h:ds[k]?=some d):nextP ds k=d.next:=by simp [nextP,h]
def runI (ok:Bool) (s:Sts) (ch:List Int) (most:Int):List Int × Bool:=if ok=true∧0≤most∧most≤1000 then runP (progPts s) most.toNat 0 ch else ([],false)
def RunAt (ds:List Nd) (all:List Int × Bool) (cur:List Int) (m k:Nat) (ch:List Int):Prop:=all=(cur++(runP ds m k ch).1,(runP ds m k ch).2)
inductive Flo (e:Nat→Nat→Prop) (first:Nat) (B:Nat→Prop) (G K:Nat→Nat→Prop):Nat→Nat→Prop
 | start {v:Nat}:B v→Flo e first B G K first v
 | gen {k m v:Nat}:e k m→G k v→Flo e first B G K m v
 | keep {k m v:Nat}:e k m→Flo e first B G K k v→¬ K k v→Flo e first B G K m v
def dv (neg:Bool) (x v:Nat):Prop:=x.testBit v=!neg
def wt (neg:Bool) (x:Nat):Nat:=if neg then x else 63-x
def jn (neg:Bool) (x y:Nat):Nat:=if neg then x&&&y else x|||y
theorem dv_jn (neg:Bool) (x y v:Nat):dv neg (jn neg x y) v↔dv neg x v∨dv neg y v:=by
 unfold dv jn
 cases neg
 ·simp [Nat.testBit_or]
 ·simp only [if_true,Nat.testBit_and,Bool.not_true]
  cases x.testBit v <;> cases y.testBit v <;> simp
theorem jn_lt (neg:Bool) {x y:Nat} (hx:x<64) (hy:y<64):jn neg x y<64:=by
 unfold jn
 split
 ·exact Nat.lt_of_le_of_lt Nat.and_le_left hx
 ·exact Nat.or_lt_two_pow (n:=6) hx hy
theorem wt_jn (neg:Bool) {x y:Nat} (hx:x<64) (hy:y<64) (hne:jn neg x y≠x):wt neg (jn neg x y)<wt neg x:=by
 have hj:=jn_lt neg hx hy
 unfold jn at hne hj ⊢
 unfold wt
 cases neg
 ·simp only [Bool.false_eq_true,if_false] at hne hj ⊢
  have:x≤x|||y:=Nat.left_le_or
  omega
 ·simp only [if_true] at hne ⊢
  have:x&&&y≤x:=Nat.and_le_left
  omega
def sumTo (f:Nat→Nat):Nat→Nat
 | 0=>0
 | n+1=>sumTo f n+f n
theorem sumTo_congr {f g:Nat→Nat}:∀ {n:Nat},(∀ i,i<n→f i=g i)→sumTo f n=sumTo g n
 | 0,_=>rfl
 | n+1,h=>by
  unfold sumTo
  rw [sumTo_congr (n:=n) (fun i hi=>h i (by omega)),h n (by omega)]
theorem sumTo_less {f g:Nat→Nat} {k:Nat}:∀ {n:Nat},k<n→g k<f k→(∀ i,i≠k→g i=f i)→sumTo g n<sumTo f n
 | 0,h,_,_=>by omega
 | n+1,h,h1,h2=>by
  unfold sumTo
  by_cases hk:k=n
  ·subst hk
   have:=sumTo_congr (f:=g) (g:=f) (n:=k) (fun i hi=>h2 i (by omega))
   omega
  ·have:=sumTo_less (n:=n) (by omega) h1 h2
   have:=h2 n (fun e=>hk e.symm)
   omega
structure FloIn (e:Nat→Nat→Prop) (first:Nat) (B:Nat→Prop) (G K:Nat→Nat→Prop) (n:Nat) (neg:Bool) (kn:Nat→Nat) (W:Nat→Prop):Prop where
 lt:∀ m,kn m<64
 sound:∀ m,m<n→∀ v,v<6→dv neg (kn m) v→Flo e first B G K m v
 beg:∀ v,v<6→B v→dv neg (kn first) v
 next:∀ k,k<n→¬ W k→∀ m,e k m→∀ v,v<6→(G k v∨(dv neg (kn k) v∧¬ K k v))→dv neg (kn m) v
theorem FloIn.last {e:Nat→Nat→Prop} {first:Nat} {B:Nat→Prop} {G K:Nat→Nat→Prop} {n:Nat} {neg:Bool} {kn:Nat→Nat} {W:Nat→Prop} (h:FloIn e first B G K n neg kn W) (hW:∀ k,¬ W k) (hE:∀ a b,e a b→a<n) {m v:Nat} (hm:m<n) (hv:v<6):dv neg (kn m) v↔Flo e first B G K m v:=by
 refine ⟨h.sound m hm v hv,fun hf=>?_⟩
 clear hm
 induction hf with
 | start hb=>exact h.beg _ hv hb
 | gen h1 h2=>exact h.next _ (hE _ _ h1) (hW _) _ h1 _ hv (.inl h2)
 | keep h1 _ h3 ih=>exact h.next _ (hE _ _ h1) (hW _) _ h1 _ hv (.inr ⟨ih hv,h3⟩)
structure FloAt (e:Nat→Nat→Prop) (first:Nat) (B:Nat→Prop) (G K:Nat→Nat→Prop) (n:Nat) (neg:Bool) (kn:Nat→Nat) (W:Nat→Prop) (a x0 y:Nat) (D:Nat→Prop):Prop where
 lt:∀ m,kn m<64
 ylt:y<64
 sound:∀ m,m<n→∀ v,v<6→dv neg (kn m) v→Flo e first B G K m v
 beg:∀ v,v<6→B v→dv neg (kn first) v
 behind:∀ v,v<6→(dv neg y v↔G a v∨(dv neg x0 v∧¬ K a v))
 old:∀ v,v<6→dv neg x0 v→Flo e first B G K a v
 here:¬ W a→kn a=x0
 next:∀ k,k<n→¬ W k→∀ m,e k m→(k=a→D m)→∀ v,v<6→(G k v∨(dv neg (kn k) v∧¬ K k v))→dv neg (kn m) v
theorem FloIn.take {e:Nat→Nat→Prop} {first:Nat} {B:Nat→Prop} {G K:Nat→Nat→Prop} {n:Nat} {neg:Bool} {kn:Nat→Nat} {W W':Nat→Prop} {a y:Nat} (h:FloIn e first B G K n neg kn W) (ha:a<n) (hy:y<64) (hb:∀ v,v<6→(dv neg y v↔G a v∨(dv neg (kn a) v∧¬ K a v))) (hW:∀ k,W k→W' k∨k=a):FloAt e first B G K n neg kn W' a (kn a) y (fun _=>False) :=
 ⟨h.lt,hy,h.sound,h.beg,hb,h.sound a ha,fun _=>rfl,fun k hk hw m hm hD v hv hg=>by
  by_cases hka:k=a
  ·exact absurd (hD hka) id
  ·refine h.next k hk (fun hWk=>?_) m hm v hv hg
   rcases hW k hWk with h1 | h1
   ·exact hw h1
   ·exact hka h1⟩
theorem FloAt.done {e:Nat→Nat→Prop} {first:Nat} {B:Nat→Prop} {G K:Nat→Nat→Prop} {n:Nat} {neg:Bool} {kn:Nat→Nat} {W:Nat→Prop} {a x0 y:Nat} {D:Nat→Prop} (h:FloAt e first B G K n neg kn W a x0 y D) (hD:∀ m,e a m→D m):FloIn e first B G K n neg kn W :=
 ⟨h.lt,h.sound,h.beg,fun k hk hw m hm v hv hg=>h.next k hk hw m hm (fun e'=>hD m (e' ▸ hm)) v hv hg⟩
theorem FloAt.same {e:Nat→Nat→Prop} {first:Nat} {B:Nat→Prop} {G K:Nat→Nat→Prop} {n:Nat} {neg:Bool} {kn:Nat→Nat} {W:Nat→Prop} {a x0 y:Nat} {D D':Nat→Prop} {b:Nat} (h:FloAt e first B G K n neg kn W a x0 y D) (hj:jn neg (kn b) y=kn b) (hD:∀ m,D' m→D m∨m=b):FloAt e first B G K n neg kn W a x0 y D' :=
 ⟨h.lt,h.ylt,h.sound,h.beg,h.behind,h.old,h.here,fun k hk hw m hm hDm v hv hg=>by
  by_cases hka:k=a
  ·subst hka
   rcases hD m (hDm rfl) with h1 | h1
   ·exact h.next k hk hw m hm (fun _=>h1) v hv hg
   ·subst h1
    rw [← hj,dv_jn]
    refine .inr ((h.behind v hv).mpr ?_)
    rw [← h.here hw]
    exact hg
  ·exact h.next k hk hw m hm (fun e'=>absurd e' hka) v hv hg⟩
theorem FloAt.more {e:Nat→Nat→Prop} {first:Nat} {B:Nat→Prop} {G K:Nat→Nat→Prop} {n:Nat} {neg:Bool} {kn:Nat→Nat} {W W':Nat→Prop} {a x0 y:Nat} {D D':Nat→Prop} {b:Nat} (h:FloAt e first B G K n neg kn W a x0 y D) (hab:e a b) (hW:∀ k,W' k↔W k∨k=b) (hD:∀ m,D' m→D m∨m=b):FloAt e first B G K n neg (setAt kn b (jn neg (kn b) y)) W' a x0 y D':=by
 have hmono:∀ m v,dv neg (kn m) v→dv neg (setAt kn b (jn neg (kn b) y) m) v:=by
  intro m v hd
  unfold setAt
  split
  ·rename_i hmb
   subst hmb
   exact (dv_jn _ _ _ _).mpr (.inl hd)
  ·exact hd
 refine ⟨fun m=>?_,h.ylt,fun m hm v hv hd=>?_,fun v hv hb=>hmono _ _ (h.beg v hv hb),h.behind,h.old,fun hw=>?_,fun k hk hw m hm hDm v hv hg=>?_⟩
 ·unfold setAt
  split
  ·exact jn_lt _ (h.lt b) h.ylt
  ·exact h.lt m
 ·unfold setAt at hd
  split at hd
  ·rename_i hmb
   subst hmb
   rcases (dv_jn _ _ _ _).mp hd with h1 | h1
   ·exact h.sound m hm v hv h1
   ·rcases (h.behind v hv).mp h1 with h2 | ⟨h2,h3⟩
    ·exact .gen hab h2
    ·exact .keep hab (h.old v hv h2) h3
  ·exact h.sound m hm v hv hd
 ·have:¬ (W a∨a=b):=fun h'=>hw ((hW a).mpr h')
  unfold setAt
  rw [if_neg (fun e'=>this (.inr e'))]
  exact h.here (fun h'=>this (.inl h'))
 ·have hwk:¬ (W k∨k=b):=fun h'=>hw ((hW k).mpr h')
  have hkb:k≠b:=fun e'=>hwk (.inr e')
  have hkk:setAt kn b (jn neg (kn b) y) k=kn k:=by unfold setAt;rw [if_neg hkb]
  rw [hkk] at hg
  by_cases hka:k=a
  ·subst hka
   rcases hD m (hDm rfl) with h1 | h1
   ·exact hmono _ _ (h.next k hk (fun h'=>hwk (.inl h')) m hm (fun _=>h1) v hv hg)
   ·subst h1
    unfold setAt
    rw [if_pos rfl,dv_jn]
    refine .inr ((h.behind v hv).mpr ?_)
    rw [← h.here (fun h'=>hwk (.inl h'))]
    exact hg
  ·exact hmono _ _ (h.next k hk (fun h'=>hwk (.inl h')) m hm (fun e'=>absurd e' hka) v hv hg)
def db (neg:Bool) (r:Nat→Bool) (v:Nat):Prop:=r v=!neg
def jr (neg:Bool) (x y:Nat→Bool):Nat→Bool:=fun v=>if neg then x v && y v else x v || y v
theorem db_jr (neg:Bool) (x y:Nat→Bool) (v:Nat):db neg (jr neg x y) v↔db neg x v∨db neg y v:=by
 unfold db jr
 cases neg <;> cases x v <;> cases y v <;> simp
def setR {α:Type} (f:Nat→α) (i:Nat) (v:α):Nat→α:=fun j=>if j=i then v else f j
theorem setR_at {α:Type} (f:Nat→α) (i:Nat) (v:α):setR f i v i=v:=by simp [setR]
theorem setR_ne {α:Type} (f:Nat→α) (i:Nat) (v:α) {j:Nat} (h:j≠i):setR f i v j=f j:=by simp [setR,h]
def offR (neg:Bool) (r:Nat→Bool) (T:Nat):Nat:=((List.range T).filter fun v=>r v==neg).length
theorem offR_le (neg:Bool) (r:Nat→Bool) (T:Nat):offR neg r T≤T:=by
 unfold offR
 have:=List.length_filter_le (fun v=>r v==neg) (List.range T)
 simpa using this
theorem filter_len_le {p q:Nat→Bool} (h:∀ v,q v=true→p v=true):∀ l:List Nat,(l.filter q).length≤(l.filter p).length
 | []=>Nat.le_refl _
 | x :: l=>by
  have ih:=filter_len_le h l
  simp only [List.filter_cons]
  cases hq:q x
  ·cases hp:p x <;> simp <;> omega
  ·rw [h x hq]
   simpa using ih
theorem filter_len_lt {p q:Nat→Bool} (h:∀ v,q v=true→p v=true):∀ l:List Nat,(∃ v∈l,q v=false∧p v=true)→(l.filter q).length<(l.filter p).length
 | [],h2=>by obtain ⟨v,hv,_⟩:=h2;cases hv
 | x :: l,h2=>by
  obtain ⟨v,hv,h3,h4⟩:=h2
  have hle:=filter_len_le h l
  simp only [List.filter_cons]
  rcases List.mem_cons.mp hv with rfl | hv
  ·rw [h3,h4]
   simp
   omega
  ·have ih:=filter_len_lt h l ⟨v,hv,h3,h4⟩
   cases hq:q x
   ·cases hp:p x <;> simp <;> omega
   ·rw [h x hq]
    simpa using ih
theorem offR_jr (neg:Bool) (x y:Nat→Bool) (T:Nat) (h:∃ v,v<T∧x v≠jr neg x y v):offR neg (jr neg x y) T<offR neg x T:=by
 obtain ⟨v,hv,hne⟩:=h
 refine filter_len_lt (fun u hu=>?_) _ ⟨v,List.mem_range.mpr hv,?_,?_⟩
 ·revert hu;unfold jr;cases neg <;> cases x u <;> cases y u <;> simp
 ·revert hne;unfold jr;cases neg <;> cases x v <;> cases y v <;> simp
 ·revert hne;unfold jr;cases neg <;> cases x v <;> cases y v <;> simp
def wtR (neg:Bool) (T:Nat) (seen:Bool) (r:Nat→Bool):Nat:=if seen then offR neg r T else T+1
structure FwdIn (e:Nat→Nat→Prop) (f0:Nat) (B:Nat→Prop) (G K:Nat→Nat→Prop) (n T:Nat) (neg:Bool) (seen:Nat→Bool) (out:Nat→Nat→Bool) (W:List Nat):Prop where
 sound:∀ m,m<n→seen m=true→∀ v,v<T→db neg (out m) v→Flo e f0 B G K m v
 beg:seen f0=true∧∀ v,v<T→B v→db neg (out f0) v
 next:∀ k,k<n→seen k=true→k ∉ W→∀ m,e k m→seen m=true∧∀ v,v<T→(G k v∨(db neg (out k) v∧¬ K k v))→db neg (out m) v
 waits:∀ k∈W,k<n∧seen k=true
theorem FwdIn.last {e:Nat→Nat→Prop} {f0:Nat} {B:Nat→Prop} {G K:Nat→Nat→Prop} {n T:Nat} {neg:Bool} {seen:Nat→Bool} {out:Nat→Nat→Bool} (h:FwdIn e f0 B G K n T neg seen out []) (hE:∀ a b,e a b→a<n) (hS:∀ k,k<n→seen k=true) {m v:Nat} (hm:m<n) (hv:v<T):db neg (out m) v↔Flo e f0 B G K m v:=by
 refine ⟨h.sound m hm (hS m hm) v hv,fun hf=>?_⟩
 clear hm
 induction hf with
 | start hb=>exact h.beg.2 _ hv hb
 | gen h1 h2=>exact (h.next _ (hE _ _ h1) (hS _ (hE _ _ h1)) (by simp) _ h1).2 _ hv (.inl h2)
 | keep h1 _ h3 ih=>exact (h.next _ (hE _ _ h1) (hS _ (hE _ _ h1)) (by simp) _ h1).2 _ hv (.inr ⟨ih hv,h3⟩)
theorem FwdIn.all {e:Nat→Nat→Prop} {f0:Nat} {B:Nat→Prop} {G K:Nat→Nat→Prop} {n T:Nat} {neg:Bool} {seen:Nat→Bool} {out:Nat→Nat→Bool} (h:FwdIn e f0 B G K n T neg seen out []) (h0:f0=0) (hL:∀ k,k<n→k≠0→∃ j,j<k∧e j k):∀ k,k<n→seen k=true:=by
 intro k
 induction k using Nat.strongRecOn with
 | ind k ih =>
  intro hk
  by_cases hk0:k=0
  ·subst hk0
   subst h0
   exact h.beg.1
  ·obtain ⟨j,hj,hjk⟩:=hL k hk hk0
   exact (h.next j (by omega) (ih j hj (by omega)) (by simp) k hjk).1
structure FwdAt (e:Nat→Nat→Prop) (f0:Nat) (B:Nat→Prop) (G K:Nat→Nat→Prop) (n T:Nat) (neg:Bool) (seen:Nat→Bool) (out:Nat→Nat→Bool) (W:List Nat) (a:Nat) (x0 y:Nat→Bool) (D:Nat→Prop):Prop where
 sound:∀ m,m<n→seen m=true→∀ v,v<T→db neg (out m) v→Flo e f0 B G K m v
 beg:seen f0=true∧∀ v,v<T→B v→db neg (out f0) v
 behind:∀ v,v<T→(db neg y v↔G a v∨(db neg x0 v∧¬ K a v))
 old:∀ v,v<T→db neg x0 v→Flo e f0 B G K a v
 here:a ∉ W→out a=x0
 next:∀ k,k<n→seen k=true→k ∉ W→∀ m,e k m→(k=a→D m)→seen m=true∧∀ v,v<T→(G k v∨(db neg (out k) v∧¬ K k v))→db neg (out m) v
 waits:∀ k∈W,k<n∧seen k=true
theorem FwdIn.take {e:Nat→Nat→Prop} {f0:Nat} {B:Nat→Prop} {G K:Nat→Nat→Prop} {n T:Nat} {neg:Bool} {seen:Nat→Bool} {out:Nat→Nat→Bool} {W:List Nat} {a:Nat} {y:Nat→Bool} (h:FwdIn e f0 B G K n T neg seen out (a :: W)) (hb:∀ v,v<T→(db neg y v↔G a v∨(db neg (out a) v∧¬ K a v))):FwdAt e f0 B G K n T neg seen out W a (out a) y (fun _=>False):=by
 have ha:=h.waits a (by simp)
 refine ⟨h.sound,h.beg,hb,h.sound a ha.1 ha.2,fun _=>rfl,fun k hk hs hw m hm hD=>?_,fun k hk=>h.waits k (by simp [hk])⟩
 by_cases hka:k=a
 ·exact absurd (hD hka) id
 ·exact h.next k hk hs (by simp [hka,hw]) m hm
theorem FwdAt.done {e:Nat→Nat→Prop} {f0:Nat} {B:Nat→Prop} {G K:Nat→Nat→Prop} {n T:Nat} {neg:Bool} {seen:Nat→Bool} {out:Nat→Nat→Bool} {W:List Nat} {a:Nat} {x0 y:Nat→Bool} {D:Nat→Prop} (h:FwdAt e f0 B G K n T neg seen out W a x0 y D) (hD:∀ m,e a m→D m):FwdIn e f0 B G K n T neg seen out W :=
 ⟨h.sound,h.beg,fun k hk hs hw m hm=>h.next k hk hs hw m hm (fun e'=>hD m (e' ▸ hm)),h.waits⟩
theorem FwdAt.same {e:Nat→Nat→Prop} {f0:Nat} {B:Nat→Prop} {G K:Nat→Nat→Prop} {n T:Nat} {neg:Bool} {seen:Nat→Bool} {out:Nat→Nat→Bool} {W:List Nat} {a b:Nat} {x0 y:Nat→Bool} {D D':Nat→Prop} (h:FwdAt e f0 B G K n T neg seen out W a x0 y D) (hs:seen b=true) (hj:∀ v,v<T→out b v=jr neg (out b) y v) (hD:∀ m,D' m→D m∨m=b):FwdAt e f0 B G K n T neg seen out W a x0 y D' :=
 ⟨h.sound,h.beg,h.behind,h.old,h.here,fun k hk hsk hw m hm hDm=>by
  by_cases hka:k=a
  ·subst hka
   rcases hD m (hDm rfl) with h1 | h1
   ·exact h.next k hk hsk hw m hm (fun _=>h1)
   ·subst h1
    refine ⟨hs,fun v hv hg=>?_⟩
    have h2:db neg (jr neg (out m) y) v:=(db_jr _ _ _ _).mpr (.inr ((h.behind v hv).mpr (by rw [← h.here hw];exact hg)))
    unfold db at h2 ⊢
    rw [hj v hv]
    exact h2
  ·exact h.next k hk hsk hw m hm (fun e'=>absurd e' hka),h.waits⟩
theorem FwdAt.more {e:Nat→Nat→Prop} {f0:Nat} {B:Nat→Prop} {G K:Nat→Nat→Prop} {n T:Nat} {neg:Bool} {seen:Nat→Bool} {out:Nat→Nat→Bool} {W:List Nat} {a b:Nat} {x0 y z:Nat→Bool} {D D':Nat→Prop} (h:FwdAt e f0 B G K n T neg seen out W a x0 y D) (hb:b<n) (hab:e a b)
  (hz:(seen b=true∧∀ v,v<T→z v=jr neg (out b) y v)∨(seen b=false∧∀ v,v<T→z v=y v)) (hD:∀ m,D' m→D m∨m=b):FwdAt e f0 B G K n T neg (setR seen b true) (setR out b z) (W++[b]) a x0 y D':=by
 have hyz:∀ v,v<T→db neg y v→db neg z v:=by
  intro v hv hy
  rcases hz with ⟨_,h1⟩ | ⟨_,h1⟩
  ·have h2:db neg (jr neg (out b) y) v:=(db_jr _ _ _ _).mpr (.inr hy)
   unfold db at h2 ⊢
   rw [h1 v hv];exact h2
  ·unfold db at hy ⊢
   rw [h1 v hv];exact hy
 have hmono:∀ m v,v<T→seen m=true→db neg (out m) v→db neg (setR out b z m) v:=by
  intro m v hv hsm hd
  by_cases hmb:m=b
  ·subst hmb
   rw [setR_at]
   rcases hz with ⟨_,h1⟩ | ⟨h0,_⟩
   ·have h2:db neg (jr neg (out m) y) v:=(db_jr _ _ _ _).mpr (.inl hd)
    unfold db at h2 ⊢
    rw [h1 v hv];exact h2
   ·rw [hsm] at h0;cases h0
  ·rw [setR_ne _ _ _ hmb];exact hd
 have hseen:∀ m,seen m=true→setR seen b true m=true:=by
  intro m hm
  by_cases hmb:m=b
  ·subst hmb;exact setR_at _ _ _
  ·rw [setR_ne _ _ _ hmb];exact hm
 refine ⟨fun m hm hsm v hv hd=>?_,⟨hseen _ h.beg.1,fun v hv hB=>hmono _ v hv h.beg.1 (h.beg.2 v hv hB)⟩,h.behind,h.old,fun hw=>?_,fun k hk hsk hw m hm hDm=>?_,fun k hk=>?_⟩
 ·by_cases hmb:m=b
  ·subst hmb
   rw [setR_at] at hd
   have hin:db neg y v→Flo e f0 B G K m v:=fun h1=>by
    rcases (h.behind v hv).mp h1 with h2 | ⟨h2,h3⟩
    ·exact .gen hab h2
    ·exact .keep hab (h.old v hv h2) h3
   rcases hz with ⟨h0,h1⟩ | ⟨_,h1⟩
   ·have h2:db neg (jr neg (out m) y) v:=by
     unfold db at hd ⊢
     rw [← h1 v hv];exact hd
    rcases (db_jr _ _ _ _).mp h2 with h3 | h3
    ·exact h.sound m hm h0 v hv h3
    ·exact hin h3
   ·refine hin ?_
    unfold db at hd ⊢
    rw [← h1 v hv];exact hd
  ·rw [setR_ne _ _ _ hmb] at hsm hd
   exact h.sound m hm hsm v hv hd
 ·simp only [List.mem_append,List.mem_cons,List.not_mem_nil,or_false,not_or] at hw
  rw [setR_ne _ _ _ hw.2]
  exact h.here hw.1
 ·simp only [List.mem_append,List.mem_cons,List.not_mem_nil,or_false,not_or] at hw
  rw [setR_ne _ _ _ hw.2] at hsk ⊢
  by_cases hka:k=a
  ·subst hka
   rcases hD m (hDm rfl) with h1 | h1
   ·have h2:=h.next k hk hsk hw.1 m hm (fun _=>h1)
    exact ⟨hseen _ h2.1,fun v hv hg=>hmono m v hv h2.1 (h2.2 v hv hg)⟩
   ·subst h1
    refine ⟨setR_at _ _ _,fun v hv hg=>?_⟩
    rw [setR_at]
    exact hyz v hv ((h.behind v hv).mpr (by rw [← h.here hw.1];exact hg))
  ·have h2:=h.next k hk hsk hw.1 m hm (fun e'=>absurd e' hka)
   exact ⟨hseen _ h2.1,fun v hv hg=>hmono m v hv h2.1 (h2.2 v hv hg)⟩
 ·rcases List.mem_append.mp hk with h1 | h1
  ·exact ⟨(h.waits k h1).1,hseen _ (h.waits k h1).2⟩
  ·simp only [List.mem_cons,List.not_mem_nil,or_false] at h1
   subst h1
   exact ⟨hb,setR_at _ _ _⟩
theorem wtR_more {neg:Bool} {T b n:Nat} {seen:Nat→Bool} {out:Nat→Nat→Bool} {y z:Nat→Bool} (hb:b<n)
  (hz:(seen b=true∧(∀ v,v<T→z v=jr neg (out b) y v)∧∃ v,v<T∧out b v≠z v)∨(seen b=false∧∀ v,v<T→z v=y v)) :
  sumTo (fun i=>wtR neg T (setR seen b true i) (setR out b z i)) n<sumTo (fun i=>wtR neg T (seen i) (out i)) n:=by
 refine sumTo_less hb ?_ (fun i hi=>by simp only [setR_ne _ _ _ hi])
 simp only [setR_at]
 unfold wtR
 rcases hz with ⟨h0,h1,v,hv,hne⟩ | ⟨h0,h1⟩
 ·rw [h0]
  simp only [if_true]
  have e1:offR neg z T=offR neg (jr neg (out b) y) T:=by
   unfold offR
   congr 1
   apply List.filter_congr
   intro u hu
   rw [h1 u (List.mem_range.mp hu)]
  rw [e1]
  exact offR_jr neg _ _ T ⟨v,hv,by rw [← h1 v hv];exact hne⟩
 ·rw [h0]
  simp only [if_true,Bool.false_eq_true,if_false]
  have:=offR_le neg z T
  omega
structure PassIn (e:Nat→Nat→Prop) (G K:Nat→Nat→Prop) (n T:Nat) (o:Nat→Nat→Bool):Prop where
 sound:∀ m,m<n→∀ v,v<T→o m v=true→Flo e 0 (fun _=>False) G K m v
structure PassAt (e:Nat→Nat→Prop) (G K:Nat→Nat→Prop) (n T:Nat) (o:Nat→Nat→Bool) (c:Bool) (D:Nat→Nat→Nat→Prop):Prop where
 sound:∀ m,m<n→∀ v,v<T→o m v=true→Flo e 0 (fun _=>False) G K m v
 done:c=false→∀ m k v,v<T→D m k v→e k m→(G k v∨(o k v=true∧¬ K k v))→o m v=true
theorem PassIn.last {e:Nat→Nat→Prop} {G K:Nat→Nat→Prop} {n T:Nat} {o:Nat→Nat→Bool} {D:Nat→Nat→Nat→Prop} (h:PassAt e G K n T o false D) (hD:∀ m k v,e k m→v<T→D m k v) {m v:Nat} (hm:m<n) (hv:v<T):o m v=true↔Flo e 0 (fun _=>False) G K m v:=by
 refine ⟨h.sound m hm v hv,fun hf=>?_⟩
 clear hm
 induction hf with
 | start hb=>exact hb.elim
 | gen h1 h2=>exact h.done rfl _ _ _ hv (hD _ _ _ h1 hv) h1 (.inl h2)
 | keep h1 _ h3 ih=>exact h.done rfl _ _ _ hv (hD _ _ _ h1 hv) h1 (.inr ⟨ih hv,h3⟩)
theorem PassAt.same {e:Nat→Nat→Prop} {G K:Nat→Nat→Prop} {n T:Nat} {o:Nat→Nat→Bool} {c:Bool} {D D':Nat→Nat→Nat→Prop} (h:PassAt e G K n T o c D) {a b u:Nat} (hn:¬ (G b u∨(o b u=true∧¬ K b u))∨o a u=true) (hD:∀ m k v,D' m k v→D m k v∨(m=a∧k=b∧v=u)):PassAt e G K n T o c D' :=
 ⟨h.sound,fun hc m k v hv hDm hE hg=>by
  rcases hD m k v hDm with h1 | ⟨rfl,rfl,rfl⟩
  ·exact h.done hc m k v hv h1 hE hg
  ·rcases hn with hn | hn
   ·exact absurd hg hn
   ·exact hn⟩
theorem PassAt.more {e:Nat→Nat→Prop} {G K:Nat→Nat→Prop} {n T:Nat} {o:Nat→Nat→Bool} {c:Bool} {D D':Nat→Nat→Nat→Prop} (h:PassAt e G K n T o c D) {a b u:Nat} (hb:b<n) (hu:u<T) (hab:e b a) (hg:G b u∨(o b u=true∧¬ K b u)):PassAt e G K n T (setR o a (setR (o a) u true)) true D' :=
 ⟨fun m hm v hv ho=>by
  by_cases hma:m=a
  ·subst hma
   rw [setR_at] at ho
   by_cases hvu:v=u
   ·subst hvu
    rcases hg with h1 | ⟨h1,h2⟩
    ·exact .gen hab h1
    ·exact .keep hab (h.sound b hb v hv h1) h2
   ·rw [setR_ne _ _ _ hvu] at ho
    exact h.sound m hm v hv ho
  ·rw [setR_ne _ _ _ hma] at ho
   exact h.sound m hm v hv ho,fun hc=>by cases hc⟩
theorem PassAt.congr {e:Nat→Nat→Prop} {G K:Nat→Nat→Prop} {n T:Nat} {o:Nat→Nat→Bool} {c:Bool} {D D':Nat→Nat→Nat→Prop} (h:PassAt e G K n T o c D) (hD:∀ m k v,v<T→e k m→D' m k v→D m k v):PassAt e G K n T o c D' :=
 ⟨h.sound,fun hc m k v hv hDm hE hg=>h.done hc m k v hv (hD m k v hv hE hDm) hE hg⟩
def offM (o:Nat→Nat→Bool) (n T:Nat):Nat:=sumTo (fun i=>offR false (o i) T) n
theorem offM_more {o:Nat→Nat→Bool} {n T a u:Nat} (ha:a<n) (hu:u<T) (h:o a u=false):offM (setR o a (setR (o a) u true)) n T<offM o n T:=by
 refine sumTo_less ha ?_ (fun i hi=>by simp only [setR_ne _ _ _ hi])
 simp only [setR_at]
 refine filter_len_lt (fun v hv=>?_) _ ⟨u,List.mem_range.mpr hu,?_,?_⟩
 ·by_cases hvu:v=u
  ·subst hvu
   rw [setR_at] at hv
   simp at hv
  ·rw [setR_ne _ _ _ hvu] at hv
   exact hv
 ·rw [setR_at];rfl
 ·rw [h];rfl
def Typed (ts:List Int) (d:Nd):Prop:=(1≤d.op∧d.op≤8∧simpleB d.op (tyAt ts d.x) (tyAt ts d.y) d.x d.y d.n=true)∨(9≤d.op∧d.op≤11∧d.x=0∧d.y=0)
theorem pts_typed {ts:List Int} (h6:ts.length≤6) (s:Sts):∀ dep,bodyB ts dep s=true→∀ k,∀ d∈s.pts k,Typed ts d:=by
 induction s with
 | nil=>intro _ _ k d hd;cases hd
 | cons op x y n t e r iht ihe ihr =>
  intro dep h k d hd
  rw [bodyB_cons,Bool.and_eq_true] at h
  obtain ⟨h1,h2⟩:=h
  unfold stmtB at h1
  rw [Sts.pts_cons,List.mem_append] at hd
  rcases hd with hd | hd
  ·by_cases hop:op≠9∧op≠10
   ·rw [if_pos hop,Bool.and_eq_true] at h1
    unfold stPts at hd
    rw [if_neg hop.1,if_neg hop.2] at hd
    simp only [List.mem_cons,List.not_mem_nil,or_false] at hd
    subst hd
    have:=ok_simple h6 h1.2
    exact .inl ⟨this.1,by show op≤8;omega,h1.2⟩
   ·rw [if_neg hop,Bool.and_eq_true,Bool.and_eq_true] at h1
    unfold stPts at hd
    by_cases h9:op=9
    ·rw [if_pos h9] at hd
     simp only [List.mem_cons,List.mem_append] at hd
     rcases hd with rfl | hd | rfl | hd
     ·exact .inr ⟨by show (9:Int)≤9;omega,by show (9:Int)≤11;omega,rfl,rfl⟩
     ·exact iht _ h1.2.1 _ d hd
     ·exact .inr ⟨by show (9:Int)≤10;omega,by show (10:Int)≤11;omega,rfl,rfl⟩
     ·exact ihe _ h1.2.2 _ d hd
    ·rw [if_neg h9,if_pos (by omega)] at hd
     simp only [List.mem_cons,List.mem_append,List.not_mem_nil,or_false] at hd
     rcases hd with rfl | hd | rfl
     ·exact .inr ⟨by show (9:Int)≤10;omega,by show (10:Int)≤11;omega,rfl,rfl⟩
     ·exact iht _ h1.2.1 _ d hd
     ·exact .inr ⟨by show (9:Int)≤10;omega,by show (10:Int)≤11;omega,rfl,rfl⟩
  ·exact ihr _ h2 _ d hd
theorem progPts_typed {ts:List Int} {s:Sts} (h:validB ts s=true) {k:Nat} {d:Nd} (hd:(progPts s)[k]?=some d):Typed ts d:=by
 simp only [validB,Bool.and_eq_true,decide_eq_true_eq] at h
 have h6:ts.length≤6:=by
  have:=h.1
  simp only [typesB,Bool.and_eq_true,decide_eq_true_eq] at this
  exact this.2
 have hm:=List.mem_of_getElem? hd
 unfold progPts at hm
 rw [List.mem_append] at hm
 rcases hm with hm | hm
 ·exact pts_typed h6 s 4 h.2.1 0 d hm
 ·simp only [List.mem_cons,List.not_mem_nil,or_false] at hm
  subst hm
  exact .inr ⟨by show (9:Int)≤11;omega,by show (11:Int)≤11;omega,rfl,rfl⟩
structure Ef where
 r:Nat
 t:Nat
 c:Nat
 s:Nat
def effD (ts:List Int) (d:Nd):Ef :=
 if d.op=1∨d.op=2 then ⟨0,0,0,2 ^ d.x.toNat⟩
 else if d.op=3 then (if tyAt ts d.y=2∨tyAt ts d.y=4 then ⟨0,2 ^ d.y.toNat,0,2 ^ d.x.toNat⟩ else ⟨2 ^ d.y.toNat,0,0,2 ^ d.x.toNat⟩)
 else if d.op=4∨d.op=5∨d.op=6 then ⟨0,0,2 ^ d.y.toNat,2 ^ d.x.toNat⟩
 else if d.op=7 then ⟨2 ^ d.y.toNat,0,2 ^ d.x.toNat,0⟩
 else if d.op=8 then ⟨0,2 ^ d.x.toNat,0,0⟩
 else ⟨0,0,0,0⟩
def useI (ts:List Int) (d:Nd) (v:Int):Int :=
 if d.op=3 then (if v=d.y then (if tyAt ts v=2∨tyAt ts v=4 then 2 else 1) else 0)
 else if d.op=4∨d.op=5∨d.op=6 then (if v=d.y then 3 else 0)
 else if d.op=7 then (if v=d.x then 3 else if v=d.y then 1 else 0)
 else if d.op=8 then (if v=d.x then 2 else 0)
 else 0
def setI (d:Nd):Int:=if 1≤d.op∧d.op≤6 then d.x else -1
structure EfOk (ts:List Int) (d:Nd) (e:Ef):Prop where
 rlt:e.r<64
 tlt:e.t<64
 clt:e.c<64
 slt:e.s<64
 reads:∀ v:Nat,v<64→(e.r.testBit v=true↔useI ts d v=1)
 takes:∀ v:Nat,v<64→(e.t.testBit v=true↔useI ts d v=2)
 reach:∀ v:Nat,v<64→(e.c.testBit v=true↔useI ts d v=3)
 sets:∀ v:Nat,v<64→(e.s.testBit v=true↔setI d=v)
 xy:0≤d.x∧d.x≤5∧0≤d.y∧d.y≤5
 setT:∀ v:Int,0≤v→setI d=v→v<ts.length
 useT:∀ v:Int,useI ts d v≠0→0≤v∧v<ts.length
theorem bit_one (a:Int) (ha:0≤a) (v:Nat):(2 ^ a.toNat).testBit v=true↔(v:Int)=a:=by
 rw [Nat.testBit_two_pow]
 simp only [decide_eq_true_eq]
 omega
theorem bit_one_lt (a:Int) (ha:0≤a) (h5:a≤5):2 ^ a.toNat<64:=by
 have h:a.toNat<6:=by omega
 exact Nat.pow_lt_pow_right (by decide) h (n:=6)
theorem tyAt_lt {ts:List Int} {v:Int} (h:tyAt ts v≠0):0≤v∧v<ts.length:=by
 unfold tyAt at h
 by_cases hv:v<0∨(ts.length:Int)≤v
 ·rw [if_pos hv] at h;exact absurd rfl h
 ·omega
theorem simple_types {op tx ty x y n:Int} (h:simpleB op tx ty x y n=true):(1≤op∧op≤8→tx≠0)∧(3≤op∧op≤7→ty≠0):=by
 unfold simpleB at h
 by_cases e1:op=1
 ·rw [if_pos e1] at h;simp only [decide_eq_true_eq] at h;omega
 by_cases e2:op=2
 ·rw [if_neg e1,if_pos e2] at h;simp only [decide_eq_true_eq] at h;omega
 by_cases hn:n≠0
 ·rw [if_neg e1,if_neg e2,if_pos hn] at h;cases h
 by_cases e3:op=3
 ·rw [if_neg e1,if_neg e2,if_neg hn,if_pos e3] at h;simp only [decide_eq_true_eq] at h;omega
 by_cases e4:op=4
 ·rw [if_neg e1,if_neg e2,if_neg hn,if_neg e3,if_pos e4] at h;simp only [decide_eq_true_eq] at h;omega
 by_cases e5:op=5
 ·rw [if_neg e1,if_neg e2,if_neg hn,if_neg e3,if_neg e4,if_pos e5] at h;simp only [decide_eq_true_eq] at h;omega
 by_cases e6:op=6
 ·rw [if_neg e1,if_neg e2,if_neg hn,if_neg e3,if_neg e4,if_neg e5,if_pos e6] at h;simp only [decide_eq_true_eq] at h;omega
 by_cases e7:op=7
 ·rw [if_neg e1,if_neg e2,if_neg hn,if_neg e3,if_neg e4,if_neg e5,if_neg e6,if_pos e7] at h;simp only [decide_eq_true_eq] at h;omega
 by_cases e8:op=8
 ·rw [if_neg e1,if_neg e2,if_neg hn,if_neg e3,if_neg e4,if_neg e5,if_neg e6,if_neg e7,if_pos e8] at h;simp only [decide_eq_true_eq] at h;omega
 rw [if_neg e1,if_neg e2,if_neg hn,if_neg e3,if_neg e4,if_neg e5,if_neg e6,if_neg e7,if_neg e8] at h
 cases h
theorem typed_set {ts:List Int} {d:Nd} (h:Typed ts d) (v:Int) (hv:0≤v) (hs:setI d=v):v<ts.length:=by
 unfold setI at hs
 split at hs
 ·rename_i hop
  rcases h with ⟨h1,h8,hb⟩ | ⟨h9,_⟩
  ·subst hs
   exact (tyAt_lt ((simple_types hb).1 ⟨h1,h8⟩)).2
  ·omega
 ·omega
theorem typed_use {ts:List Int} {d:Nd} (h:Typed ts d) (v:Int) (hu:useI ts d v≠0):0≤v∧v<ts.length:=by
 rcases h with ⟨h1,h8,hb⟩ | ⟨h9,h11,_⟩
 ·have hx:=(simple_types hb).1 ⟨h1,h8⟩
  have hy:=(simple_types hb).2
  unfold useI at hu
  by_cases e3:d.op=3
  ·rw [if_pos e3] at hu
   by_cases e:v=d.y
   ·subst e;exact tyAt_lt (hy (by omega))
   ·rw [if_neg e] at hu;exact absurd rfl hu
  rw [if_neg e3] at hu
  by_cases e4:d.op=4∨d.op=5∨d.op=6
  ·rw [if_pos e4] at hu
   by_cases e:v=d.y
   ·subst e;exact tyAt_lt (hy (by omega))
   ·rw [if_neg e] at hu;exact absurd rfl hu
  rw [if_neg e4] at hu
  by_cases e7:d.op=7
  ·rw [if_pos e7] at hu
   by_cases e:v=d.x
   ·subst e;exact tyAt_lt hx
   ·rw [if_neg e] at hu
    by_cases e:v=d.y
    ·subst e;exact tyAt_lt (hy (by omega))
    ·rw [if_neg e] at hu;exact absurd rfl hu
  rw [if_neg e7] at hu
  by_cases e8:d.op=8
  ·rw [if_pos e8] at hu
   by_cases e:v=d.x
   ·subst e;exact tyAt_lt hx
   ·rw [if_neg e] at hu;exact absurd rfl hu
  rw [if_neg e8] at hu
  exact absurd rfl hu
 ·exfalso
  apply hu
  unfold useI
  rw [if_neg (by omega),if_neg (by omega),if_neg (by omega),if_neg (by omega)]
theorem effD_ok {ts:List Int} (h6:ts.length≤6) {d:Nd} (h:Typed ts d):EfOk ts d (effD ts d):=by
 have hS:=typed_set h
 have hU:=typed_use h
 rcases h with ⟨h1,h8,hs⟩ | ⟨h9,h11,hx,hy⟩
 ·have ho:=ok_simple h6 hs
  obtain ⟨x0,x5,y0,y5,_⟩:=ho.2.2 h8
  have bx:=bit_one d.x x0
  have by':=bit_one d.y y0
  have lx:=bit_one_lt d.x x0 x5
  have ly:=bit_one_lt d.y y0 y5
  have hop:d.op=1∨d.op=2∨d.op=3∨d.op=4∨d.op=5∨d.op=6∨d.op=7∨d.op=8:=by omega
  have hxy:d.op=7→d.x≠d.y:=by
   intro h7 he
   rw [h7] at hs
   unfold simpleB at hs
   rw [if_neg (by decide),if_neg (by decide)] at hs
   by_cases hn:d.n≠0
   ·rw [if_pos hn] at hs;cases hs
   ·rw [if_neg hn,if_neg (by decide),if_neg (by decide),if_neg (by decide),if_neg (by decide),if_pos rfl] at hs
    simp only [decide_eq_true_eq] at hs
    rw [he] at hs
    omega
  clear hs ho
  have hty:∀ v:Nat,(v:Int)=d.y→tyAt ts v=tyAt ts d.y:=fun v e=>by rw [e]
  rcases hop with e | e | e | e | e | e | e | e
  ·refine ⟨?_,?_,?_,?_,fun v hv=>?_,fun v hv=>?_,fun v hv=>?_,fun v hv=>?_,⟨x0,x5,y0,y5⟩,hS,hU⟩ <;> simp [effD,useI,setI,e,lx,bx] <;> omega
  ·refine ⟨?_,?_,?_,?_,fun v hv=>?_,fun v hv=>?_,fun v hv=>?_,fun v hv=>?_,⟨x0,x5,y0,y5⟩,hS,hU⟩ <;> simp [effD,useI,setI,e,lx,bx] <;> omega
  ·by_cases ht:tyAt ts d.y=2∨tyAt ts d.y=4
   ·refine ⟨?_,?_,?_,?_,fun v hv=>?_,fun v hv=>?_,fun v hv=>?_,fun v hv=>?_,⟨x0,x5,y0,y5⟩,hS,hU⟩
    ·simp [effD,e,ht]
    ·simp [effD,e,ht,ly]
    ·simp [effD,e,ht]
    ·simp [effD,e,ht,lx]
    ·by_cases hvy:(v:Int)=d.y
     ·simp [effD,useI,e,hvy,ht]
     ·simp [effD,useI,e,hvy,ht]
    ·by_cases hvy:(v:Int)=d.y
     ·simp [effD,useI,e,hvy,ht,by']
     ·simp [effD,useI,e,hvy,ht,by']
    ·by_cases hvy:(v:Int)=d.y
     ·simp [effD,useI,e,hvy,ht]
     ·simp [effD,useI,e,hvy,ht]
    ·simp [effD,setI,e,ht,bx];omega
   ·refine ⟨?_,?_,?_,?_,fun v hv=>?_,fun v hv=>?_,fun v hv=>?_,fun v hv=>?_,⟨x0,x5,y0,y5⟩,hS,hU⟩
    ·simp [effD,e,ht,ly]
    ·simp [effD,e,ht]
    ·simp [effD,e,ht]
    ·simp [effD,e,ht,lx]
    ·by_cases hvy:(v:Int)=d.y
     ·simp [effD,useI,e,hvy,ht,by']
     ·simp [effD,useI,e,hvy,ht,by']
    ·by_cases hvy:(v:Int)=d.y
     ·simp [effD,useI,e,hvy,ht]
     ·simp [effD,useI,e,hvy,ht]
    ·by_cases hvy:(v:Int)=d.y
     ·simp [effD,useI,e,hvy,ht]
     ·simp [effD,useI,e,hvy,ht]
    ·simp [effD,setI,e,ht,bx];omega
  ·refine ⟨?_,?_,?_,?_,fun v hv=>?_,fun v hv=>?_,fun v hv=>?_,fun v hv=>?_,⟨x0,x5,y0,y5⟩,hS,hU⟩ <;> simp [effD,useI,setI,e,lx,ly,bx,by'] <;> (repeat' split) <;> (try simp) <;> omega
  ·refine ⟨?_,?_,?_,?_,fun v hv=>?_,fun v hv=>?_,fun v hv=>?_,fun v hv=>?_,⟨x0,x5,y0,y5⟩,hS,hU⟩ <;> simp [effD,useI,setI,e,lx,ly,bx,by'] <;> (repeat' split) <;> (try simp) <;> omega
  ·refine ⟨?_,?_,?_,?_,fun v hv=>?_,fun v hv=>?_,fun v hv=>?_,fun v hv=>?_,⟨x0,x5,y0,y5⟩,hS,hU⟩ <;> simp [effD,useI,setI,e,lx,ly,bx,by'] <;> (repeat' split) <;> (try simp) <;> omega
  ·have hxy:=hxy e
   refine ⟨?_,?_,?_,?_,fun v hv=>?_,fun v hv=>?_,fun v hv=>?_,fun v hv=>?_,⟨x0,x5,y0,y5⟩,hS,hU⟩ <;> simp [effD,useI,setI,e,lx,ly,bx,by'] <;> (repeat' split) <;> (try simp) <;> omega
  ·refine ⟨?_,?_,?_,?_,fun v hv=>?_,fun v hv=>?_,fun v hv=>?_,fun v hv=>?_,⟨x0,x5,y0,y5⟩,hS,hU⟩ <;> simp [effD,useI,setI,e,lx,bx] <;> (repeat' split) <;> (try simp) <;> omega
 ·have e1:effD ts d=⟨0,0,0,0⟩:=by
   unfold effD
   rw [if_neg (by omega),if_neg (by omega),if_neg (by omega),if_neg (by omega),if_neg (by omega)]
  have e2:∀ v,useI ts d v=0:=by
   intro v
   unfold useI
   rw [if_neg (by omega),if_neg (by omega),if_neg (by omega),if_neg (by omega)]
  have e3:setI d=-1:=by unfold setI;rw [if_neg (by omega)]
  rw [e1]
  refine ⟨by decide,by decide,by decide,by decide,fun v hv=>?_,fun v hv=>?_,fun v hv=>?_,fun v hv=>?_,by omega,hS,hU⟩
  ·rw [e2];simp
  ·rw [e2];simp
  ·rw [e2];simp
  ·rw [e3];simp
theorem useI_range (ts:List Int) (d:Nd) (v:Int):useI ts d v=0∨useI ts d v=1∨useI ts d v=2∨useI ts d v=3:=by
 unfold useI
 repeat' split
 all_goals simp
theorem EfOk.uses {ts:List Int} {d:Nd} {e:Ef} (h:EfOk ts d e) (v:Nat) (hv:v<64):(e.r|||e.t|||e.c).testBit v=true↔useI ts d v≠0:=by
 rw [Nat.testBit_or,Nat.testBit_or,Bool.or_eq_true,Bool.or_eq_true,h.reads v hv,h.takes v hv,h.reach v hv]
 have:=useI_range ts d v
 omega
def Prevs (k:Nat) (ds:List Nd):Prop:=∀ j,0<j→j≤ds.length→∃ i d,i<j∧ds[i]?=some d∧((k+j:Nat):Int)∈d.next
theorem Prevs.stPts (op x y n:Int) (k:Nat) (T E:List Nd) (hT:Prevs (k+1) T) (hE:Prevs (k+2+T.length) E):Prevs k (stPts op x y n k T.length E.length T E):=by
 intro j h0 hj
 unfold Proofs.YtedkkphogeealaaGreatDoor.stPts at hj ⊢
 by_cases h9:op=9
 ·rw [if_pos h9] at hj ⊢
  simp only [List.length_cons,List.length_append] at hj
  by_cases h1:j=1
  ·subst h1
   exact ⟨0,_,by omega,by simp;rfl,by simp⟩
  ·by_cases h2:j≤T.length+1
   ·obtain ⟨i,d,hi,hd,hm⟩:=hT (j-1) (by omega) (by omega)
    refine ⟨i+1,d,by omega,?_,?_⟩
    ·rw [List.getElem?_cons_succ,List.getElem?_append_left (List.getElem?_eq_some_iff.mp hd).1]
     exact hd
    ·rw [show k+j=k+1+(j-1) from by omega]
     exact hm
   ·by_cases h3:j=T.length+2
    ·subst h3
     exact ⟨0,_,by omega,by simp;rfl,by simp;right;omega⟩
    ·obtain ⟨i,d,hi,hd,hm⟩:=hE (j-(T.length+2)) (by omega) (by omega)
     refine ⟨i+T.length+2,d,by omega,?_,?_⟩
     ·rw [List.getElem?_cons_succ,List.getElem?_append_right (by omega),show i+T.length+1-T.length=i+1 from by omega,List.getElem?_cons_succ]
      exact hd
     ·rw [show k+j=k+2+T.length+(j-(T.length+2)) from by omega]
      exact hm
 ·rw [if_neg h9] at hj ⊢
  by_cases h10:op=10
  ·rw [if_pos h10] at hj ⊢
   simp only [List.length_cons,List.length_append,List.length_nil] at hj
   by_cases h1:j=1
   ·subst h1
    exact ⟨0,_,by omega,by simp;rfl,by simp⟩
   ·by_cases h2:j≤T.length+1
    ·obtain ⟨i,d,hi,hd,hm⟩:=hT (j-1) (by omega) (by omega)
     refine ⟨i+1,d,by omega,?_,?_⟩
     ·rw [List.getElem?_cons_succ,List.getElem?_append_left (List.getElem?_eq_some_iff.mp hd).1]
      exact hd
     ·rw [show k+j=k+1+(j-1) from by omega]
      exact hm
    ·have h3:j=T.length+2:=by omega
     subst h3
     exact ⟨0,_,by omega,by simp;rfl,by simp;right;omega⟩
  ·rw [if_neg h10] at hj ⊢
   simp only [List.length_cons,List.length_nil] at hj
   have h1:j=1:=by omega
   subst h1
   exact ⟨0,_,by omega,by simp;rfl,by simp⟩
theorem Prevs.append {k:Nat} {A B:List Nd} (hA:Prevs k A) (hB:Prevs (k+A.length) B):Prevs k (A++B):=by
 intro j h0 hj
 rw [List.length_append] at hj
 by_cases h1:j≤A.length
 ·obtain ⟨i,d,hi,hd,hm⟩:=hA j h0 h1
  exact ⟨i,d,hi,by rw [List.getElem?_append_left (List.getElem?_eq_some_iff.mp hd).1];exact hd,hm⟩
 ·obtain ⟨i,d,hi,hd,hm⟩:=hB (j-A.length) (by omega) (by omega)
  refine ⟨i+A.length,d,by omega,?_,?_⟩
  ·rw [List.getElem?_append_right (by omega),Nat.add_sub_cancel]
   exact hd
  ·rw [show k+j=k+A.length+(j-A.length) from by omega]
   exact hm
theorem Sts.pts_prevs (s:Sts):∀ k,Prevs k (s.pts k):=by
 induction s with
 | nil=>intro k j h0 hj;simp [Sts.pts] at hj;omega
 | cons op x y n t e r iht ihe ihr =>
  intro k
  rw [Sts.pts_cons]
  have hl:=stPts_len op x y n k t.npts e.npts (t.pts (k+1)) (e.pts (k+2+t.npts)) (t.pts_len _) (e.pts_len _)
  refine Prevs.append ?_ ?_
  ·have h:=Prevs.stPts op x y n k (t.pts (k+1)) (e.pts (k+2+t.npts)) (iht _) (by rw [t.pts_len];exact ihe _)
   rw [t.pts_len,e.pts_len] at h
   exact h
  ·rw [hl]
   exact ihr _
theorem progPts_prev (s:Sts):∀ k,k<(progPts s).length→k≠0→∃ j d,j<k∧(progPts s)[j]?=some d∧(k:Int)∈d.next:=by
 intro k hk h0
 rw [progPts_len] at hk
 obtain ⟨i,d,hi,hd,hm⟩:=s.pts_prevs 0 k (by omega) (by rw [s.pts_len];omega)
 refine ⟨i,d,hi,?_,by rw [Nat.zero_add] at hm;exact hm⟩
 unfold progPts
 rw [List.getElem?_append_left (List.getElem?_eq_some_iff.mp hd).1]
 exact hd
def IsPathsB (R:Nat→Prop) (l:List Int):Prop:=∃ p:Nat→Bool,l=((List.range 64).filter p).map (fun (k:Nat)=>(k:Int))∧∀ x,(x<64∧p x=true)↔R x
def firstN (p:Nat→Bool) (n:Nat):List Int:=((List.range n).filter p).map fun (k:Nat)=>(k:Int)
theorem valid_ok {ts:List Int} {s:Sts} (h:validB ts s=true):typesB ts=true∧okT s∧s.size≤30:=by
 simp only [validB,Bool.and_eq_true,decide_eq_true_eq] at h
 have h6:ts.length≤6:=by
  have:=h.1
  simp only [typesB,Bool.and_eq_true,decide_eq_true_eq] at this
  exact this.2
 exact ⟨h.1,okT_of_body h6 s 4 h.2.1,h.2.2⟩
end Go.Proofs.YtedkkphogeealaaGreatDoor
