/- Rows of numbers that a call owns. -/
import Derived.Test.YtedkkphogeealaaGreatDoorPCopy0
import Derived.Deep.Upon
import Derived.Shelf.Spec.TrailingZeros
import Derived.Deep.RegionWith
import Derived.Test.YtedkkphogeealaaGreatDoorPBase
namespace Go.Proofs.YtedkkphogeealaaGreatDoor
open Go.RowKit Go.Deep
set_option linter.unusedVariables false
set_option maxHeartbeats 1000000
def RowI (w:World) (B:Nat) (v:Value) (xs:List Int):Prop:=w.ownsRow B 3 1 v xs.length (xs.map (Value.int .i64))
theorem RowI.below {w w':World} {B:Nat} {v:Value} {xs:List Int} (h:RowI w B v xs) (hb:Below w.heap.size w w'):RowI w' B v xs :=
 h.kept (row:=none) ⟨hb.os,hb.tape,hb.output,hb.size,fun k hk _=>hb.block k hk⟩ (by cases hv:v.ownBlock <;> simp)
theorem RowI.own {w:World} {B:Nat} {v:Value} {xs:List Int} (h:RowI w B v xs):w.ownsRow B 3 1 v xs.length (xs.map (Value.int .i64)):=h
theorem RowI.snoc {w:World} {B:Nat} {v:Value} {xs:List Int} {x:Int} (h:w.ownsRow B 3 1 v (xs.length+1) (xs.map (Value.int .i64)++[.int .i64 x])):RowI w B v (xs++[x]):=by
 unfold RowI
 rw [List.length_append,List.map_append]
 exact h
theorem RowI.slice {w:World} {B:Nat} {v:Value} {xs:List Int} (h:RowI w B v xs):∃ A c,v=.slice A xs.length c:=by
 rcases h.2 with ⟨hv,h0⟩ | ⟨g,cap,cur,hv,_⟩
 ·exact ⟨none,0,by rw [hv,h0]⟩
 ·exact ⟨_,_,hv⟩
theorem RowI.mono {w:World} {B B':Nat} {v:Value} {xs:List Int} (h:RowI w B v xs) (hb:B'≤B):RowI w B' v xs:=by
 refine ⟨h.1,?_⟩
 rcases h.2 with h | ⟨g,cap,cur,h1,h2,h3⟩
 ·exact .inl h
 ·exact .inr ⟨g,cap,cur,h1,Nat.le_trans hb h2,h3⟩
theorem news1 {w:World} {H:Nat} {cs:Array Value} {t:TypeId} {l:List Value} (hH:w.heap.size=H) (hl:l.toArray=cs):∀ j u,l[j]?=some u→(w.alloc (.cells cs t)).cell? ((⟨H,0,none⟩:Addr).add j)=some u:=by
 subst hH hl
 intro j u hj
 rw [add_block,Nat.zero_add,cB (heap_alloc_new _ _)]
 simpa using hj
theorem grown_refl (w:World) (r:Option Nat):w.grownBy w r:=⟨rfl,rfl,rfl,Nat.le_refl _,fun _ _ _=>rfl⟩
theorem bits_or_u64_nat (a b:Nat) (ha:a<18446744073709551616) (hb:b<18446744073709551616):bits .or .u64 (a:Int) (b:Int)=((a|||b:Nat):Int):=by
 have hx:a|||b<2 ^ 64:=Nat.or_lt_two_pow (by omega) (by omega)
 have h1:(BitVec.ofInt 64 (a:Int)).toNat=a:=by
  rw [BitVec.ofInt_natCast,BitVec.toNat_ofNat];exact Nat.mod_eq_of_lt (by omega)
 have h2:(BitVec.ofInt 64 (b:Int)).toNat=b:=by
  rw [BitVec.ofInt_natCast,BitVec.toNat_ofNat];exact Nat.mod_eq_of_lt (by omega)
 show IntKind.u64.wrap ((BitVec.ofInt 64 (a:Int)|||BitVec.ofInt 64 (b:Int)).toNat:Int)=_
 rw [BitVec.toNat_or,h1,h2,IntKind.wrap_u64]
 omega
theorem with_any (x i:Nat) (hx:x<18446744073709551616) (hi:i<64) (w:World) :
  Calls Tryz.prog 114 #[.int .u64 x,.int .i64 i] w fun E w'=>E=.returned (.int .u64 ((x|||2 ^ i:Nat):Int))∧Below w.heap.size w w':=by
 have hp:2 ^ i<18446744073709551616:=Nat.pow_lt_pow_right (by decide) hi (n:=64)
 have hor:=bits_or_u64_nat x (2 ^ i) hx hp
 go_enter Tryz.func114,Tryz.ntmps114
 have hw:IntKind.u64.wrap ((2:Int) ^ i)=((2 ^ i:Nat):Int):=by
  have e:((2 ^ i:Nat):Int)=(2:Int) ^ i:=by simp
  rw [IntKind.wrap_u64,← e]
  generalize 2 ^ i=d at hp
  omega
 have hor2:bits BinOp.or IntKind.u64 (x:Int) ((2:Int) ^ i)=((x|||2 ^ i:Nat):Int):=by
  rw [← hor]
  simp
 go_wp2_with fail
 try first | rw [hor] | rw [hor2]
 go_ret
 exact ⟨rfl,by first | exact Below.refl _ _ | exact (Below.refl _ _).drew⟩
def SetsAt (w:World) (C:Nat) (sets:Nat→Nat):Prop:=∀ k,k<61→w.cell? ⟨C,k,none⟩=some (.int .u64 (sets k:Int))
theorem bits_andNot_u64 (a b:Nat) (ha:a<18446744073709551616) (hb:b<18446744073709551616):∃ z:Nat,bits .andNot .u64 (a:Int) (b:Int)=(z:Int)∧z<18446744073709551616∧∀ k,k<64→z.testBit k=(a.testBit k && !b.testBit k):=by
 have h1:(BitVec.ofInt 64 (a:Int)).toNat=a:=by
  rw [BitVec.ofInt_natCast,BitVec.toNat_ofNat];exact Nat.mod_eq_of_lt (by omega)
 have h2:(BitVec.ofInt 64 (b:Int)).toNat=b:=by
  rw [BitVec.ofInt_natCast,BitVec.toNat_ofNat];exact Nat.mod_eq_of_lt (by omega)
 refine ⟨(BitVec.ofInt 64 (a:Int)&&&~~~ BitVec.ofInt 64 (b:Int)).toNat,?_,(BitVec.ofInt 64 (a:Int)&&&~~~ BitVec.ofInt 64 (b:Int)).isLt,fun k hk=>?_⟩
 ·show IntKind.u64.wrap ((BitVec.ofInt 64 (a:Int)&&&~~~ BitVec.ofInt 64 (b:Int)).toNat:Int)=_
  have:=(BitVec.ofInt 64 (a:Int)&&&~~~ BitVec.ofInt 64 (b:Int)).isLt
  rw [IntKind.wrap_u64]
  omega
 ·rw [BitVec.testBit_toNat,BitVec.getLsbD_and,BitVec.getLsbD_not,← BitVec.testBit_toNat,← BitVec.testBit_toNat,h1,h2]
  simp [hk]
def lenW:Value→Nat
 | .slice _ n _=>n
 | _=>0
def intsW (W:List Nat):List Int:=W.map fun (k:Nat)=>(k:Int)
def nextN (ns:List Nd) (a:Nat):List Nat:=(nextP ns a).map Int.toNat
def clip (f:Nat→Nat):Nat→Nat:=fun k=>if k<61 then f k else 0
theorem mem_nextN {q:Nat} {ns:List Nd} (hD:PtsOk q ns) (hle:ns.length≤61) (a b:Nat):b∈nextN ns a↔Edge ns ns.length 0 a b:=by
 unfold nextN
 rw [List.mem_map]
 constructor
 ·rintro ⟨v,hv,rfl⟩
  by_cases haq:a<q
  ·obtain ⟨d,h1,h2⟩:=hD.2.2 a haq
   rw [nextP_some h1] at hv
   have h0:=h2.le v hv
   obtain ⟨i,hi,hiv⟩:=List.mem_iff_getElem.mp hv
   refine ⟨d,i,h1,?_,.inl (by have:=hD.1;omega)⟩
   rw [List.getElem?_eq_getElem hi,hiv]
   congr 1
   omega
  ·by_cases hq:a=q
   ·subst hq
    rw [nextP_some hD.2.1] at hv
    cases hv
   ·have:ns[a]?=none:=List.getElem?_eq_none (by have:=hD.1;omega)
    simp [nextP,this] at hv
 ·rintro ⟨d,i,h1,h2,_⟩
  refine ⟨(b:Int),?_,by simp⟩
  rw [nextP_some h1]
  exact List.mem_of_getElem? h2
theorem Edge.lt {q:Nat} {ns:List Nd} (hD:PtsOk q ns) (hle:ns.length≤61) {a b:Nat} (h:Edge ns ns.length 0 a b):a<61∧b<61:=by
 obtain ⟨d,i,h1,h2,_⟩:=h
 have ha:=(List.getElem?_eq_some_iff.mp h1).1
 refine ⟨by omega,?_⟩
 have hq:=hD.1
 by_cases haq:a<q
 ·obtain ⟨d',h3,h4⟩:=hD.2.2 a haq
  rw [h1] at h3
  cases h3
  have:=h4.le _ (List.mem_of_getElem? h2)
  omega
 ·have:a=q:=by omega
  subst this
  rw [hD.2.1] at h1
  cases h1
  simp at h2
theorem nextN_ints {q:Nat} {ns:List Nd} (hD:PtsOk q ns) {k:Nat} {d:Nd} (hd:ns[k]?=some d):intsW (nextN ns k)=d.next∧∀ x∈nextN ns k,x<ns.length:=by
 have h0:∀ v∈d.next,0≤v∧v≤q:=by
  have hk:=(List.getElem?_eq_some_iff.mp hd).1
  have hq:=hD.1
  by_cases hkq:k<q
  ·obtain ⟨d',h1,h2⟩:=hD.2.2 k hkq
   rw [hd] at h1
   cases h1
   exact h2.le
  ·have:k=q:=by omega
   subst this
   rw [hD.2.1] at hd
   cases hd
   intro v hv
   cases hv
 unfold nextN
 rw [nextP_some hd]
 constructor
 ·unfold intsW
  rw [List.map_map]
  conv=>rhs;rw [← List.map_id d.next]
  apply List.map_congr_left
  intro v hv
  have:=h0 v hv
  simp
  omega
 ·intro x hx
  obtain ⟨v,hv,rfl⟩:=List.mem_map.mp hx
  have:=h0 v hv
  have:=hD.1
  omega
theorem nextN_two {q:Nat} {ns:List Nd} (hD:PtsOk q ns) {k:Nat} {d:Nd} (hd:ns[k]?=some d):d.next.length≤2:=by
 have hk:=(List.getElem?_eq_some_iff.mp hd).1
 have hq:=hD.1
 by_cases hkq:k<q
 ·obtain ⟨d',h1,h2⟩:=hD.2.2 k hkq
  rw [hd] at h1
  cases h1
  exact h2.two
 ·have:k=q:=by omega
  subst this
  rw [hD.2.1] at hd
  cases hd
  simp
def eN (ns:List Nd) (a b:Nat):Prop:=b∈nextN ns a
def setsN (ns:List Nd) (k v:Nat):Prop:=∃ d,ns[k]?=some d∧setI d=(v:Int)
def usesN (ts:List Int) (ns:List Nd) (k v:Nat) (j:Int):Prop:=∃ d,ns[k]?=some d∧useI ts d v=j
def MayB (ts:List Int) (ns:List Nd):Nat→Nat→Prop:=Flo (eN ns) 0 (fun _=>False) (fun k v=>setsN ns k v) (fun k v=>usesN ts ns k v 2)
def MissB (ts:List Int) (ns:List Nd):Nat→Nat→Prop:=Flo (eN ns) 0 (fun (_:Nat)=>True) (fun k v=>usesN ts ns k v 2∧¬ setsN ns k v) (fun k v=>setsN ns k v)
def LiveB (ts:List Int) (ns:List Nd):Nat→Nat→Prop:=Flo (fun a b=>eN ns b a) 0 (fun _=>False) (fun (k v:Nat)=>∃ d,ns[k]?=some d∧useI ts d v≠0) (fun k v=>setsN ns k v)
def AllTyped (ts:List Int) (ns:List Nd):Prop:=ts.length≤6∧∀ (k:Nat) (d:Nd),ns[k]?=some d→Typed ts d
theorem progPts_allTyped {ts:List Int} {s:Sts} (h:validB ts s=true):AllTyped ts (progPts s):=by
 refine ⟨?_,fun k d hd=>progPts_typed h hd⟩
 simp only [validB,Bool.and_eq_true,decide_eq_true_eq] at h
 have:=h.1
 simp only [typesB,Bool.and_eq_true,decide_eq_true_eq] at this
 exact this.2
theorem setsN_at {ns:List Nd} {k:Nat} {d:Nd} (hd:ns[k]?=some d) (v:Nat):setsN ns k v↔setI d=(v:Int):=by
 constructor
 ·rintro ⟨d',h1,h2⟩
  rw [hd] at h1
  cases h1
  exact h2
 ·exact fun h=>⟨d,hd,h⟩
theorem usesN_at {ts:List Int} {ns:List Nd} {k:Nat} {d:Nd} (hd:ns[k]?=some d) (v:Nat) (j:Int):usesN ts ns k v j↔useI ts d v=j:=by
 constructor
 ·rintro ⟨d',h1,h2⟩
  rw [hd] at h1
  cases h1
  exact h2
 ·exact fun h=>⟨d,hd,h⟩
theorem useN_at {ts:List Int} {ns:List Nd} {k:Nat} {d:Nd} (hd:ns[k]?=some d) (v:Nat):(∃ d,ns[k]?=some d∧useI ts d v≠0)↔useI ts d v≠0:=by
 constructor
 ·rintro ⟨d',h1,h2⟩
  rw [hd] at h1
  cases h1
  exact h2
 ·exact fun h=>⟨d,hd,h⟩
theorem MayB.lt {ts:List Int} {ns:List Nd} (hA:AllTyped ts ns) {m v:Nat} (h:MayB ts ns m v):v<ts.length:=by
 induction h with
 | start h=>exact h.elim
 | gen _ h =>
  obtain ⟨d,hd,hs⟩:=h
  have:=typed_set (hA.2 _ d hd) _ (by omega) hs
  omega
 | keep _ _ _ ih=>exact ih
theorem LiveB.lt {ts:List Int} {ns:List Nd} (hA:AllTyped ts ns) {m v:Nat} (h:LiveB ts ns m v):v<ts.length:=by
 induction h with
 | start h=>exact h.elim
 | gen _ h =>
  obtain ⟨d,hd,hu⟩:=h
  have:=typed_use (hA.2 _ d hd) _ hu
  omega
 | keep _ _ _ ih=>exact ih
theorem MissB.ge {ts:List Int} {ns:List Nd} (hA:AllTyped ts ns) (hL:∀ k,k<ns.length→k≠0→∃ j,j<k∧eN ns j k) {v:Nat} (hv:ts.length≤v):∀ k,k<ns.length→MissB ts ns k v:=by
 intro k
 induction k using Nat.strongRecOn with
 | ind k ih =>
  intro hk
  by_cases hk0:k=0
  ·subst hk0
   exact .start trivial
  ·obtain ⟨j,hj,hjk⟩:=hL k hk hk0
   refine .keep hjk (ih j hj (by omega)) (fun h=>?_)
   obtain ⟨d,hd,hs⟩:=h
   have:=typed_set (hA.2 _ d hd) _ (by omega) hs
   omega
theorem progPts_leads {ts:List Int} {s:Sts} (h:validB ts s=true):∀ k,k<(progPts s).length→k≠0→∃ j,j<k∧eN (progPts s) j k:=by
 intro k hk h0
 obtain ⟨j,d,hj,hd,hm⟩:=progPts_prev s k hk h0
 refine ⟨j,hj,?_⟩
 unfold eN nextN
 rw [nextP_some hd,List.mem_map]
 exact ⟨(k:Int),hm,by simp⟩
def behindD (x t s:Nat):Nat:=(x&&&(x ^^^ (x&&&t)))|||s
theorem testBit_without {x z y:Nat} (k:Nat) (h:z.testBit k=(x.testBit k && !y.testBit k)) (s:Nat):(z|||s).testBit k=((x.testBit k && !y.testBit k) || s.testBit k):=by
 rw [Nat.testBit_or,h]
theorem behind_may {ts:List Int} {ns:List Nd} {k:Nat} {d:Nd} {e:Ef} (hd:ns[k]?=some d) (he:EfOk ts d e) {x z:Nat} (hz:∀ v,v<64→z.testBit v=(x.testBit v && !e.t.testBit v)) (v:Nat) (hv:v<6) :
  dv false (z|||e.s) v↔setsN ns k v∨(dv false x v∧¬ usesN ts ns k v 2):=by
 unfold dv
 rw [testBit_without v (hz v (by omega)),setsN_at hd,usesN_at hd,← he.sets v (by omega),← he.takes v (by omega)]
 cases x.testBit v <;> cases e.t.testBit v <;> cases e.s.testBit v <;> simp
theorem behind_miss {ts:List Int} {ns:List Nd} {k:Nat} {d:Nd} {e:Ef} (hd:ns[k]?=some d) (he:EfOk ts d e) {x z:Nat} (hz:∀ v,v<64→z.testBit v=(x.testBit v && !e.t.testBit v)) (v:Nat) (hv:v<6) :
  dv true (z|||e.s) v↔(usesN ts ns k v 2∧¬ setsN ns k v)∨(dv true x v∧¬ setsN ns k v):=by
 unfold dv
 rw [testBit_without v (hz v (by omega)),setsN_at hd,usesN_at hd,← he.sets v (by omega),← he.takes v (by omega)]
 cases x.testBit v <;> cases e.t.testBit v <;> cases e.s.testBit v <;> simp
theorem behind_live {ts:List Int} {ns:List Nd} {k:Nat} {d:Nd} {e:Ef} (hd:ns[k]?=some d) (he:EfOk ts d e) {x z:Nat} (hz:∀ v,v<64→z.testBit v=(x.testBit v && !e.s.testBit v)) (v:Nat) (hv:v<6) :
  dv false (z|||(e.r|||e.t|||e.c)) v↔(∃ d,ns[k]?=some d∧useI ts d v≠0)∨(dv false x v∧¬ setsN ns k v):=by
 unfold dv
 rw [testBit_without v (hz v (by omega)),setsN_at hd,useN_at hd,← he.sets v (by omega),← he.uses v (by omega)]
 cases x.testBit v <;> cases e.s.testBit v <;> cases (e.r|||e.t|||e.c).testBit v <;> simp
def behindR (ts:List Int) (d:Nd) (r:Nat→Bool):Nat→Bool:=fun v=>decide (setI d=(v:Int)) || (r v && !decide (useI ts d v=2))
theorem behindR_may {ts:List Int} {ns:List Nd} {k:Nat} {d:Nd} (hd:ns[k]?=some d) (r:Nat→Bool) (v:Nat):db false (behindR ts d r) v↔setsN ns k v∨(db false r v∧¬ usesN ts ns k v 2):=by
 unfold db behindR
 rw [setsN_at hd,usesN_at hd]
 by_cases h1:setI d=(v:Int) <;> by_cases h2:useI ts d v=2 <;> simp [h1,h2]
theorem behindR_miss {ts:List Int} {ns:List Nd} {k:Nat} {d:Nd} (hd:ns[k]?=some d) (r:Nat→Bool) (v:Nat):db true (behindR ts d r) v↔(usesN ts ns k v 2∧¬ setsN ns k v)∨(db true r v∧¬ setsN ns k v):=by
 unfold db behindR
 rw [setsN_at hd,usesN_at hd]
 by_cases h1:setI d=(v:Int) <;> by_cases h2:useI ts d v=2 <;> simp [h1,h2]
def AnsAt (R:List Nd→Nat→Nat→Prop) (ok:Bool) (s:Sts) (a:Int) (l:List Int):Prop :=
 (ok=true∧0≤a∧a<((progPts s).length:Int)∧IsPathsB (R (progPts s) a.toNat) l)∨(¬ (ok=true∧0≤a∧a<((progPts s).length:Int))∧l=[])
theorem bits_and_u64 (a b:Nat) (ha:a<18446744073709551616) (hb:b<18446744073709551616):bits .and .u64 (a:Int) (b:Int)=((a&&&b:Nat):Int):=bits_and_u64_nat a b ha hb
theorem shr_and_one (x i:Nat):(x / 2 ^ i)&&&1=if x.testBit i=true then 1 else 0:=by
 have e:x.testBit i=decide ((x / 2 ^ i) % 2=1):=by
  rw [← Nat.testBit_zero,← Nat.shiftRight_eq_div_pow,Nat.testBit_shiftRight];simp
 rw [Nat.and_one_is_mod,e]
 by_cases h:(x / 2 ^ i) % 2=1
 ·rw [h];rfl
 ·have:(x / 2 ^ i) % 2=0:=by omega
  rw [this];rfl
theorem bitHas_any (x i:Nat) (hx:x<18446744073709551616) (hi:i<64) (w:World) :
  Calls Tryz.prog 106 #[.int .u64 x,.int .i64 i] w fun E w'=>E=.returned (.bool (x.testBit i))∧w'=w:=by
 have hd:x / 2 ^ i<18446744073709551616:=Nat.lt_of_le_of_lt (Nat.div_le_self _ _) hx
 have hk:=bits_and_u64 (x / 2 ^ i) 1 hd (by decide)
 rw [shr_and_one] at hk
 have e:(((x / 2 ^ i:Nat)):Int)=(x:Int) / 2 ^ i:=by simp
 rw [e] at hk
 cases hb:x.testBit i
 ·rw [hb] at hk
  have hk2:bits .and .u64 ((x:Int) / 2 ^ i) 1=0:=by simpa using hk
  clear hk
  go_enter Tryz.func106,Tryz.ntmps106
  go_wp2_with (simp only [hk2])
  go_ret
  exact ⟨rfl,rfl⟩
 ·rw [hb] at hk
  have hk2:bits .and .u64 ((x:Int) / 2 ^ i) 1=1:=by simpa using hk
  clear hk
  go_enter Tryz.func106,Tryz.ntmps106
  go_wp2_with (simp only [hk2])
  go_ret
  exact ⟨rfl,rfl⟩
end Go.Proofs.YtedkkphogeealaaGreatDoor
