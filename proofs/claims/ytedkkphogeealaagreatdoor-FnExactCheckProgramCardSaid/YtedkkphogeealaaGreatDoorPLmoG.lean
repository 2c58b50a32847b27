/- States of the model's search for loans,in memory;l4Add,l4Lose. -/
import Derived.Test.YtedkkphogeealaaGreatDoorPL4Ad
import Derived.Test.YtedkkphogeealaaGreatDoorPLplG
import Derived.Test.YtedkkphogeealaaGreatDoorPL2Xa
import Derived.Lib.BufferWrite
import Derived.Deep.AppendLies
import Derived.Deep.RegionHeld3
import Derived.Test.YtedkkphogeealaaGreatDoorPLimA
import Derived.Deep.DeepCutAuto
import Derived.Test.YtedkkphogeealaaGreatDoorPFwdG
namespace Go.Proofs.YtedkkphogeealaaGreatDoor
open Go.RowKit Go.Deep
set_option linter.unusedVariables false
set_option maxRecDepth 100000
set_option maxHeartbeats 4000000
structure M4 where
 fa:Option Addr
 g:Nat
 cf:Nat
 bl:Nat→Nat
 cp:Nat→Nat
def M4.val (m:M4) (T n:Nat):Value:=.agg #[.slice m.fa T m.cf,.slice (some ⟨m.bl 6,0,none⟩) n (m.cp 6)]
structure S4 (w:World) (B T n:Nat) (m:M4) (S:Nat→Nat→Bool):Prop where
 fa:0<T→m.fa=some ⟨m.g,0,none⟩
 row:0<T→∃ cur,w.heap[m.g]?=some (.cells cur 72 (0,0))∧∀ v,v<T→cur[v]?=some (.slice (some ⟨m.bl v,0,none⟩) n (m.cp v))
 cf:T≤m.cf∧m.cf≤maxLen
 fl:∀ v,okP T v→FlW w (m.bl v) n (S v)
 cp:∀ v,okP T v→n≤m.cp v∧m.cp v≤maxLen
 inj:∀ u v,okP T u→okP T v→m.bl u=m.bl v→u=v
 own:∀ v,okP T v→B≤m.bl v
 og:0<T→B≤m.g
theorem S4.keep {w w':World} {B T n:Nat} {m:M4} {S:Nat→Nat→Bool} (h:S4 w B T n m S) (hb:Below w.heap.size w w'):S4 w' B T n m S :=
 ⟨h.fa,fun h0=>by
  obtain ⟨cur,h1,h2⟩:=h.row h0
  exact ⟨cur,(hb.block _ (heap_lt h1)).trans h1,h2⟩,h.cf,fun v hv=>(h.fl v hv).keep (hb.block _ (h.fl v hv).lt),h.cp,h.inj,h.own,h.og⟩
theorem FlW.apart {w:World} {F n F':Nat} {fl:Nat→Bool} {cur:Array Value} (h:FlW w F n fl) (h':w.heap[F']?=some (.cells cur 72 (0,0))):F'≠F:=by
 rintro rfl
 obtain ⟨cs,h1,_⟩:=h
 rw [h1] at h'
 simp at h'
theorem S4.write {w w':World} {B T n:Nat} {m:M4} {S:Nat→Nat→Bool} {u:Nat} {x:Nat→Bool} (h:S4 w B T n m S) (hu:okP T u) (hg:w.grownBy w' (some (m.bl u))) (hx:FlW w' (m.bl u) n x):S4 w' B T n m (setR S u x) :=
 ⟨h.fa,fun h0=>by
  obtain ⟨cur,h1,h2⟩:=h.row h0
  exact ⟨cur,(hg.block _ (heap_lt h1) (fun e=>(h.fl u hu).apart h1 (by injection e))).trans h1,h2⟩,h.cf,fun v hv=>by
  by_cases hvu:v=u
  ·subst hvu
   rw [setR_at]
   exact hx
  ·rw [setR_ne _ _ _ hvu]
   exact (h.fl v hv).keep (hg.block _ (h.fl v hv).lt (fun e=>hvu (h.inj v u hv hu (by injection e)))),h.cp,h.inj,h.own,h.og⟩
theorem S4.aside {w w':World} {B T n F:Nat} {m:M4} {S:Nat→Nat→Bool} {x:Nat→Bool} (h:S4 w B T n m S) (hF:FlW w F n x) (hne:∀ v,okP T v→m.bl v≠F) (hg:w.grownBy w' (some F)):S4 w' B T n m S :=
 ⟨h.fa,fun h0=>by
  obtain ⟨cur,h1,h2⟩:=h.row h0
  exact ⟨cur,(hg.block _ (heap_lt h1) (fun e=>hF.apart h1 (by injection e))).trans h1,h2⟩,h.cf,fun v hv=>(h.fl v hv).keep (hg.block _ (h.fl v hv).lt (fun e=>hne v hv (by injection e))),h.cp,h.inj,h.own,h.og⟩
theorem PRow.ne_flags {w:World} {B g l c A n:Nat} {x:Nat→Bool} {ns:List Nd} (h:PRow w B (.slice (some ⟨g,0,none⟩) l c) ns) (hA:FlW w A n x):g≠A:=by
 rintro rfl
 obtain ⟨xs,ho,_⟩:=h
 obtain ⟨cur,hc⟩:=ownBlock_row ho g rfl
 obtain ⟨cs,h1,_⟩:=hA
 rw [h1] at hc
 injection hc with hc
 injection hc with _ hc _
 exact absurd hc (by decide)
theorem l4Lose_any (ns:List Nd) (pv:Value) (B T n:Nat) (m:M4) (S:Nat→Nat→Bool) (v:Nat) (w:World) (hn:ns.length≤1000000) (hnn:n=ns.length) (hP:PRow w B pv ns) (h6:FlW w (m.bl 6) n (S 6)) (hc:n≤m.cp 6∧m.cp 6≤maxLen) :
  Calls Tryz.prog 109 #[m.val T n,pv,.int .i64 v] w
   fun E w'=>E=.returned (.tuple #[])∧FlW w' (m.bl 6) n (fun l=>S 6 l && !isFrom ns v l)∧w.grownBy w' (some (m.bl 6)):=by
 subst hnn
 obtain ⟨A0,c0,hv⟩:=hP.slice
 subst hv
 obtain ⟨hc1,hc2⟩:=hc
 unfold M4.val
 generalize m.bl 6=A at *
 generalize m.cp 6=ca at *
 generalize S 6=x at *
 generalize m.fa=fa at *
 generalize m.cf=cf at *
 unfold maxLen at hc2
 have hb0:=(Below.refl w.heap.size w).alloc (Nat.le_refl _) (.cells #[.slice fa T cf,.slice (some ⟨A,0,none⟩) ns.length ca] 81)
 have hX:=heap_alloc_new w (.cells #[.slice fa T cf,.slice (some ⟨A,0,none⟩) ns.length ca] 81)
 have hz:(w.alloc (.cells #[.slice fa T cf,.slice (some ⟨A,0,none⟩) ns.length ca] 81)).heap.size=w.heap.size+1:=by simp
 have HAL:=Lib.hid h6.lt
 have HA:=Lib.hid (h6.keep (hb0.block A h6.lt))
 have hgr:w.grownBy (w.alloc (.cells #[.slice fa T cf,.slice (some ⟨A,0,none⟩) ns.length ca] 81)) (some A):=World.grownBy_alloc _ _ _
 have HGR:=Lib.hid hgr
 have HPN:=Lib.hid (fun (g:Nat) (h9:A0=some ⟨g,0,none⟩)=>(by subst h9;exact hP.ne_flags h6:g≠A))
 have HP:=Lib.hid hP
 have HX:=Lib.hid hX
 have HZ:=Lib.hid hz
 clear hb0 hX hz hgr hP h6
 go_enter Tryz.func109,Tryz.ntmps109
 go_wp2_with fail
 go_loopw [6] (fun i wr=>∃ k:Nat,i=.int .i64 k∧k≤ns.length∧Hid (FlW wr A ns.length (fun l=>x l && !(decide (l<k) && isFrom ns v l)))∧Hid (w.grownBy wr (some A))∧Hid (wr.heap[w.heap.size]?=some (.cells #[.slice fa T cf,.slice (some ⟨A,0,none⟩) ns.length ca] 81 (0,0)))) (fun i wr=>ns.length-(intOf i).toNat)
 case atStart=>exact ⟨0,rfl,Nat.zero_le _,Lib.hid (HA.out.congr (fun i _=>by simp)),HGR,HX⟩
 case round =>
  clear HA HGR HX
  obtain ⟨k,rfl,hk,HG,HB,HX⟩:=hrel
  by_cases hlt:k<ns.length
  ·obtain ⟨d,hd⟩:∃ d,ns[k]?=some d:=⟨ns[k],List.getElem?_eq_getElem hlt⟩
   obtain ⟨g,cap,hgv,hBg,hgl,hgc,hcm⟩:=HP.out.form (by omega)
   injection hgv with hg1 _ hg2
   subst hg1 hg2
   obtain ⟨u,⟨q0,q1,q2,q3,q4⟩,-⟩:=HP.out.cells hd
   have hgA:=HPN.out g rfl
   have hgb:=HB.out.block g hgl (fun e=>hgA (by injection e))
   have ki0:(0:Int)≤(k:Int):=by omega
   have ki1:(k:Int)<(ns.length:Int):=by omega
   have cq:∀ o,wr.cell? ⟨g,o,none⟩=w.cell? ⟨g,o,none⟩:=fun o=>World.cell?_of_block (a:=⟨g,o,none⟩) hgb
   have r0:=(cq _).trans q0
   have r2:=(cq _).trans q2
   have hfr:=isFrom_at (v:=v) hd
   have p1:wr.cell? ⟨w.heap.size,1,none⟩=some (.slice (some ⟨A,0,none⟩) ns.length ca):=(cB HX.out 1).trans rfl
   have sG:=HG.out.soft k
   have cG:=HG.out.cell hlt
   have HAz:=Lib.hid (show A≠w.heap.size from by have:=HAL.out;omega)
   have HXS:Hid (∀ v9:Value,Hid ((wr.setCell ⟨A,k,none⟩ v9).heap[w.heap.size]?=some (.cells #[.slice fa T cf,.slice (some ⟨A,0,none⟩) ns.length ca] 81 (0,0)))):=Lib.hid (fun v9=>(heap_setCell_other _ _ _ _ (fun e=>HAz.out e.symm)).trans HX.out)
   have hbx:∀ v9:Value,Hid (w.grownBy (wr.setCell ⟨A,k,none⟩ v9) (some A)):=fun v9=>grown_set HB.out v9
   have HBX:=Lib.hid hbx
   have hstep:∀ i,i≠k→decide (i<k+1)=decide (i<k):=fun i hi=>decide_eq_decide.mpr (by omega)
   have HYES:Hid (isFrom ns v k=true→Hid (FlW (wr.setCell ⟨A,k,none⟩ (.bool false)) A ns.length (fun l=>x l && !(decide (l<k+1) && isFrom ns v l)))):=fun he=>(HG.out.put hlt false).congr (fun i _=>by
    unfold setR
    by_cases hik:i=k
    ·subst hik
     rw [if_pos rfl,he,decide_eq_true (by omega)]
     simp
    ·rw [if_neg hik,hstep i hik])
   have HNO:Hid (isFrom ns v k=false→Hid (FlW wr A ns.length (fun l=>x l && !(decide (l<k+1) && isFrom ns v l)))):=fun he=>HG.out.congr (fun i _=>by
    by_cases hik:i=k
    ·subst hik
     rw [he]
     simp
    ·rw [hstep i hik])
   obtain ⟨op,hop⟩:∃ op,op=d.op:=⟨_,rfl⟩
   obtain ⟨y,hy⟩:∃ y,y=d.y:=⟨_,rfl⟩
   rw [← hop] at r0
   rw [← hy] at r2
   rw [← hop,← hy] at hfr
   unfold maxLen at hcm
   clear q0 q1 q2 q3 q4 hgb cq hbx hstep hd hop hy HG hBg hgA
   by_cases h45:op=4∨op=5
   ·by_cases hyv:y=(v:Int)
    ·have HT:=HYES.out (by rw [hfr];exact decide_eq_true ⟨h45,hyv⟩)
     subst hyv
     have HHB:=HBX.out (.bool false)
     have HHX:=HXS.out (.bool false)
     clear HYES HNO hfr HBX HXS HB HX
     rcases h45 with rfl | rfl
     all_goals
      go_wp2_with fail
      refine ⟨⟨k+1,by simp,by omega,HT,HHB,HHX⟩,?_⟩
      simp only [intOf]
      omega
    ·have HT:=HNO.out (by rw [hfr];exact decide_eq_false (fun e=>hyv e.2))
     have hyd:decide (y=(v:Int))=false:=decide_eq_false hyv
     have hyb:(y==(v:Int))=false:=by simp [hyv]
     clear HYES HNO hfr HBX HXS
     rcases h45 with rfl | rfl
     all_goals
      go_wp2_with fail
      refine ⟨⟨k+1,by simp,by omega,HT,HB,HX⟩,?_⟩
      simp only [intOf]
      omega
   ·have HT:=HNO.out (by rw [hfr];exact decide_eq_false (fun e=>h45 e.1))
    have n4:¬ op=4:=fun h9=>h45 (.inl h9)
    have n5:¬ op=5:=fun h9=>h45 (.inr h9)
    have b4:(op==4)=false:=by simp [n4]
    have b5:(op==5)=false:=by simp [n5]
    have d4:decide (op=4)=false:=decide_eq_false n4
    have d5:decide (op=5)=false:=decide_eq_false n5
    clear HYES HNO hfr HBX HXS h45
    go_wp2_with fail
    refine ⟨⟨k+1,by simp,by omega,HT,HB,HX⟩,?_⟩
    simp only [intOf]
    omega
  ·have hke:k=ns.length:=by omega
   have HFIN:Hid (FlW wr A ns.length (fun l=>x l && !isFrom ns v l)):=HG.out.congr (fun i hi=>by
    have:decide (i<k)=true:=decide_eq_true (by omega)
    rw [this,Bool.true_and])
   subst hke
   clear HG
   go_wp2_with fail
   go_end0
   exact ⟨rfl,HFIN.out,HB.out⟩
theorem S4.slot {w:World} {B T n:Nat} {m:M4} {S:Nat→Nat→Bool} (h:S4 w B T n m S) {v:Nat} (hv:v<T):w.cell? ⟨m.g,v,none⟩=some (.slice (some ⟨m.bl v,0,none⟩) n (m.cp v)):=by
 obtain ⟨cur,h1,h2⟩:=h.row (by omega)
 exact (cB h1 v).trans (h2 v hv)
def within (T:Nat) (x y:Nat→Nat→Bool) (k:Nat):Prop:=∀ v l,okP T v→l<k→x v l=true→y v l=true
theorem l4Within_any (B B' T n:Nat) (m m':M4) (x y:Nat→Nat→Bool) (w:World) (hT:T≤6) (hn:n≤1000000) (h:S4 w B T n m x) (h':S4 w B' T n m' y) :
  Calls Tryz.prog 85 #[m.val T n,m'.val T n] w fun E w'=>∃ r:Bool,E=.returned (.bool r)∧(r=true↔within T x y n)∧Below w.heap.size w w':=by
 obtain ⟨hc1,hc2⟩:=h.cp 6 (.inr rfl)
 obtain ⟨hd1,hd2⟩:=h'.cp 6 (.inr rfl)
 obtain ⟨he1,he2⟩:=h.cf
 obtain ⟨hf1,hf2⟩:=h'.cf
 unfold maxLen at hc2 hd2 he2 hf2
 have hb1:=(Below.refl w.heap.size w).alloc (Nat.le_refl _) (.cells #[.slice m.fa T m.cf,.slice (some ⟨m.bl 6,0,none⟩) n (m.cp 6)] 81)
 have hz1:(w.alloc (.cells #[.slice m.fa T m.cf,.slice (some ⟨m.bl 6,0,none⟩) n (m.cp 6)] 81)).heap.size=w.heap.size+1:=by simp
 have hX1:=heap_alloc_new w (.cells #[.slice m.fa T m.cf,.slice (some ⟨m.bl 6,0,none⟩) n (m.cp 6)] 81)
 have hb2:=hb1.alloc (by omega) (.cells #[.slice m'.fa T m'.cf,.slice (some ⟨m'.bl 6,0,none⟩) n (m'.cp 6)] 81)
 have hX2:=heap_alloc_new (w.alloc (.cells #[.slice m.fa T m.cf,.slice (some ⟨m.bl 6,0,none⟩) n (m.cp 6)] 81)) (.cells #[.slice m'.fa T m'.cf,.slice (some ⟨m'.bl 6,0,none⟩) n (m'.cp 6)] 81)
 rw [hz1] at hX2
 have hX1:=(((Below.refl _ _).alloc (Nat.le_refl _) (.cells #[.slice m'.fa T m'.cf,.slice (some ⟨m'.bl 6,0,none⟩) n (m'.cp 6)] 81):Below (w.alloc (.cells #[.slice m.fa T m.cf,.slice (some ⟨m.bl 6,0,none⟩) n (m.cp 6)] 81)).heap.size _ _).block w.heap.size (by omega)).trans hX1
 have hz2:((w.alloc (.cells #[.slice m.fa T m.cf,.slice (some ⟨m.bl 6,0,none⟩) n (m.cp 6)] 81)).alloc (.cells #[.slice m'.fa T m'.cf,.slice (some ⟨m'.bl 6,0,none⟩) n (m'.cp 6)] 81)).heap.size=w.heap.size+2:=by simp
 have HS:=Lib.hid (h.keep hb2)
 have HS':=Lib.hid (h'.keep hb2)
 have HB:=Lib.hid hb2
 have HFA:=Lib.hid h.fa
 have HFA':=Lib.hid h'.fa
 clear hb1 hz1 hb2 h h'
 unfold M4.val
 go_enter Tryz.func85,Tryz.ntmps85
 go_wp2_with fail
 generalize (w.alloc (.cells #[.slice m.fa T m.cf,.slice (some ⟨m.bl 6,0,none⟩) n (m.cp 6)] 81)).alloc (.cells #[.slice m'.fa T m'.cf,.slice (some ⟨m'.bl 6,0,none⟩) n (m'.cp 6)] 81)=W at *
 have p0:W.cell? ⟨w.heap.size,0,none⟩=some (.slice m.fa T m.cf):=(cB hX1 0).trans rfl
 have p1:W.cell? ⟨w.heap.size,1,none⟩=some (.slice (some ⟨m.bl 6,0,none⟩) n (m.cp 6)):=(cB hX1 1).trans rfl
 have r0:W.cell? ⟨w.heap.size+1,0,none⟩=some (.slice m'.fa T m'.cf):=(cB hX2 0).trans rfl
 have r1:W.cell? ⟨w.heap.size+1,1,none⟩=some (.slice (some ⟨m'.bl 6,0,none⟩) n (m'.cp 6)):=(cB hX2 1).trans rfl
 clear hX1 hX2 hz2
 go_loopw [5,6] (fun i j wr=>wr=W∧∃ k:Nat,i=.int .i64 k∧k≤n∧Hid (within T x y k)) (fun i _ _=>n-(intOf i).toNat)
 case atStart=>exact ⟨rfl,0,rfl,Nat.zero_le _,Lib.hid (fun v l _ hl=>absurd hl (Nat.not_lt_zero _))⟩
 case round =>
  obtain ⟨rfl,k,rfl,hk,HW⟩:=hrel
  by_cases hlt:k<n
  ·have a6:=(HS.out.fl 6 (.inr rfl)).cell hlt
   have b6:=(HS'.out.fl 6 (.inr rfl)).cell hlt
   have ki0:(0:Int)≤(k:Int):=by omega
   have ki1:(k:Int)<(n:Int):=by omega
   have HNO:Hid (∀ v,okP T v→x v k=true→y v k=false→¬ within T x y n):=fun v hv h1 h2 h3=>by
    have:=h3 v k hv hlt h1
    rw [h2] at this
    cases this
   obtain ⟨a,ha⟩:∃ a,x 6 k=a:=⟨_,rfl⟩
   obtain ⟨b,hb⟩:∃ b,y 6 k=b:=⟨_,rfl⟩
   rw [ha] at a6
   rw [hb] at b6
   have HA6:=Lib.hid ha
   have HB6:=Lib.hid hb
   clear ha hb
   by_cases hab:a=true∧b=false
   ·obtain ⟨rfl,rfl⟩:=hab
    go_wp2_with fail
    go_ret
    exact ⟨false,rfl,⟨fun h=>(by cases h),fun h=>absurd h (HNO.out 6 (.inr rfl) HA6.out HB6.out)⟩,HB.out⟩
   ·have H6:Hid (x 6 k=true→y 6 k=true):=fun h9=>by
     rw [HB6.out]
     rw [HA6.out] at h9
     cases b
     ·exact absurd ⟨h9,rfl⟩ hab
     ·rfl
    have hcases:a=false∨(a=true∧b=true):=by
     cases a <;> cases b <;> simp_all
    have HC:=Lib.hid hcases
    clear hab hcases HA6 HB6
    rcases HC.out with rfl | ⟨rfl,rfl⟩
    all_goals
     clear HC
     go_wp2_with fail
     go_loopw [6] (fun j w2=>w2=wr∧∃ u:Nat,j=.int .i64 u∧u≤T∧Hid (∀ v,v<u→x v k=true→y v k=true)) (fun j _=>T-(intOf j).toNat)
     case atStart=>exact ⟨rfl,0,rfl,Nat.zero_le _,Lib.hid (fun v hv=>absurd hv (Nat.not_lt_zero _))⟩
     case round =>
      obtain ⟨rfl,u,rfl,hu,HU⟩:=hrel
      by_cases hlu:u<T
      ·have hT0:0<T:=by omega
       have hfa:=HFA.out hT0
       have hfa':=HFA'.out hT0
       rw [hfa] at p0
       rw [hfa'] at r0
       have s1:=HS.out.slot hlu
       have s2:=HS'.out.slot hlu
       have ku:=HS.out.cp u (.inl hlu)
       have ku':=HS'.out.cp u (.inl hlu)
       have au:=(HS.out.fl u (.inl hlu)).cell hlt
       have bu:=(HS'.out.fl u (.inl hlu)).cell hlt
       unfold maxLen at ku ku'
       obtain ⟨ku1,ku2⟩:=ku
       obtain ⟨kv1,kv2⟩:=ku'
       have ui0:(0:Int)≤(u:Int):=by omega
       have ui1:(u:Int)<(T:Int):=by omega
       have HNX:Hid ((x u k=true→y u k=true)→Hid (∀ v,v<u+1→x v k=true→y v k=true)):=fun h9 v hv=>by
        by_cases hvu:v=u
        ·subst hvu;exact h9
        ·exact HU.out v (by omega)
       clear hfa hfa' HU
       cases hxu:x u k <;> cases hyu:y u k
       all_goals
        rw [hxu] at au
        rw [hyu] at bu
        have HXU:=Lib.hid hxu
        have HYU:=Lib.hid hyu
        clear hxu hyu
       ·go_wp2_with fail
        refine ⟨⟨trivial,u+1,by simp,by omega,HNX.out (fun h9=>by rw [HXU.out] at h9;cases h9)⟩,?_⟩
        simp only [intOf]
        omega
       ·go_wp2_with fail
        refine ⟨⟨trivial,u+1,by simp,by omega,HNX.out (fun h9=>by rw [HXU.out] at h9;cases h9)⟩,?_⟩
        simp only [intOf]
        omega
       ·go_wp2_with fail
        go_ret
        exact ⟨false,rfl,⟨fun h=>(by cases h),fun h=>absurd h (HNO.out u (.inl hlu) HXU.out HYU.out)⟩,HB.out⟩
       ·go_wp2_with fail
        refine ⟨⟨trivial,u+1,by simp,by omega,HNX.out (fun _=>HYU.out)⟩,?_⟩
        simp only [intOf]
        omega
      ·have hue:u=T:=by omega
       subst hue
       go_wp2_with fail
       refine ⟨⟨trivial,k+1,by simp,by omega,Lib.hid (fun v l hv hl=>?_)⟩,?_⟩
       ·by_cases hlk:l=k
        ·subst hlk
         rcases hv with hv | rfl
         ·exact HU.out v hv
         ·exact H6.out
        ·exact HW.out v l hv (by omega)
       ·simp only [intOf]
        omega
  ·have hke:k=n:=by omega
   subst hke
   go_wp2_with fail
   go_ret
   exact ⟨true,rfl,⟨fun _=>HW.out,fun _=>rfl⟩,HB.out⟩
def Rows4 (w:World) (B:Nat) (v:Value) (k n:Nat) (bl cp:Nat→Nat) (x:Nat→Nat→Bool):Prop :=
 ∃ xs,w.ownsRow B 72 1 v k xs∧(∀ u,u<k→xs[u]?=some (.slice (some ⟨bl u,0,none⟩) n (cp u))∧B≤bl u∧(n≤cp u∧cp u≤maxLen)∧FlW w (bl u) n (x u))∧∀ i j,i<k→j<k→bl i=bl j→i=j
theorem FlW.not_row {w:World} {F n:Nat} {fl:Nat→Bool} (h:FlW w F n fl) {v:Value} {B m:Nat} {xs:List Value} (ho:w.ownsRow B 72 1 v m xs):some F≠v.ownBlock:=by
 intro e
 obtain ⟨cs,h1,_⟩:=h
 rcases ho.2 with ⟨hv,_⟩ | ⟨g,cap,cur,hv,_,h3,_⟩
 ·rw [hv] at e;simp [Value.ownBlock] at e
 ·rw [hv] at e
  have e':F=g:=by simpa [Value.ownBlock] using e
  rw [← e'] at h3
  rw [h1] at h3
  simp at h3
theorem Rows4.below {w w':World} {B:Nat} {v:Value} {k n:Nat} {bl cp:Nat→Nat} {x:Nat→Nat→Bool} (h:Rows4 w B v k n bl cp x) (hb:Below w.heap.size w w'):Rows4 w' B v k n bl cp x:=by
 obtain ⟨xs,ho,h1,h2⟩:=h
 exact ⟨xs,ho.kept (below_grown hb) (by cases hv:v.ownBlock <;> simp),fun u hu=>⟨(h1 u hu).1,(h1 u hu).2.1,(h1 u hu).2.2.1,(h1 u hu).2.2.2.keep (hb.block _ (h1 u hu).2.2.2.lt)⟩,h2⟩
theorem Rows4.slice {w:World} {B:Nat} {v:Value} {k n:Nat} {bl cp:Nat→Nat} {x:Nat→Nat→Bool} (h:Rows4 w B v k n bl cp x):∃ A c,v=.slice A k c∧k≤c∧c≤maxLen:=by
 obtain ⟨xs,ho,_⟩:=h
 rcases ho.2 with ⟨rfl,h0⟩ | ⟨g,cap,cur,hv,_,_,h4,h5,_⟩
 ·subst h0
  exact ⟨none,0,rfl,Nat.le_refl _,Nat.zero_le _⟩
 ·exact ⟨_,_,hv,h4,h5⟩
theorem Rows4.more {w w2:World} {B g cap k n F c:Nat} {v:Value} {bl cp:Nat→Nat} {x:Nat→Nat→Bool} {xs:List Value} (ho:w.ownsRow B 72 1 v k xs) (h1:∀ u,u<k→xs[u]?=some (.slice (some ⟨bl u,0,none⟩) n (cp u))∧B≤bl u∧(n≤cp u∧cp u≤maxLen)∧FlW w (bl u) n (x u)) (h2:∀ i j,i<k→j<k→bl i=bl j→i=j)
  (hF:FlW w F n (x k)) (hne:∀ u,u<k→bl u≠F) (hFB:B≤F) (hc:n≤c∧c≤maxLen) (hg:w.grownBy w2 v.ownBlock)
  (ho2:w2.ownsRow B 72 1 (.slice (some ⟨g,0,none⟩) (k+1) cap) (k+1) (xs++[.slice (some ⟨F,0,none⟩) n c])) :
  Rows4 w2 B (.slice (some ⟨g,0,none⟩) (k+1) cap) (k+1) n (setR bl k F) (setR cp k c) x:=by
 have hl:xs.length=k:=by have:=ho.1;omega
 refine ⟨_,ho2,fun u hu=>?_,fun i j hi hj e=>?_⟩
 ·by_cases huk:u=k
  ·subst huk
   rw [setR_at,setR_at]
   exact ⟨by rw [← hl];simp,hFB,hc,hF.keep (hg.block _ hF.lt (hF.not_row ho))⟩
  ·rw [setR_ne _ _ _ huk,setR_ne _ _ _ huk]
   obtain ⟨a1,a2,a3,a4⟩:=h1 u (by omega)
   exact ⟨by rw [List.getElem?_append_left (by omega)];exact a1,a2,a3,a4.keep (hg.block _ a4.lt (a4.not_row ho))⟩
 ·by_cases hik:i=k
  ·by_cases hjk:j=k
   ·omega
   ·subst hik
    rw [setR_at,setR_ne _ _ _ hjk] at e
    exact absurd e.symm (hne j (by omega))
  ·by_cases hjk:j=k
   ·subst hjk
    rw [setR_at,setR_ne _ _ _ hik] at e
    exact absurd e (hne i (by omega))
   ·rw [setR_ne _ _ _ hik,setR_ne _ _ _ hjk] at e
    exact h2 i j (by omega) (by omega) e
structure St4 (w0 w:World) (B X:Nat) (k n:Nat) (fa:Option Addr) (cf P cP:Nat) (bl cp:Nat→Nat) (x:Nat→Nat→Bool):Prop where
 box:w.heap[X]?=some (.cells #[.slice fa k cf,.slice (some ⟨P,0,none⟩) n cP] 81 (0,0))
 rows:Rows4 w B (.slice fa k cf) k n bl cp x
 pl:FlW w P n (x 6)
 ne:∀ u,u<k→bl u≠P
 oP:B≤P
 oX:B≤X
 cP:n≤cP∧cP≤maxLen
 below:Below B w0 w
 base:B=w0.heap.size
theorem St4.keep {w0 w w':World} {B X k n:Nat} {fa:Option Addr} {cf P cP:Nat} {bl cp:Nat→Nat} {x:Nat→Nat→Bool} (h:St4 w0 w B X k n fa cf P cP bl cp x) (hb:Below w.heap.size w w'):St4 w0 w' B X k n fa cf P cP bl cp x :=
 ⟨(hb.block _ (heap_lt h.box)).trans h.box,h.rows.below hb,h.pl.keep (hb.block _ h.pl.lt),h.ne,h.oP,h.oX,h.cP,h.below.trans (hb.mono (by rw [h.base];exact (h.base ▸ h.below).size)),h.base⟩
theorem St4.done {w0 w:World} {B X T n:Nat} {fa:Option Addr} {cf P cP:Nat} {bl cp:Nat→Nat} {x:Nat→Nat→Bool} (h:St4 w0 w B X T n fa cf P cP bl cp x) (hT:T≤6) :
  S4 w B T n ⟨fa,(match fa with | some a=>a.block | none=>0),cf,fun v=>if v=6 then P else bl v,fun v=>if v=6 then cP else cp v⟩ x:=by
 obtain ⟨xs,ho,h1,h2⟩:=h.rows
 have hcf:T≤cf∧cf≤maxLen:=by
  obtain ⟨A,c,e,h3,h4⟩:=h.rows.slice
  injection e with _ _ e
  subst e
  exact ⟨h3,h4⟩
 have hform:0<T→∃ g cur,fa=some ⟨g,0,none⟩∧B≤g∧w.heap[g]?=some (.cells cur 72 (0,0))∧∀ v,v<T→cur[v]?=xs[v]?:=fun h0=>by
  rcases ho.2 with ⟨_,e⟩ | ⟨g,cap,cur,hv,hB,h3,h4,h5,h6,h7⟩
  ·omega
  ·injection hv with hv _ _
   refine ⟨g,cur,hv,hB,h3,fun v hv=>?_⟩
   rw [← h7,List.getElem?_take,if_pos (by omega)]
   simp
 have h6:∀ v,okP T v→v≠6→v<T:=fun v hv h6=>hv.resolve_right h6
 refine ⟨fun h0=>?_,fun h0=>?_,hcf,fun v hv=>?_,fun v hv=>?_,fun u v hu hv e=>?_,fun v hv=>?_,fun h0=>?_⟩
 ·obtain ⟨g,cur,rfl,_⟩:=hform h0
  rfl
 ·obtain ⟨g,cur,rfl,_,h8,h9⟩:=hform h0
  refine ⟨cur,h8,fun v hv=>?_⟩
  show cur[v]?=some (.slice (some ⟨(if v=6 then P else bl v),0,none⟩) n (if v=6 then cP else cp v))
  rw [if_neg (by omega),if_neg (by omega),h9 v hv]
  exact (h1 v hv).1
 ·show FlW w (if v=6 then P else bl v) n (x v)
  by_cases hv6:v=6
  ·subst hv6
   rw [if_pos rfl]
   exact h.pl
  ·rw [if_neg hv6]
   exact (h1 v (h6 v hv hv6)).2.2.2
 ·show n≤(if v=6 then cP else cp v)∧(if v=6 then cP else cp v)≤maxLen
  by_cases hv6:v=6
  ·rw [if_pos hv6]
   exact h.cP
  ·rw [if_neg hv6]
   exact (h1 v (h6 v hv hv6)).2.2.1
 ·have e':(if u=6 then P else bl u)=(if v=6 then P else bl v):=e
  by_cases hu6:u=6
  ·by_cases hv6:v=6
   ·omega
   ·rw [if_pos hu6,if_neg hv6] at e'
    exact absurd e'.symm (h.ne v (h6 v hv hv6))
  ·by_cases hv6:v=6
   ·rw [if_neg hu6,if_pos hv6] at e'
    exact absurd e' (h.ne u (h6 u hu hu6))
   ·rw [if_neg hu6,if_neg hv6] at e'
    exact h2 u v (h6 u hu hu6) (h6 v hv hv6) e'
 ·show B≤(if v=6 then P else bl v)
  by_cases hv6:v=6
  ·rw [if_pos hv6]
   exact h.oP
  ·rw [if_neg hv6]
   exact (h1 v (h6 v hv hv6)).2.1
 ·obtain ⟨g,cur,rfl,hB,_⟩:=hform h0
  exact hB
theorem FlW.drew {w:World} {F n:Nat} {fl:Nat→Bool} (h:FlW w F n fl):FlW w.drew F n fl:=h
theorem St4.drew {w0 w:World} {B X k n:Nat} {fa:Option Addr} {cf P cP:Nat} {bl cp:Nat→Nat} {x:Nat→Nat→Bool} (h:St4 w0 w B X k n fa cf P cP bl cp x):St4 w0 w.drew B X k n fa cf P cP bl cp x :=
 ⟨h.box,h.rows,h.pl,h.ne,h.oP,h.oX,h.cP,h.below.drew,h.base⟩
theorem Rows4.lt {w:World} {B:Nat} {v:Value} {k n:Nat} {bl cp:Nat→Nat} {x:Nat→Nat→Bool} (h:Rows4 w B v k n bl cp x) {u:Nat} (hu:u<k):bl u<w.heap.size:=by
 obtain ⟨xs,_,h1,_⟩:=h
 exact (h1 u hu).2.2.2.lt
theorem Rows4.boxed {w w':World} {B X:Nat} {v:Value} {k n:Nat} {bl cp:Nat→Nat} {x:Nat→Nat→Bool} {cs:Array Value} (h:Rows4 w B v k n bl cp x) (hX:w.heap[X]?=some (.cells cs 81 (0,0))) (hg:w.grownBy w' (some X)):Rows4 w' B v k n bl cp x:=by
 obtain ⟨xs,ho,h1,h2⟩:=h
 refine ⟨xs,ho.kept hg ?_,fun u hu=>⟨(h1 u hu).1,(h1 u hu).2.1,(h1 u hu).2.2.1,(h1 u hu).2.2.2.keep (hg.block _ (h1 u hu).2.2.2.lt (fun e=>?_))⟩,h2⟩
 ·rcases hv:v.ownBlock with _ | g
  ·simp
  ·right
   intro e
   obtain ⟨cur,hc⟩:=ownBlock_row ho g hv
   have e':X=g:=by injection e with e;omega
   rw [← e',hX] at hc
   injection hc with hc
   injection hc with _ hc _
   exact absurd hc (by decide)
 ·have e':bl u=X:=by injection e
  obtain ⟨cs',c1,_⟩:=(h1 u hu).2.2.2
  rw [e',hX] at c1
  injection c1 with c1
  injection c1 with _ c1 _
  exact absurd c1 (by decide)
theorem St4.append {w0 w w2:World} {B X k n:Nat} {fa:Option Addr} {cf P cP:Nat} {bl cp:Nat→Nat} {x:Nat→Nat→Bool} (h:St4 w0 w B X k n fa cf P cP bl cp x) {F c g cap:Nat} {xs:List Value} (ho:w.ownsRow B 72 1 (.slice fa k cf) k xs) (h1:∀ u,u<k→xs[u]?=some (.slice (some ⟨bl u,0,none⟩) n (cp u))∧B≤bl u∧(n≤cp u∧cp u≤maxLen)∧FlW w (bl u) n (x u)) (h2:∀ i j,i<k→j<k→bl i=bl j→i=j)
  (hF:FlW w F n (x k)) (hne:∀ u,u<k→bl u≠F) (hFP:F≠P) (hFB:B≤F) (hc:n≤c∧c≤maxLen) (hg:w.grownBy w2 (Value.slice fa k cf).ownBlock)
  (ho2:w2.ownsRow B 72 1 (.slice (some ⟨g,0,none⟩) (k+1) cap) (k+1) (xs++[.slice (some ⟨F,0,none⟩) n c])) :
  w2.heap[X]?=some (.cells #[.slice fa k cf,.slice (some ⟨P,0,none⟩) n cP] 81 (0,0))∧∀ w3,w3=w2.setCell ⟨X,0,none⟩ (.slice (some ⟨g,0,none⟩) (k+1) cap)→St4 w0 w3 B X (k+1) n (some ⟨g,0,none⟩) cap P cP (setR bl k F) (setR cp k c) x:=by
 have hX2:w2.heap[X]?=some (.cells #[.slice fa k cf,.slice (some ⟨P,0,none⟩) n cP] 81 (0,0)):=(hg.block X (heap_lt h.box) (fun e=>by
  obtain ⟨cur,hcur⟩:=ownBlock_row ho X e.symm
  rw [h.box] at hcur
  injection hcur with hcur
  injection hcur with _ hcur _
  exact absurd hcur (by decide))).trans h.box
 refine ⟨hX2,?_⟩
 rintro w3 rfl
 have hgs:w2.grownBy (w2.setCell ⟨X,0,none⟩ (.slice (some ⟨g,0,none⟩) (k+1) cap)) (some X):=Lib.grownBy_setCell _ _ _ _
 have hp2:=h.pl.keep (hg.block P h.pl.lt (h.pl.not_row ho))
 refine ⟨(heap_setCell_same _ _ _ _ _ _ hX2).trans rfl,(Rows4.more ho h1 h2 hF hne hFB hc hg ho2).boxed hX2 hgs,hp2.keep (hgs.block P hp2.lt (fun e=>?_)),fun u hu=>?_,h.oP,h.oX,h.cP,(h.below.grown hg (by rw [h.base];exact (h.base ▸ h.below).size) (fun j hj=>(ho.lt j hj).1)).grown hgs (by rw [h.base];exact Nat.le_trans (h.base ▸ h.below).size hg.size) (fun j hj=>by injection hj with hj;rw [← hj];exact h.oX),h.base⟩
 ·have e':P=X:=by injection e
  obtain ⟨cs',c1,_⟩:=hp2
  rw [e',hX2] at c1
  injection c1 with c1
  injection c1 with _ c1 _
  exact absurd c1 (by decide)
 ·by_cases huk:u=k
  ·subst huk
   rw [setR_at]
   exact hFP
  ·rw [setR_ne _ _ _ huk]
   exact h.ne u (by omega)
theorem S4.move {w w':World} {B T n:Nat} {m:M4} {S:Nat→Nat→Bool} (h:S4 w B T n m S) (hb:∀ k,B≤k→w'.heap[k]?=w.heap[k]?):S4 w' B T n m S :=
 ⟨h.fa,fun h0=>by
  obtain ⟨cur,h1,h2⟩:=h.row h0
  exact ⟨cur,(hb _ (h.og h0)).trans h1,h2⟩,h.cf,fun v hv=>(h.fl v hv).keep (hb _ (h.own v hv)),h.cp,h.inj,h.own,h.og⟩
theorem S4.lower {w:World} {B B' T n:Nat} {m:M4} {S:Nat→Nat→Bool} (h:S4 w B T n m S) (hB:B'≤B):S4 w B' T n m S :=
 ⟨h.fa,h.row,h.cf,h.fl,h.cp,h.inj,fun v hv=>Nat.le_trans hB (h.own v hv),fun h0=>Nat.le_trans hB (h.og h0)⟩
theorem load_st {W:World} {g:Nat} {cs:Array Value} (h:W.heap[g]?=some (.cells cs 81 (0,0))) (hz:cs.size=2):(loadVar 81 ⟨g,0,none⟩).run Tryz.prog W=.ok (.agg cs) W :=
 run_loadVar_row _ _ _ _ cs (0,0) _ h Tryz.underlying81 rfl (by rw [hz];kernel_rfl)
theorem l4Start_any (T n:Nat) (w:World) (hT:T≤6) (hn:n≤1000000) :
  Calls Tryz.prog 83 #[.int .i64 T,.int .i64 n] w fun E w'=>∃ m:M4,E=.returned (m.val T n)∧S4 w' w.heap.size T n m (fun _ _=>false)∧Below w.heap.size w w':=by
 obtain ⟨i0,hi,hzz0,hzz1,hzz2⟩:=info_parts Tryz.infoBools
 have HI:=Lib.hid hi
 have HZ0:=Lib.hid hzz0
 have HZ1:=Lib.hid hzz1
 have HZ2:=Lib.hid hzz2
 have HMK:Hid (∀ W:World,_):=Lib.hid (fun W=>run_make_row' (P:=Tryz.prog) 72 4 (.bool false) 1 Tryz.underlying72 Tryz.infoBool rfl .i64 .i64 n (by omega) (by omega) W)
 clear hi hzz0 hzz1 hzz2
 have hmk:=HMK.out (w.alloc (.cells #[.slice none 0 0,.slice none 0 0] 81))
 go_enter Tryz.func83,Tryz.ntmps83
 go_wp2_with fail
 clear hmk
 have hz1:(w.alloc (.cells #[.slice none 0 0,.slice none 0 0] 81)).heap.size=w.heap.size+1:=by simp
 have hr1:=heap_alloc_new w (.cells #[.slice none 0 0,.slice none 0 0] 81)
 generalize hw1:w.alloc (.cells #[.slice none 0 0,.slice none 0 0] 81)=w1 at *
 have hbw1:Below w.heap.size w w1:=by rw [← hw1];exact (Below.refl _ _).alloc (Nat.le_refl _) _
 clear hw1
 have hfl:=(FlAt.made w1 n).wide
 have hb2:=(Below.refl w1.heap.size w1).alloc (Nat.le_refl _) (.cells (madeCells #[.bool false] n) 4)
 have hz2:(w1.alloc (.cells (madeCells #[.bool false] n) 4)).heap.size=w1.heap.size+1:=by simp
 generalize w1.alloc (.cells (madeCells #[.bool false] n) 4)=w2 at *
 have hx:=heap_alloc_new w2 (.cells #[.slice none 0 0,.slice (some ⟨w.heap.size+1,0,none⟩) n n] 81)
 have hb3:=(Below.refl w2.heap.size w2).alloc (Nat.le_refl _) (.cells #[.slice none 0 0,.slice (some ⟨w.heap.size+1,0,none⟩) n n] 81)
 generalize w2.alloc (.cells #[.slice none 0 0,.slice (some ⟨w.heap.size+1,0,none⟩) n n] 81)=w3 at *
 rw [hz2,hz1] at hx
 rw [hz1] at hfl
 have hb13:Below w1.heap.size w1 w3:=hb2.trans (hb3.mono (by omega))
 have HS0:Hid (St4 w1 w3 (w.heap.size+1) (w.heap.size+1+1) 0 n none 0 (w.heap.size+1) n (fun _=>0) (fun _=>0) (fun _ _=>false)):=Lib.hid
  ⟨hx,⟨[],⟨rfl,.inl ⟨rfl,rfl⟩⟩,fun u hu=>absurd hu (Nat.not_lt_zero _),fun i j hi=>absurd hi (Nat.not_lt_zero _)⟩,hfl.keep (hb3.block _ hfl.lt),fun u hu=>absurd hu (Nat.not_lt_zero _),Nat.le_refl _,by omega,⟨Nat.le_refl _,by unfold maxLen;omega⟩,by rw [← hz1];exact hb13,hz1.symm⟩
 have HR0:=Lib.hid ((hb13.block w.heap.size (by omega)).trans hr1)
 have HW1:=Lib.hid hbw1
 have HZ9:=Lib.hid hz1
 clear hx hb3 hb2 hz2 hfl hb13 hr1 hbw1 hz1
 go_loopw [6] (fun i wr=>∃ (k:Nat) (fa:Option Addr) (cf:Nat) (bl cp:Nat→Nat),i=.int .i64 k∧k≤T∧Hid (St4 w1 wr (w.heap.size+1) (w.heap.size+1+1) k n fa cf (w.heap.size+1) n bl cp (fun _ _=>false))∧Hid (wr.heap[w.heap.size]?=some (.cells #[.slice none 0 0,.slice none 0 0] 81 (0,0)))) (fun i _=>T-(intOf i).toNat)
 case atStart=>exact ⟨0,none,0,_,_,rfl,Nat.zero_le _,HS0,HR0⟩
 case round =>
  clear HS0 HR0
  obtain ⟨k,fa,cf,bl,cp,rfl,hk,HS,HR⟩:=hrel
  by_cases hlt:k<T
  ·go_upto_region 5 with fail
   refine wp_region_held_drew (S:=fun _=>True) (by kernel_rfl) trivial (fun hHeld=>?_)
   replace HS:=Lib.hid HS.out.drew
   replace HR:Hid (wr.drew.heap[w.heap.size]?=some (.cells #[.slice none 0 0,.slice none 0 0] 81 (0,0))):=HR
   generalize wr.drew=wd at *
   refine tkd (i:=0) (v:=.pointer (some ⟨w.heap.size+1+1,0,none⟩)) rfl hHeld ?_
   try simp only [Act.put,sA,sB,sC]
   refine tkd (i:=2) (v:=.int .i64 (n:Int)) rfl hHeld ?_
   try simp only [Act.put,sA,sB,sC]
   refine wpAnyH_ready (rs:=[1,3]) (by kernel_rfl) (by simp) ?_
   refine AllReadyH.cons (o:=⟨_,_,_,_,_,_⟩) rfl (fun K hK=>?_) ?_
   ·skip
    have h9:wd.cell? ⟨w.heap.size+1+1,0,none⟩=some (.slice fa k cf):=(cB HS.out.box 0).trans rfl
    go_simp
    refine hK.out _ _ trivial (fun hHeld=>?_)
    clear hK K h9
    refine wpAnyH_ready (rs:=[3]) (by kernel_rfl) (by simp) ?_
    refine AllReadyH.cons (o:=⟨_,_,_,_,_,_⟩) rfl (fun K hK=>?_) AllReadyH.nil
    have hmk:=HMK.out wd
    go_simp
    refine hK.out _ _ trivial (fun hHeld=>?_)
    have HFL:=Lib.hid (FlAt.made wd n).wide
    have hbm:=(Below.refl wd.heap.size wd).alloc (Nat.le_refl _) (.cells (madeCells #[.bool false] n) 4)
    have hzm:(wd.alloc (.cells (madeCells #[.bool false] n) 4)).heap.size=wd.heap.size+1:=by simp
    have HNE:Hid (∀ u,u<k→bl u≠wd.heap.size):=Lib.hid (fun u hu e=>by have:=HS.out.rows.lt hu;omega)
    have HFP:Hid (wd.heap.size≠w.heap.size+1):=Lib.hid (fun e=>by have:=HS.out.pl.lt;omega)
    have HFB:Hid (w.heap.size+1≤wd.heap.size):=Lib.hid (by have:=HS.out.pl.lt;omega)
    replace HS:=Lib.hid (HS.out.keep hbm)
    replace HR:=Lib.hid ((hbm.block w.heap.size (heap_lt HR.out)).trans HR.out)
    have HZM:=Lib.hid hzm
    generalize wd.alloc (.cells (madeCells #[.bool false] n) 4)=wm at *
    clear hK K hmk hbm hzm
    refine wpAnyH_ready (rs:=[4]) (by kernel_rfl) (by simp) ?_
    refine AllReadyH.cons (o:=⟨_,_,_,_,_,_⟩) rfl (fun K hK=>?_) AllReadyH.nil
    go_simp
    have hnw:=heap_alloc_new wm (.cells #[.slice (some ⟨wd.heap.size,0,none⟩) n n] 72)
    have hbn:=(Below.refl wm.heap.size wm).alloc (Nat.le_refl _) (.cells #[.slice (some ⟨wd.heap.size,0,none⟩) n n] 72)
    have hzn:(wm.alloc (.cells #[.slice (some ⟨wd.heap.size,0,none⟩) n n] 72)).heap.size=wm.heap.size+1:=by simp
    refine hK.out _ _ trivial (fun hHeld=>?_)
    replace HS:=Lib.hid (HS.out.keep hbn)
    replace HR:=Lib.hid ((hbn.block w.heap.size (heap_lt HR.out)).trans HR.out)
    replace HFL:=Lib.hid (HFL.out.keep (hbn.block _ HFL.out.lt))
    have HNW:=Lib.hid hnw
    have HZN:=Lib.hid hzn
    generalize wm.alloc (.cells #[.slice (some ⟨wd.heap.size,0,none⟩) n n] 72)=wn at *
    clear hK K hnw hbn hzn
    refine wpAnyH_ready (rs:=[5]) (by kernel_rfl) (by simp) ?_
    refine AllReadyH.cons (o:=⟨_,_,_,_,_,_⟩) rfl (fun K hK=>?_) AllReadyH.nil
    obtain ⟨xs,ho,h1,h2⟩:=HS.out.rows
    have HO:=Lib.hid ho
    have H1:=Lib.hid h1
    have H2:=Lib.hid h2
    clear ho h1 h2
    refine step_append_lies _ rfl _ _ 65 rfl (w.heap.size+1) 72 i0 (.slice none 0 0) 1 24 Tryz.underlying65 HI.out HZ0.out HZ1.out HZ2.out rfl (by decide) _ _ _ rfl HO.out ⟨wm.heap.size,0,none⟩ 1 1 [.slice (some ⟨wd.heap.size,0,none⟩) n n] rfl rfl (World.news_of_block HNW.out) (by intro u9 hu9;simp only [List.mem_cons,List.not_mem_nil,or_false] at hu9;subst hu9;rfl) (by decide) (by unfold maxLen;omega) (by omega) (by have:=HZN.out;have:=HZM.out;have:=HFB.out;omega) _ rfl ?_
    intro g9 cap9 w9 hown9 hgg9 hat9 hlt9
    refine hK.out _ _ trivial (fun hHeld=>?_)
    have hap:=HS.out.append HO.out H1.out H2.out HFL.out HNE.out HFP.out HFB.out ⟨Nat.le_refl _,by unfold maxLen;omega⟩ hgg9 hown9
    have HAP:=Lib.hid hap.2
    have HBX:=Lib.hid hap.1
    replace HR:=Lib.hid ((hgg9.block w.heap.size (heap_lt HR.out) (fun e=>by have:=(HO.out.lt _ e.symm).1;omega)).trans HR.out)
    clear hK K hown9 hgg9 hat9 hlt9 hap HO H1 H2
    refine tkd (i:=6) (v:=.pointer (some ⟨w.heap.size+1+1,0,none⟩)) rfl hHeld ?_
    try simp only [Act.put,sA,sB,sC]
    refine wpAnyH_ready (rs:=[7]) (by kernel_rfl) (by simp) ?_
    refine AllReadyH.cons (o:=⟨_,_,_,_,_,_⟩) rfl (fun K hK=>?_) AllReadyH.nil
    have c9:w9.cell? ⟨w.heap.size+1+1,0,none⟩=some (.slice fa k cf):=(cB HBX.out 0).trans rfl
    have f9:w9.frozen? ⟨w.heap.size+1+1,0,none⟩=false:=frozen_of_row _ _ _ _ _ HBX.out
    go_simp
    refine hK.out _ _ trivial (fun hHeld=>?_)
    have HS2:=Lib.hid (HAP.out _ rfl)
    replace HR:=Lib.hid ((heap_setCell_other w9 ⟨w.heap.size+1+1,0,none⟩ w.heap.size (.slice (some ⟨g9,0,none⟩) (k+1) cap9) (by show w.heap.size≠w.heap.size+1+1;omega)).trans HR.out)
    clear hK K c9 f9
    refine wpAnyH_done (by kernel_rfl) ?_ _
    clear hHeld
    go_wp2_with fail
    refine ⟨⟨k+1,_,_,_,_,by simp,by omega,HS2,HR⟩,?_⟩
    simp only [intOf]
    omega
   refine AllReadyH.cons (o:=⟨_,_,_,_,_,_⟩) rfl (fun K hK=>?_) AllReadyH.nil
   have hmk:=HMK.out wd
   go_simp
   refine hK.out _ _ trivial (fun hHeld=>?_)
   have HFL:=Lib.hid (FlAt.made wd n).wide
   have hbm:=(Below.refl wd.heap.size wd).alloc (Nat.le_refl _) (.cells (madeCells #[.bool false] n) 4)
   have hzm:(wd.alloc (.cells (madeCells #[.bool false] n) 4)).heap.size=wd.heap.size+1:=by simp
   have HNE:Hid (∀ u,u<k→bl u≠wd.heap.size):=Lib.hid (fun u hu e=>by have:=HS.out.rows.lt hu;omega)
   have HFP:Hid (wd.heap.size≠w.heap.size+1):=Lib.hid (fun e=>by have:=HS.out.pl.lt;omega)
   have HFB:Hid (w.heap.size+1≤wd.heap.size):=Lib.hid (by have:=HS.out.pl.lt;omega)
   replace HS:=Lib.hid (HS.out.keep hbm)
   replace HR:=Lib.hid ((hbm.block w.heap.size (heap_lt HR.out)).trans HR.out)
   have HZM:=Lib.hid hzm
   generalize wd.alloc (.cells (madeCells #[.bool false] n) 4)=wm at *
   clear hK K hmk hbm hzm
   refine wpAnyH_ready (rs:=[1,4]) (by kernel_rfl) (by simp) ?_
   refine AllReadyH.cons (o:=⟨_,_,_,_,_,_⟩) rfl (fun K hK=>?_) ?_
   ·skip
    have h9:wm.cell? ⟨w.heap.size+1+1,0,none⟩=some (.slice fa k cf):=(cB HS.out.box 0).trans rfl
    go_simp
    refine hK.out _ _ trivial (fun hHeld=>?_)
    clear hK K h9
    refine wpAnyH_ready (rs:=[4]) (by kernel_rfl) (by simp) ?_
    refine AllReadyH.cons (o:=⟨_,_,_,_,_,_⟩) rfl (fun K hK=>?_) AllReadyH.nil
    go_simp
    have hnw:=heap_alloc_new wm (.cells #[.slice (some ⟨wd.heap.size,0,none⟩) n n] 72)
    have hbn:=(Below.refl wm.heap.size wm).alloc (Nat.le_refl _) (.cells #[.slice (some ⟨wd.heap.size,0,none⟩) n n] 72)
    have hzn:(wm.alloc (.cells #[.slice (some ⟨wd.heap.size,0,none⟩) n n] 72)).heap.size=wm.heap.size+1:=by simp
    refine hK.out _ _ trivial (fun hHeld=>?_)
    replace HS:=Lib.hid (HS.out.keep hbn)
    replace HR:=Lib.hid ((hbn.block w.heap.size (heap_lt HR.out)).trans HR.out)
    replace HFL:=Lib.hid (HFL.out.keep (hbn.block _ HFL.out.lt))
    have HNW:=Lib.hid hnw
    have HZN:=Lib.hid hzn
    generalize wm.alloc (.cells #[.slice (some ⟨wd.heap.size,0,none⟩) n n] 72)=wn at *
    clear hK K hnw hbn hzn
    refine wpAnyH_ready (rs:=[5]) (by kernel_rfl) (by simp) ?_
    refine AllReadyH.cons (o:=⟨_,_,_,_,_,_⟩) rfl (fun K hK=>?_) AllReadyH.nil
    obtain ⟨xs,ho,h1,h2⟩:=HS.out.rows
    have HO:=Lib.hid ho
    have H1:=Lib.hid h1
    have H2:=Lib.hid h2
    clear ho h1 h2
    refine step_append_lies _ rfl _ _ 65 rfl (w.heap.size+1) 72 i0 (.slice none 0 0) 1 24 Tryz.underlying65 HI.out HZ0.out HZ1.out HZ2.out rfl (by decide) _ _ _ rfl HO.out ⟨wm.heap.size,0,none⟩ 1 1 [.slice (some ⟨wd.heap.size,0,none⟩) n n] rfl rfl (World.news_of_block HNW.out) (by intro u9 hu9;simp only [List.mem_cons,List.not_mem_nil,or_false] at hu9;subst hu9;rfl) (by decide) (by unfold maxLen;omega) (by omega) (by have:=HZN.out;have:=HZM.out;have:=HFB.out;omega) _ rfl ?_
    intro g9 cap9 w9 hown9 hgg9 hat9 hlt9
    refine hK.out _ _ trivial (fun hHeld=>?_)
    have hap:=HS.out.append HO.out H1.out H2.out HFL.out HNE.out HFP.out HFB.out ⟨Nat.le_refl _,by unfold maxLen;omega⟩ hgg9 hown9
    have HAP:=Lib.hid hap.2
    have HBX:=Lib.hid hap.1
    replace HR:=Lib.hid ((hgg9.block w.heap.size (heap_lt HR.out) (fun e=>by have:=(HO.out.lt _ e.symm).1;omega)).trans HR.out)
    clear hK K hown9 hgg9 hat9 hlt9 hap HO H1 H2
    refine tkd (i:=6) (v:=.pointer (some ⟨w.heap.size+1+1,0,none⟩)) rfl hHeld ?_
    try simp only [Act.put,sA,sB,sC]
    refine wpAnyH_ready (rs:=[7]) (by kernel_rfl) (by simp) ?_
    refine AllReadyH.cons (o:=⟨_,_,_,_,_,_⟩) rfl (fun K hK=>?_) AllReadyH.nil
    have c9:w9.cell? ⟨w.heap.size+1+1,0,none⟩=some (.slice fa k cf):=(cB HBX.out 0).trans rfl
    have f9:w9.frozen? ⟨w.heap.size+1+1,0,none⟩=false:=frozen_of_row _ _ _ _ _ HBX.out
    go_simp
    refine hK.out _ _ trivial (fun hHeld=>?_)
    have HS2:=Lib.hid (HAP.out _ rfl)
    replace HR:=Lib.hid ((heap_setCell_other w9 ⟨w.heap.size+1+1,0,none⟩ w.heap.size (.slice (some ⟨g9,0,none⟩) (k+1) cap9) (by show w.heap.size≠w.heap.size+1+1;omega)).trans HR.out)
    clear hK K c9 f9
    refine wpAnyH_done (by kernel_rfl) ?_ _
    clear hHeld
    go_wp2_with fail
    refine ⟨⟨k+1,_,_,_,_,by simp,by omega,HS2,HR⟩,?_⟩
    simp only [intOf]
    omega
   refine AllReadyH.cons (o:=⟨_,_,_,_,_,_⟩) rfl (fun K hK=>?_) AllReadyH.nil
   go_simp
   have hnw:=heap_alloc_new wm (.cells #[.slice (some ⟨wd.heap.size,0,none⟩) n n] 72)
   have hbn:=(Below.refl wm.heap.size wm).alloc (Nat.le_refl _) (.cells #[.slice (some ⟨wd.heap.size,0,none⟩) n n] 72)
   have hzn:(wm.alloc (.cells #[.slice (some ⟨wd.heap.size,0,none⟩) n n] 72)).heap.size=wm.heap.size+1:=by simp
   refine hK.out _ _ trivial (fun hHeld=>?_)
   replace HS:=Lib.hid (HS.out.keep hbn)
   replace HR:=Lib.hid ((hbn.block w.heap.size (heap_lt HR.out)).trans HR.out)
   replace HFL:=Lib.hid (HFL.out.keep (hbn.block _ HFL.out.lt))
   have HNW:=Lib.hid hnw
   have HZN:=Lib.hid hzn
   generalize wm.alloc (.cells #[.slice (some ⟨wd.heap.size,0,none⟩) n n] 72)=wn at *
   clear hK K hnw hbn hzn
   refine wpAnyH_ready (rs:=[1]) (by kernel_rfl) (by simp) ?_
   refine AllReadyH.cons (o:=⟨_,_,_,_,_,_⟩) rfl (fun K hK=>?_) AllReadyH.nil
   have h9:wn.cell? ⟨w.heap.size+1+1,0,none⟩=some (.slice fa k cf):=(cB HS.out.box 0).trans rfl
   go_simp
   refine hK.out _ _ trivial (fun hHeld=>?_)
   clear hK K h9
   refine wpAnyH_ready (rs:=[5]) (by kernel_rfl) (by simp) ?_
   refine AllReadyH.cons (o:=⟨_,_,_,_,_,_⟩) rfl (fun K hK=>?_) AllReadyH.nil
   obtain ⟨xs,ho,h1,h2⟩:=HS.out.rows
   have HO:=Lib.hid ho
   have H1:=Lib.hid h1
   have H2:=Lib.hid h2
   clear ho h1 h2
   refine step_append_lies _ rfl _ _ 65 rfl (w.heap.size+1) 72 i0 (.slice none 0 0) 1 24 Tryz.underlying65 HI.out HZ0.out HZ1.out HZ2.out rfl (by decide) _ _ _ rfl HO.out ⟨wm.heap.size,0,none⟩ 1 1 [.slice (some ⟨wd.heap.size,0,none⟩) n n] rfl rfl (World.news_of_block HNW.out) (by intro u9 hu9;simp only [List.mem_cons,List.not_mem_nil,or_false] at hu9;subst hu9;rfl) (by decide) (by unfold maxLen;omega) (by omega) (by have:=HZN.out;have:=HZM.out;have:=HFB.out;omega) _ rfl ?_
   intro g9 cap9 w9 hown9 hgg9 hat9 hlt9
   refine hK.out _ _ trivial (fun hHeld=>?_)
   have hap:=HS.out.append HO.out H1.out H2.out HFL.out HNE.out HFP.out HFB.out ⟨Nat.le_refl _,by unfold maxLen;omega⟩ hgg9 hown9
   have HAP:=Lib.hid hap.2
   have HBX:=Lib.hid hap.1
   replace HR:=Lib.hid ((hgg9.block w.heap.size (heap_lt HR.out) (fun e=>by have:=(HO.out.lt _ e.symm).1;omega)).trans HR.out)
   clear hK K hown9 hgg9 hat9 hlt9 hap HO H1 H2
   refine tkd (i:=6) (v:=.pointer (some ⟨w.heap.size+1+1,0,none⟩)) rfl hHeld ?_
   try simp only [Act.put,sA,sB,sC]
   refine wpAnyH_ready (rs:=[7]) (by kernel_rfl) (by simp) ?_
   refine AllReadyH.cons (o:=⟨_,_,_,_,_,_⟩) rfl (fun K hK=>?_) AllReadyH.nil
   have c9:w9.cell? ⟨w.heap.size+1+1,0,none⟩=some (.slice fa k cf):=(cB HBX.out 0).trans rfl
   have f9:w9.frozen? ⟨w.heap.size+1+1,0,none⟩=false:=frozen_of_row _ _ _ _ _ HBX.out
   go_simp
   refine hK.out _ _ trivial (fun hHeld=>?_)
   have HS2:=Lib.hid (HAP.out _ rfl)
   replace HR:=Lib.hid ((heap_setCell_other w9 ⟨w.heap.size+1+1,0,none⟩ w.heap.size (.slice (some ⟨g9,0,none⟩) (k+1) cap9) (by show w.heap.size≠w.heap.size+1+1;omega)).trans HR.out)
   clear hK K c9 f9
   refine wpAnyH_done (by kernel_rfl) ?_ _
   clear hHeld
   go_wp2_with fail
   refine ⟨⟨k+1,_,_,_,_,by simp,by omega,HS2,HR⟩,?_⟩
   simp only [intOf]
   omega
  ·have hke:k=T:=by omega
   subst hke
   have x0:wr.cell? ⟨w.heap.size+1+1,0,none⟩=some (.slice fa k cf):=(cB HS.out.box 0).trans rfl
   have x1:wr.cell? ⟨w.heap.size+1+1,1,none⟩=some (.slice (some ⟨w.heap.size+1,0,none⟩) n n):=(cB HS.out.box 1).trans rfl
   have y0:wr.cell? ⟨w.heap.size,0,none⟩=some (.slice none 0 0):=(cB HR.out 0).trans rfl
   have y1:wr.cell? ⟨w.heap.size,1,none⟩=some (.slice none 0 0):=(cB HR.out 1).trans rfl
   have z0:wr.frozen? ⟨w.heap.size,0,none⟩=false:=frozen_of_row _ _ _ _ _ HR.out
   have z1:wr.frozen? ⟨w.heap.size,1,none⟩=false:=frozen_of_row _ _ _ _ _ HR.out
   go_wp2_with fail
   have hd:=HS.out.done hT
   have e1:=(heap_setCell_same wr w.heap.size 0 _ _ (.slice fa k cf) HR.out).trans rfl
   have hrr:((wr.setCell ⟨w.heap.size,0,none⟩ (.slice fa k cf)).setCell ⟨w.heap.size,1,none⟩ (.slice (some ⟨w.heap.size+1,0,none⟩) n n)).heap[w.heap.size]?=some (.cells #[.slice fa k cf,.slice (some ⟨w.heap.size+1,0,none⟩) n n] 81 (0,0)):=(heap_setCell_same _ w.heap.size 1 _ _ _ e1).trans rfl
   have hmv:∀ j,w.heap.size+1≤j→((wr.setCell ⟨w.heap.size,0,none⟩ (.slice fa k cf)).setCell ⟨w.heap.size,1,none⟩ (.slice (some ⟨w.heap.size+1,0,none⟩) n n)).heap[j]?=wr.heap[j]?:=fun j hj=>(heap_setCell_other _ _ _ _ (by show j≠w.heap.size;omega)).trans (heap_setCell_other _ _ _ _ (by show j≠w.heap.size;omega))
   have hbf:Below w.heap.size w ((wr.setCell ⟨w.heap.size,0,none⟩ (.slice fa k cf)).setCell ⟨w.heap.size,1,none⟩ (.slice (some ⟨w.heap.size+1,0,none⟩) n n)):=below_set (below_set (HW1.out.trans (HS.out.below.mono (by omega))) (Nat.le_refl _)) (Nat.le_refl _)
   refine bodyPost_ret (v:=.agg #[.slice fa k cf,.slice (some ⟨w.heap.size+1,0,none⟩) n n]) ?_ rfl ⟨_,rfl,(hd.move hmv).lower (by omega),hbf⟩
   exact results_cell rfl Tryz.prog _ _ w.heap.size _ rfl (load_st hrr rfl)
theorem news_flags {w:World} {F n:Nat} {fl:Nat→Bool} (h:FlW w F n fl):∀ j u,(((List.range n).map fun i=>Value.bool (fl i))[j]?=some u)→w.cell? ((⟨F,0,none⟩:Addr).add j)=some u:=by
 intro j u hj
 have hjT:j<n:=by
  have:=(List.getElem?_eq_some_iff.mp hj).1
  simpa using this
 rw [add_block,Nat.zero_add,h.cell hjT]
 rw [List.getElem?_map,List.getElem?_range hjT] at hj
 simpa using hj
theorem ones_flags (fl:Nat→Bool) (n:Nat):∀ u∈((List.range n).map fun i=>Value.bool (fl i)),u.oneCell'=true:=by
 intro u hu
 obtain ⟨k,_,rfl⟩:=List.mem_map.mp hu
 rfl
theorem flw_of_row {w:World} {B g cap n:Nat} {fl:Nat→Bool} (hn:0<n) (h:w.ownsRow B 4 1 (.slice (some ⟨g,0,none⟩) n cap) n ([]++(List.range n).map fun i=>Value.bool (fl i))):FlW w g n fl∧n≤cap∧cap≤maxLen:=by
 rcases h.2 with ⟨_,e⟩ | ⟨g',cap',cur,hv,hB,hg,h4,h5,hsz,htk⟩
 ·omega
 ·simp only [Value.slice.injEq,Option.some.injEq,Addr.mk.injEq] at hv
  obtain ⟨⟨rfl,_⟩,_,rfl⟩:=hv
  refine ⟨⟨cur,hg,by omega,fun i hi=>?_⟩,h4,h5⟩
  have e:(cur.toList.take (n*1))[i]?=some (.bool (fl i)):=by
   rw [htk,List.nil_append,List.getElem?_map,List.getElem?_range hi]
   rfl
  rw [List.getElem?_take,if_pos (by omega)] at e
  simpa using e
theorem l4Copy_any (B0 T n:Nat) (m:M4) (S:Nat→Nat→Bool) (w:World) (hT:T≤6) (hn0:0<n) (hn:n≤61) (h:S4 w B0 T n m S) :
  Calls Tryz.prog 107 #[m.val T n] w fun E w'=>∃ m':M4,E=.returned (m'.val T n)∧S4 w' w.heap.size T n m' S∧Below w.heap.size w w':=by
 obtain ⟨i0,hi,hzz0,hzz1,hzz2⟩:=info_parts Tryz.infoBools
 have HI:=Lib.hid hi
 have HZ0:=Lib.hid hzz0
 have HZ1:=Lib.hid hzz1
 have HZ2:=Lib.hid hzz2
 clear hi hzz0 hzz1 hzz2
 obtain ⟨j0,hi,hzz0,hzz1,hzz2⟩:=info_parts Tryz.infoBool
 have HJ:=Lib.hid hi
 have HJ0:=Lib.hid hzz0
 have HJ1:=Lib.hid hzz1
 have HJ2:=Lib.hid hzz2
 clear hi hzz0 hzz1 hzz2
 have hb2:Below w.heap.size w ((w.alloc (.cells #[.slice m.fa T m.cf,.slice (some ⟨m.bl 6,0,none⟩) n (m.cp 6)] 81)).alloc (.cells #[.slice none 0 0,.slice none 0 0] 81)):=((Below.refl w.heap.size w).alloc (Nat.le_refl _) _).alloc (by simp) _
 have hz2:((w.alloc (.cells #[.slice m.fa T m.cf,.slice (some ⟨m.bl 6,0,none⟩) n (m.cp 6)] 81)).alloc (.cells #[.slice none 0 0,.slice none 0 0] 81)).heap.size=w.heap.size+1+1:=by simp
 have hz1:(w.alloc (.cells #[.slice m.fa T m.cf,.slice (some ⟨m.bl 6,0,none⟩) n (m.cp 6)] 81)).heap.size=w.heap.size+1:=by simp
 have hbx:=heap_alloc_new w (.cells #[.slice m.fa T m.cf,.slice (some ⟨m.bl 6,0,none⟩) n (m.cp 6)] 81)
 have hbx2:=(((Below.refl _ _).alloc (Nat.le_refl _) (.cells #[.slice none 0 0,.slice none 0 0] 81):Below (w.alloc (.cells #[.slice m.fa T m.cf,.slice (some ⟨m.bl 6,0,none⟩) n (m.cp 6)] 81)).heap.size _ _).block w.heap.size (by omega)).trans hbx
 have hrs:=heap_alloc_new (w.alloc (.cells #[.slice m.fa T m.cf,.slice (some ⟨m.bl 6,0,none⟩) n (m.cp 6)] 81)) (.cells #[.slice none 0 0,.slice none 0 0] 81)
 rw [hz1] at hrs
 have hS:=h.keep hb2
 have hbe:=(Below.refl _ _).alloc (Nat.le_refl _) (.cells #[] 4) (w:=((w.alloc (.cells #[.slice m.fa T m.cf,.slice (some ⟨m.bl 6,0,none⟩) n (m.cp 6)] 81)).alloc (.cells #[.slice none 0 0,.slice none 0 0] 81)))
 have hemp:=heap_alloc_new ((w.alloc (.cells #[.slice m.fa T m.cf,.slice (some ⟨m.bl 6,0,none⟩) n (m.cp 6)] 81)).alloc (.cells #[.slice none 0 0,.slice none 0 0] 81)) (.cells #[] 4)
 rw [hz2] at hemp
 have hF1:=(hS.fl 6 (.inr rfl)).keep (hbe.block _ (hS.fl 6 (.inr rfl)).lt)
 have hze:(((w.alloc (.cells #[.slice m.fa T m.cf,.slice (some ⟨m.bl 6,0,none⟩) n (m.cp 6)] 81)).alloc (.cells #[.slice none 0 0,.slice none 0 0] 81)).alloc (.cells #[] 4)).heap.size=w.heap.size+1+1+1:=by simp
 have HL0:=Lib.hid hemp
 have HF1:=Lib.hid hF1
 have HB2:=Lib.hid hb2
 have HZ:=Lib.hid hz2
 have HBX:=Lib.hid hbx2
 have HRS:=Lib.hid hrs
 have HSRC:=Lib.hid hS
 have HBE:=Lib.hid hbe
 have HZE:=Lib.hid hze
 clear hb2 hz2 hz1 hbx hbx2 hrs hS hbe hemp hF1 hze h
 unfold M4.val
 go_enter Tryz.func107,Tryz.ntmps107
 go_wp2_with (at_builtin;refine wpList_append_flags rfl _ _ rfl (w.heap.size+1+1) (m.bl 6) (m.cp 6) n (S 6) rfl HL0.out rfl HF1.out (by omega) ?_)
 intro P cP w1 hG hcap hcm hGl hgr
 have HG:=Lib.hid hG
 have HGR:=Lib.hid hgr
 clear hG hgr HF1 HL0
 go_wp2_with fail
 generalize ((w.alloc (.cells #[.slice m.fa T m.cf,.slice (some ⟨m.bl 6,0,none⟩) n (m.cp 6)] 81)).alloc (.cells #[.slice none 0 0,.slice none 0 0] 81))=W1 at *
 have hgs:=HGR.out.size
 rw [HZE.out] at hgs
 have hbo:=HBE.out.grown HGR.out (by have:=HZ.out;have:=HZE.out;omega) (fun j hj=>by cases hj)
 obtain ⟨X,hX⟩:∃ X,X=w1.heap.size:=⟨_,rfl⟩
 rw [← hX]
 have hbx:=heap_alloc_new w1 (.cells #[.slice none 0 0,.slice (some ⟨P,0,none⟩) n cP] 81)
 have hba:=(Below.refl w1.heap.size w1).alloc (Nat.le_refl _) (.cells #[.slice none 0 0,.slice (some ⟨P,0,none⟩) n cP] 81)
 rw [← hX] at hbx
 have HZ1':=HZ.out
 have HS0:Hid (St4 W1 (w1.alloc (.cells #[.slice none 0 0,.slice (some ⟨P,0,none⟩) n cP] 81)) W1.heap.size X 0 n none 0 P cP (fun _=>0) (fun _=>0) S):=Lib.hid
  ⟨hbx,⟨[],⟨rfl,.inl ⟨rfl,rfl⟩⟩,fun u hu=>absurd hu (Nat.not_lt_zero _),fun i j hi=>absurd hi (Nat.not_lt_zero _)⟩,HG.out.keep (hba.block _ HG.out.lt),fun u hu=>absurd hu (Nat.not_lt_zero _),by omega,by omega,⟨hcap,hcm⟩,hbo.trans (hba.mono (by omega)),rfl⟩
 generalize w1.alloc (.cells #[.slice none 0 0,.slice (some ⟨P,0,none⟩) n cP] 81)=w2 at *
 clear hbx hba hbo hX hgs HGR HG HBE HZE HZ1' hcap hcm hGl
 go_loopw [4] (fun i wr=>∃ (k:Nat) (fa:Option Addr) (cf:Nat) (bl cp:Nat→Nat),i=.int .i64 k∧k≤T∧Hid (St4 W1 wr W1.heap.size X k n fa cf P cP bl cp S)) (fun i _=>T-(intOf i).toNat)
 case atStart=>exact ⟨0,none,0,_,_,rfl,Nat.zero_le _,HS0⟩
 case round =>
  clear HS0
  obtain ⟨k,fa,cf,bl,cp,rfl,hk,HS⟩:=hrel
  have HLW:Hid (w.heap.size<W1.heap.size):=Lib.hid (by have:=HZ.out;omega)
  have hbz:Below W1.heap.size W1 wr:=HS.out.below
  have HQ0:Hid (W1.cell? ⟨w.heap.size,0,none⟩=some (.slice m.fa T m.cf)):=Lib.hid ((cB HBX.out 0).trans rfl)
  have q0:=(hbz.cell (p:=⟨w.heap.size,0,none⟩) HLW.out).trans HQ0.out
  by_cases hlt:k<T
  ·have hfa:=HSRC.out.fa (by omega)
   replace HQ0:Hid (W1.cell? ⟨w.heap.size,0,none⟩=some (.slice (some ⟨m.g,0,none⟩) T m.cf)):=Lib.hid (by rw [← hfa];exact HQ0.out)
   have HQ1:=Lib.hid (HSRC.out.slot hlt)
   have HLG:Hid (m.g<W1.heap.size):=Lib.hid (by obtain ⟨cur,h1,_⟩:=HSRC.out.row (by omega);exact heap_lt h1)
   obtain ⟨hk1,hk2⟩:=HSRC.out.cp k (.inl hlt)
   unfold maxLen at hk2
   have ki0:(0:Int)≤(k:Int):=by omega
   have ki1:(k:Int)<(T:Int):=by omega
   clear hfa
   go_upto_region 5 with fail
   refine wp_region_held_drew (S:=fun w'=>Below W1.heap.size W1 w') (by kernel_rfl) hbz.drew (fun hHeld=>?_)
   replace HS:=Lib.hid HS.out.drew
   clear hbz q0
   generalize wr.drew=wd at *
   refine tkd (i:=0) (v:=.pointer (some ⟨X,0,none⟩)) rfl hHeld ?_
   try simp only [Act.put,sA,sB,sC]
   refine tkd (i:=3) (v:=.pointer (some ⟨w.heap.size,0,none⟩)) rfl hHeld ?_
   try simp only [Act.put,sA,sB,sC]
   refine tk (i:=4) (v:=.slice (some ⟨m.g,0,none⟩) T m.cf) rfl (Or.inl ⟨by rfl,fun w9 hSw=>by have h9:=(hSw.cell (p:=⟨w.heap.size,0,none⟩) HLW.out).trans HQ0.out;go_simp⟩) hHeld ?_
   try simp only [Act.put,sA,sB,sC]
   refine tkd (i:=5) (v:=.int .i64 (k:Int)) rfl hHeld ?_
   try simp only [Act.put,sA,sB,sC]
   refine tkd (i:=6) (v:=.pointer (some ⟨m.g,k,none⟩)) rfl hHeld ?_
   try simp only [Act.put,sA,sB,sC]
   refine tk (i:=7) (v:=.slice (some ⟨m.bl k,0,none⟩) n (m.cp k)) rfl (Or.inl ⟨by rfl,fun w9 hSw=>by have h9:=(hSw.cell (p:=⟨m.g,k,none⟩) HLG.out).trans HQ1.out;go_simp⟩) hHeld ?_
   try simp only [Act.put,sA,sB,sC]
   refine wpAnyH_ready (rs:=[1,2]) (by kernel_rfl) (by simp) ?_
   refine AllReadyH.cons (o:=⟨_,_,_,_,_,_⟩) rfl (fun K hK=>?_) ?_
   ·skip
    have h9:wd.cell? ⟨X,0,none⟩=some (.slice fa k cf):=(cB HS.out.box 0).trans rfl
    go_simp
    refine hK.out _ _ hHeld (fun hHeld=>?_)
    clear hK K h9
    refine wpAnyH_ready (rs:=[2]) (by kernel_rfl) (by simp) ?_
    refine AllReadyH.cons (o:=⟨_,_,_,_,_,_⟩) rfl (fun K hK=>?_) AllReadyH.nil
    go_simp
    have hem:=World.ownsRow_lit (base:=W1.heap.size) (e:=4) (size:=1) wd #[] 0 hHeld.size (by simp [maxLen]) rfl
    have hbm:=(Below.refl wd.heap.size wd).alloc (Nat.le_refl _) (.cells #[] 4)
    have hzm:(wd.alloc (.cells #[] 4)).heap.size=wd.heap.size+1:=by simp
    have hsz:=hHeld.size
    refine hK.out _ _ (hHeld.alloc hHeld.size (.cells #[] 4)) (fun hHeld=>?_)
    have HLB:Hid (∀ u,u<k→bl u<wd.heap.size):=Lib.hid (fun u hu=>HS.out.rows.lt hu)
    have HLP:Hid (P<wd.heap.size):=Lib.hid HS.out.pl.lt
    have HSZ:=Lib.hid hsz
    have HS0:=HS
    replace HS:=Lib.hid (HS.out.keep hbm)
    have HEM:=Lib.hid hem
    have HBM:=Lib.hid hbm
    have HZM:=Lib.hid hzm
    generalize wd.alloc (.cells #[] 4)=wm at *
    clear hK K hem hbm hzm hsz
    refine wpAnyH_ready (rs:=[8]) (by kernel_rfl) (by simp) ?_
    refine AllReadyH.cons (o:=⟨_,_,_,_,_,_⟩) rfl (fun K hK=>?_) AllReadyH.nil
    have HFK:=Lib.hid ((HSRC.out.fl k (.inl hlt)).keep (hHeld.block _ (HSRC.out.fl k (.inl hlt)).lt))
    refine step_append_lies _ rfl _ _ 72 rfl W1.heap.size 4 j0 (.bool false) 1 1 Tryz.underlying72 HJ.out HJ0.out HJ1.out HJ2.out rfl (by decide) (.slice (some ⟨wd.heap.size,0,none⟩) 0 0) 0 [] rfl HEM.out ⟨m.bl k,0,none⟩ n (m.cp k) ((List.range n).map fun i=>Value.bool (S k i)) rfl (by simp) (news_flags HFK.out) (ones_flags _ _) hn0 (by unfold maxLen;omega) (by omega) hHeld.size _ rfl ?_
    intro g8 cap8 w8 hown8 hgg8 hat8 hlt8
    rw [Nat.zero_add] at hown8
    rw [Nat.zero_add]
    have hg8:wd.heap.size≤g8:=by
     rcases hat8 with h9 | h9
     ·have hq:wd.heap.size=g8:=(by simpa [Value.ownBlock] using h9);omega
     ·have:=HZM.out;omega
    obtain ⟨hf8,hc8,hm8⟩:=flw_of_row hn0 (show _ from hown8)
    have hb8:Below wd.heap.size wd w8:=HBM.out.grown hgg8 (by have:=HZM.out;omega) (fun j hj=>by have hq:wd.heap.size=j:=(by simpa [Value.ownBlock] using hj);omega)
    refine hK.out _ _ (hHeld.grown hgg8 hHeld.size (fun j hj=>by have:=HSZ.out;have hq:wd.heap.size=j:=(by simpa [Value.ownBlock] using hj);omega)) (fun hHeld=>?_)
    replace HS:=Lib.hid (HS0.out.keep hb8)
    have HF8:=Lib.hid hf8
    have HC8:=Lib.hid hc8
    have HM8:=Lib.hid hm8
    have HG8:=Lib.hid hg8
    have HL8:=Lib.hid hlt8
    have HNE:Hid (∀ u,u<k→bl u≠g8):=Lib.hid (fun u hu e=>by have:=HLB.out u hu;have:=HG8.out;omega)
    have HFP:Hid (g8≠P):=Lib.hid (fun e=>by have:=HLP.out;have:=HG8.out;omega)
    have HFB:Hid (W1.heap.size≤g8):=Lib.hid (by have:=HSZ.out;have:=HG8.out;omega)
    clear hK K hown8 hgg8 hat8 hlt8 hb8 hf8 hc8 hm8 hg8 HEM HBM HFK HLB HLP HSZ
    refine wpAnyH_ready (rs:=[9]) (by kernel_rfl) (by simp) ?_
    refine AllReadyH.cons (o:=⟨_,_,_,_,_,_⟩) rfl (fun K hK=>?_) AllReadyH.nil
    go_simp
    have hnw:=heap_alloc_new w8 (.cells #[.slice (some ⟨g8,0,none⟩) n cap8] 72)
    have hbn:=(Below.refl w8.heap.size w8).alloc (Nat.le_refl _) (.cells #[.slice (some ⟨g8,0,none⟩) n cap8] 72)
    have hzn:(w8.alloc (.cells #[.slice (some ⟨g8,0,none⟩) n cap8] 72)).heap.size=w8.heap.size+1:=by simp
    refine hK.out _ _ (hHeld.alloc hHeld.size (.cells #[.slice (some ⟨g8,0,none⟩) n cap8] 72)) (fun hHeld=>?_)
    replace HS:=Lib.hid (HS.out.keep hbn)
    replace HF8:=Lib.hid (HF8.out.keep (hbn.block _ HF8.out.lt))
    have HNW:=Lib.hid hnw
    have HZN:=Lib.hid hzn
    generalize w8.alloc (.cells #[.slice (some ⟨g8,0,none⟩) n cap8] 72)=wn at *
    clear hK K hnw hbn hzn
    refine wpAnyH_ready (rs:=[10]) (by kernel_rfl) (by simp) ?_
    refine AllReadyH.cons (o:=⟨_,_,_,_,_,_⟩) rfl (fun K hK=>?_) AllReadyH.nil
    obtain ⟨xs,ho,h1,h2⟩:=HS.out.rows
    have HO:=Lib.hid ho
    have H1:=Lib.hid h1
    have H2:=Lib.hid h2
    clear ho h1 h2
    refine step_append_lies _ rfl _ _ 65 rfl W1.heap.size 72 i0 (.slice none 0 0) 1 24 Tryz.underlying65 HI.out HZ0.out HZ1.out HZ2.out rfl (by decide) _ _ _ rfl HO.out ⟨w8.heap.size,0,none⟩ 1 1 [.slice (some ⟨g8,0,none⟩) n cap8] rfl rfl (World.news_of_block HNW.out) (by intro u9 hu9;simp only [List.mem_cons,List.not_mem_nil,or_false] at hu9;subst hu9;rfl) (by decide) (by unfold maxLen;omega) (by omega) hHeld.size _ rfl ?_
    intro g9 cap9 w9 hown9 hgg9 hat9 hlt9
    have hap:=HS.out.append HO.out H1.out H2.out HF8.out HNE.out HFP.out HFB.out ⟨HC8.out,HM8.out⟩ hgg9 hown9
    refine hK.out _ _ (hHeld.grown hgg9 hHeld.size (fun j hj=>(HO.out.lt j hj).1)) (fun hHeld=>?_)
    have HAP:=Lib.hid hap.2
    have HBX:=Lib.hid hap.1
    have HOX:=Lib.hid HS.out.oX
    clear hK K hown9 hgg9 hat9 hlt9 hap HO H1 H2
    refine tkd (i:=11) (v:=.pointer (some ⟨X,0,none⟩)) rfl hHeld ?_
    try simp only [Act.put,sA,sB,sC]
    refine wpAnyH_ready (rs:=[12]) (by kernel_rfl) (by simp) ?_
    refine AllReadyH.cons (o:=⟨_,_,_,_,_,_⟩) rfl (fun K hK=>?_) AllReadyH.nil
    have c9:w9.cell? ⟨X,0,none⟩=some (.slice fa k cf):=(cB HBX.out 0).trans rfl
    have f9:w9.frozen? ⟨X,0,none⟩=false:=frozen_of_row _ _ _ _ _ HBX.out
    go_simp
    refine hK.out _ _ (below_set hHeld HOX.out) (fun hHeld=>?_)
    have HS2:=Lib.hid (HAP.out _ rfl)
    clear hK K c9 f9
    refine wpAnyH_done (by kernel_rfl) ?_ _
    clear hHeld
    go_wp2_with fail
    refine ⟨⟨k+1,_,_,_,_,by simp,by omega,HS2⟩,?_⟩
    simp only [intOf]
    omega
   refine AllReadyH.cons (o:=⟨_,_,_,_,_,_⟩) rfl (fun K hK=>?_) AllReadyH.nil
   go_simp
   have hem:=World.ownsRow_lit (base:=W1.heap.size) (e:=4) (size:=1) wd #[] 0 hHeld.size (by simp [maxLen]) rfl
   have hbm:=(Below.refl wd.heap.size wd).alloc (Nat.le_refl _) (.cells #[] 4)
   have hzm:(wd.alloc (.cells #[] 4)).heap.size=wd.heap.size+1:=by simp
   have hsz:=hHeld.size
   refine hK.out _ _ (hHeld.alloc hHeld.size (.cells #[] 4)) (fun hHeld=>?_)
   have HLB:Hid (∀ u,u<k→bl u<wd.heap.size):=Lib.hid (fun u hu=>HS.out.rows.lt hu)
   have HLP:Hid (P<wd.heap.size):=Lib.hid HS.out.pl.lt
   have HSZ:=Lib.hid hsz
   have HS0:=HS
   replace HS:=Lib.hid (HS.out.keep hbm)
   have HEM:=Lib.hid hem
   have HBM:=Lib.hid hbm
   have HZM:=Lib.hid hzm
   generalize wd.alloc (.cells #[] 4)=wm at *
   clear hK K hem hbm hzm hsz
   refine wpAnyH_ready (rs:=[1,8]) (by kernel_rfl) (by simp) ?_
   refine AllReadyH.cons (o:=⟨_,_,_,_,_,_⟩) rfl (fun K hK=>?_) ?_
   ·skip
    have h9:wm.cell? ⟨X,0,none⟩=some (.slice fa k cf):=(cB HS.out.box 0).trans rfl
    go_simp
    refine hK.out _ _ hHeld (fun hHeld=>?_)
    clear hK K h9
    refine wpAnyH_ready (rs:=[8]) (by kernel_rfl) (by simp) ?_
    refine AllReadyH.cons (o:=⟨_,_,_,_,_,_⟩) rfl (fun K hK=>?_) AllReadyH.nil
    have HFK:=Lib.hid ((HSRC.out.fl k (.inl hlt)).keep (hHeld.block _ (HSRC.out.fl k (.inl hlt)).lt))
    refine step_append_lies _ rfl _ _ 72 rfl W1.heap.size 4 j0 (.bool false) 1 1 Tryz.underlying72 HJ.out HJ0.out HJ1.out HJ2.out rfl (by decide) (.slice (some ⟨wd.heap.size,0,none⟩) 0 0) 0 [] rfl HEM.out ⟨m.bl k,0,none⟩ n (m.cp k) ((List.range n).map fun i=>Value.bool (S k i)) rfl (by simp) (news_flags HFK.out) (ones_flags _ _) hn0 (by unfold maxLen;omega) (by omega) hHeld.size _ rfl ?_
    intro g8 cap8 w8 hown8 hgg8 hat8 hlt8
    rw [Nat.zero_add] at hown8
    rw [Nat.zero_add]
    have hg8:wd.heap.size≤g8:=by
     rcases hat8 with h9 | h9
     ·have hq:wd.heap.size=g8:=(by simpa [Value.ownBlock] using h9);omega
     ·have:=HZM.out;omega
    obtain ⟨hf8,hc8,hm8⟩:=flw_of_row hn0 (show _ from hown8)
    have hb8:Below wd.heap.size wd w8:=HBM.out.grown hgg8 (by have:=HZM.out;omega) (fun j hj=>by have hq:wd.heap.size=j:=(by simpa [Value.ownBlock] using hj);omega)
    refine hK.out _ _ (hHeld.grown hgg8 hHeld.size (fun j hj=>by have:=HSZ.out;have hq:wd.heap.size=j:=(by simpa [Value.ownBlock] using hj);omega)) (fun hHeld=>?_)
    replace HS:=Lib.hid (HS0.out.keep hb8)
    have HF8:=Lib.hid hf8
    have HC8:=Lib.hid hc8
    have HM8:=Lib.hid hm8
    have HG8:=Lib.hid hg8
    have HL8:=Lib.hid hlt8
    have HNE:Hid (∀ u,u<k→bl u≠g8):=Lib.hid (fun u hu e=>by have:=HLB.out u hu;have:=HG8.out;omega)
    have HFP:Hid (g8≠P):=Lib.hid (fun e=>by have:=HLP.out;have:=HG8.out;omega)
    have HFB:Hid (W1.heap.size≤g8):=Lib.hid (by have:=HSZ.out;have:=HG8.out;omega)
    clear hK K hown8 hgg8 hat8 hlt8 hb8 hf8 hc8 hm8 hg8 HEM HBM HFK HLB HLP HSZ
    refine wpAnyH_ready (rs:=[9]) (by kernel_rfl) (by simp) ?_
    refine AllReadyH.cons (o:=⟨_,_,_,_,_,_⟩) rfl (fun K hK=>?_) AllReadyH.nil
    go_simp
    have hnw:=heap_alloc_new w8 (.cells #[.slice (some ⟨g8,0,none⟩) n cap8] 72)
    have hbn:=(Below.refl w8.heap.size w8).alloc (Nat.le_refl _) (.cells #[.slice (some ⟨g8,0,none⟩) n cap8] 72)
    have hzn:(w8.alloc (.cells #[.slice (some ⟨g8,0,none⟩) n cap8] 72)).heap.size=w8.heap.size+1:=by simp
    refine hK.out _ _ (hHeld.alloc hHeld.size (.cells #[.slice (some ⟨g8,0,none⟩) n cap8] 72)) (fun hHeld=>?_)
    replace HS:=Lib.hid (HS.out.keep hbn)
    replace HF8:=Lib.hid (HF8.out.keep (hbn.block _ HF8.out.lt))
    have HNW:=Lib.hid hnw
    have HZN:=Lib.hid hzn
    generalize w8.alloc (.cells #[.slice (some ⟨g8,0,none⟩) n cap8] 72)=wn at *
    clear hK K hnw hbn hzn
    refine wpAnyH_ready (rs:=[10]) (by kernel_rfl) (by simp) ?_
    refine AllReadyH.cons (o:=⟨_,_,_,_,_,_⟩) rfl (fun K hK=>?_) AllReadyH.nil
    obtain ⟨xs,ho,h1,h2⟩:=HS.out.rows
    have HO:=Lib.hid ho
    have H1:=Lib.hid h1
    have H2:=Lib.hid h2
    clear ho h1 h2
    refine step_append_lies _ rfl _ _ 65 rfl W1.heap.size 72 i0 (.slice none 0 0) 1 24 Tryz.underlying65 HI.out HZ0.out HZ1.out HZ2.out rfl (by decide) _ _ _ rfl HO.out ⟨w8.heap.size,0,none⟩ 1 1 [.slice (some ⟨g8,0,none⟩) n cap8] rfl rfl (World.news_of_block HNW.out) (by intro u9 hu9;simp only [List.mem_cons,List.not_mem_nil,or_false] at hu9;subst hu9;rfl) (by decide) (by unfold maxLen;omega) (by omega) hHeld.size _ rfl ?_
    intro g9 cap9 w9 hown9 hgg9 hat9 hlt9
    have hap:=HS.out.append HO.out H1.out H2.out HF8.out HNE.out HFP.out HFB.out ⟨HC8.out,HM8.out⟩ hgg9 hown9
    refine hK.out _ _ (hHeld.grown hgg9 hHeld.size (fun j hj=>(HO.out.lt j hj).1)) (fun hHeld=>?_)
    have HAP:=Lib.hid hap.2
    have HBX:=Lib.hid hap.1
    have HOX:=Lib.hid HS.out.oX
    clear hK K hown9 hgg9 hat9 hlt9 hap HO H1 H2
    refine tkd (i:=11) (v:=.pointer (some ⟨X,0,none⟩)) rfl hHeld ?_
    try simp only [Act.put,sA,sB,sC]
    refine wpAnyH_ready (rs:=[12]) (by kernel_rfl) (by simp) ?_
    refine AllReadyH.cons (o:=⟨_,_,_,_,_,_⟩) rfl (fun K hK=>?_) AllReadyH.nil
    have c9:w9.cell? ⟨X,0,none⟩=some (.slice fa k cf):=(cB HBX.out 0).trans rfl
    have f9:w9.frozen? ⟨X,0,none⟩=false:=frozen_of_row _ _ _ _ _ HBX.out
    go_simp
    refine hK.out _ _ (below_set hHeld HOX.out) (fun hHeld=>?_)
    have HS2:=Lib.hid (HAP.out _ rfl)
    clear hK K c9 f9
    refine wpAnyH_done (by kernel_rfl) ?_ _
    clear hHeld
    go_wp2_with fail
    refine ⟨⟨k+1,_,_,_,_,by simp,by omega,HS2⟩,?_⟩
    simp only [intOf]
    omega
   refine AllReadyH.cons (o:=⟨_,_,_,_,_,_⟩) rfl (fun K hK=>?_) AllReadyH.nil
   have HFK:=Lib.hid ((HSRC.out.fl k (.inl hlt)).keep (hHeld.block _ (HSRC.out.fl k (.inl hlt)).lt))
   refine step_append_lies _ rfl _ _ 72 rfl W1.heap.size 4 j0 (.bool false) 1 1 Tryz.underlying72 HJ.out HJ0.out HJ1.out HJ2.out rfl (by decide) (.slice (some ⟨wd.heap.size,0,none⟩) 0 0) 0 [] rfl HEM.out ⟨m.bl k,0,none⟩ n (m.cp k) ((List.range n).map fun i=>Value.bool (S k i)) rfl (by simp) (news_flags HFK.out) (ones_flags _ _) hn0 (by unfold maxLen;omega) (by omega) hHeld.size _ rfl ?_
   intro g8 cap8 w8 hown8 hgg8 hat8 hlt8
   rw [Nat.zero_add] at hown8
   rw [Nat.zero_add]
   have hg8:wd.heap.size≤g8:=by
    rcases hat8 with h9 | h9
    ·have hq:wd.heap.size=g8:=(by simpa [Value.ownBlock] using h9);omega
    ·have:=HZM.out;omega
   obtain ⟨hf8,hc8,hm8⟩:=flw_of_row hn0 (show _ from hown8)
   have hb8:Below wd.heap.size wd w8:=HBM.out.grown hgg8 (by have:=HZM.out;omega) (fun j hj=>by have hq:wd.heap.size=j:=(by simpa [Value.ownBlock] using hj);omega)
   refine hK.out _ _ (hHeld.grown hgg8 hHeld.size (fun j hj=>by have:=HSZ.out;have hq:wd.heap.size=j:=(by simpa [Value.ownBlock] using hj);omega)) (fun hHeld=>?_)
   replace HS:=Lib.hid (HS0.out.keep hb8)
   have HF8:=Lib.hid hf8
   have HC8:=Lib.hid hc8
   have HM8:=Lib.hid hm8
   have HG8:=Lib.hid hg8
   have HL8:=Lib.hid hlt8
   have HNE:Hid (∀ u,u<k→bl u≠g8):=Lib.hid (fun u hu e=>by have:=HLB.out u hu;have:=HG8.out;omega)
   have HFP:Hid (g8≠P):=Lib.hid (fun e=>by have:=HLP.out;have:=HG8.out;omega)
   have HFB:Hid (W1.heap.size≤g8):=Lib.hid (by have:=HSZ.out;have:=HG8.out;omega)
   clear hK K hown8 hgg8 hat8 hlt8 hb8 hf8 hc8 hm8 hg8 HEM HBM HFK HLB HLP HSZ
   refine wpAnyH_ready (rs:=[1,9]) (by kernel_rfl) (by simp) ?_
   refine AllReadyH.cons (o:=⟨_,_,_,_,_,_⟩) rfl (fun K hK=>?_) ?_
   ·skip
    have h9:w8.cell? ⟨X,0,none⟩=some (.slice fa k cf):=(cB HS.out.box 0).trans rfl
    go_simp
    refine hK.out _ _ hHeld (fun hHeld=>?_)
    clear hK K h9
    refine wpAnyH_ready (rs:=[9]) (by kernel_rfl) (by simp) ?_
    refine AllReadyH.cons (o:=⟨_,_,_,_,_,_⟩) rfl (fun K hK=>?_) AllReadyH.nil
    go_simp
    have hnw:=heap_alloc_new w8 (.cells #[.slice (some ⟨g8,0,none⟩) n cap8] 72)
    have hbn:=(Below.refl w8.heap.size w8).alloc (Nat.le_refl _) (.cells #[.slice (some ⟨g8,0,none⟩) n cap8] 72)
    have hzn:(w8.alloc (.cells #[.slice (some ⟨g8,0,none⟩) n cap8] 72)).heap.size=w8.heap.size+1:=by simp
    refine hK.out _ _ (hHeld.alloc hHeld.size (.cells #[.slice (some ⟨g8,0,none⟩) n cap8] 72)) (fun hHeld=>?_)
    replace HS:=Lib.hid (HS.out.keep hbn)
    replace HF8:=Lib.hid (HF8.out.keep (hbn.block _ HF8.out.lt))
    have HNW:=Lib.hid hnw
    have HZN:=Lib.hid hzn
    generalize w8.alloc (.cells #[.slice (some ⟨g8,0,none⟩) n cap8] 72)=wn at *
    clear hK K hnw hbn hzn
    refine wpAnyH_ready (rs:=[10]) (by kernel_rfl) (by simp) ?_
    refine AllReadyH.cons (o:=⟨_,_,_,_,_,_⟩) rfl (fun K hK=>?_) AllReadyH.nil
    obtain ⟨xs,ho,h1,h2⟩:=HS.out.rows
    have HO:=Lib.hid ho
    have H1:=Lib.hid h1
    have H2:=Lib.hid h2
    clear ho h1 h2
    refine step_append_lies _ rfl _ _ 65 rfl W1.heap.size 72 i0 (.slice none 0 0) 1 24 Tryz.underlying65 HI.out HZ0.out HZ1.out HZ2.out rfl (by decide) _ _ _ rfl HO.out ⟨w8.heap.size,0,none⟩ 1 1 [.slice (some ⟨g8,0,none⟩) n cap8] rfl rfl (World.news_of_block HNW.out) (by intro u9 hu9;simp only [List.mem_cons,List.not_mem_nil,or_false] at hu9;subst hu9;rfl) (by decide) (by unfold maxLen;omega) (by omega) hHeld.size _ rfl ?_
    intro g9 cap9 w9 hown9 hgg9 hat9 hlt9
    have hap:=HS.out.append HO.out H1.out H2.out HF8.out HNE.out HFP.out HFB.out ⟨HC8.out,HM8.out⟩ hgg9 hown9
    refine hK.out _ _ (hHeld.grown hgg9 hHeld.size (fun j hj=>(HO.out.lt j hj).1)) (fun hHeld=>?_)
    have HAP:=Lib.hid hap.2
    have HBX:=Lib.hid hap.1
    have HOX:=Lib.hid HS.out.oX
    clear hK K hown9 hgg9 hat9 hlt9 hap HO H1 H2
    refine tkd (i:=11) (v:=.pointer (some ⟨X,0,none⟩)) rfl hHeld ?_
    try simp only [Act.put,sA,sB,sC]
    refine wpAnyH_ready (rs:=[12]) (by kernel_rfl) (by simp) ?_
    refine AllReadyH.cons (o:=⟨_,_,_,_,_,_⟩) rfl (fun K hK=>?_) AllReadyH.nil
    have c9:w9.cell? ⟨X,0,none⟩=some (.slice fa k cf):=(cB HBX.out 0).trans rfl
    have f9:w9.frozen? ⟨X,0,none⟩=false:=frozen_of_row _ _ _ _ _ HBX.out
    go_simp
    refine hK.out _ _ (below_set hHeld HOX.out) (fun hHeld=>?_)
    have HS2:=Lib.hid (HAP.out _ rfl)
    clear hK K c9 f9
    refine wpAnyH_done (by kernel_rfl) ?_ _
    clear hHeld
    go_wp2_with fail
    refine ⟨⟨k+1,_,_,_,_,by simp,by omega,HS2⟩,?_⟩
    simp only [intOf]
    omega
   refine AllReadyH.cons (o:=⟨_,_,_,_,_,_⟩) rfl (fun K hK=>?_) AllReadyH.nil
   go_simp
   have hnw:=heap_alloc_new w8 (.cells #[.slice (some ⟨g8,0,none⟩) n cap8] 72)
   have hbn:=(Below.refl w8.heap.size w8).alloc (Nat.le_refl _) (.cells #[.slice (some ⟨g8,0,none⟩) n cap8] 72)
   have hzn:(w8.alloc (.cells #[.slice (some ⟨g8,0,none⟩) n cap8] 72)).heap.size=w8.heap.size+1:=by simp
   refine hK.out _ _ (hHeld.alloc hHeld.size (.cells #[.slice (some ⟨g8,0,none⟩) n cap8] 72)) (fun hHeld=>?_)
   replace HS:=Lib.hid (HS.out.keep hbn)
   replace HF8:=Lib.hid (HF8.out.keep (hbn.block _ HF8.out.lt))
   have HNW:=Lib.hid hnw
   have HZN:=Lib.hid hzn
   generalize w8.alloc (.cells #[.slice (some ⟨g8,0,none⟩) n cap8] 72)=wn at *
   clear hK K hnw hbn hzn
   refine wpAnyH_ready (rs:=[1]) (by kernel_rfl) (by simp) ?_
   refine AllReadyH.cons (o:=⟨_,_,_,_,_,_⟩) rfl (fun K hK=>?_) AllReadyH.nil
   have h9:wn.cell? ⟨X,0,none⟩=some (.slice fa k cf):=(cB HS.out.box 0).trans rfl
   go_simp
   refine hK.out _ _ hHeld (fun hHeld=>?_)
   clear hK K h9
   refine wpAnyH_ready (rs:=[10]) (by kernel_rfl) (by simp) ?_
   refine AllReadyH.cons (o:=⟨_,_,_,_,_,_⟩) rfl (fun K hK=>?_) AllReadyH.nil
   obtain ⟨xs,ho,h1,h2⟩:=HS.out.rows
   have HO:=Lib.hid ho
   have H1:=Lib.hid h1
   have H2:=Lib.hid h2
   clear ho h1 h2
   refine step_append_lies _ rfl _ _ 65 rfl W1.heap.size 72 i0 (.slice none 0 0) 1 24 Tryz.underlying65 HI.out HZ0.out HZ1.out HZ2.out rfl (by decide) _ _ _ rfl HO.out ⟨w8.heap.size,0,none⟩ 1 1 [.slice (some ⟨g8,0,none⟩) n cap8] rfl rfl (World.news_of_block HNW.out) (by intro u9 hu9;simp only [List.mem_cons,List.not_mem_nil,or_false] at hu9;subst hu9;rfl) (by decide) (by unfold maxLen;omega) (by omega) hHeld.size _ rfl ?_
   intro g9 cap9 w9 hown9 hgg9 hat9 hlt9
   have hap:=HS.out.append HO.out H1.out H2.out HF8.out HNE.out HFP.out HFB.out ⟨HC8.out,HM8.out⟩ hgg9 hown9
   refine hK.out _ _ (hHeld.grown hgg9 hHeld.size (fun j hj=>(HO.out.lt j hj).1)) (fun hHeld=>?_)
   have HAP:=Lib.hid hap.2
   have HBX:=Lib.hid hap.1
   have HOX:=Lib.hid HS.out.oX
   clear hK K hown9 hgg9 hat9 hlt9 hap HO H1 H2
   refine tkd (i:=11) (v:=.pointer (some ⟨X,0,none⟩)) rfl hHeld ?_
   try simp only [Act.put,sA,sB,sC]
   refine wpAnyH_ready (rs:=[12]) (by kernel_rfl) (by simp) ?_
   refine AllReadyH.cons (o:=⟨_,_,_,_,_,_⟩) rfl (fun K hK=>?_) AllReadyH.nil
   have c9:w9.cell? ⟨X,0,none⟩=some (.slice fa k cf):=(cB HBX.out 0).trans rfl
   have f9:w9.frozen? ⟨X,0,none⟩=false:=frozen_of_row _ _ _ _ _ HBX.out
   go_simp
   refine hK.out _ _ (below_set hHeld HOX.out) (fun hHeld=>?_)
   have HS2:=Lib.hid (HAP.out _ rfl)
   clear hK K c9 f9
   refine wpAnyH_done (by kernel_rfl) ?_ _
   clear hHeld
   go_wp2_with fail
   refine ⟨⟨k+1,_,_,_,_,by simp,by omega,HS2⟩,?_⟩
   simp only [intOf]
   omega
  ·have hke:k=T:=by omega
   subst hke
   have x0:wr.cell? ⟨X,0,none⟩=some (.slice fa k cf):=(cB HS.out.box 0).trans rfl
   have x1:wr.cell? ⟨X,1,none⟩=some (.slice (some ⟨P,0,none⟩) n cP):=(cB HS.out.box 1).trans rfl
   have hrw:=(hbz.block (w.heap.size+1) (by have:=HZ.out;omega)).trans HRS.out
   have y0:wr.cell? ⟨w.heap.size+1,0,none⟩=some (.slice none 0 0):=(cB hrw 0).trans rfl
   have y1:wr.cell? ⟨w.heap.size+1,1,none⟩=some (.slice none 0 0):=(cB hrw 1).trans rfl
   have z0:wr.frozen? ⟨w.heap.size+1,0,none⟩=false:=frozen_of_row _ _ _ _ _ hrw
   have z1:wr.frozen? ⟨w.heap.size+1,1,none⟩=false:=frozen_of_row _ _ _ _ _ hrw
   have HRW:=Lib.hid hrw
   have HBZ:=Lib.hid hbz
   clear hrw hbz
   go_wp2_with fail
   have hd:=HS.out.done hT
   have hz9:=HZ.out
   have e1:=(heap_setCell_same wr (w.heap.size+1) 0 _ _ (.slice fa k cf) HRW.out).trans rfl
   have hrr:((wr.setCell ⟨w.heap.size+1,0,none⟩ (.slice fa k cf)).setCell ⟨w.heap.size+1,1,none⟩ (.slice (some ⟨P,0,none⟩) n cP)).heap[w.heap.size+1]?=some (.cells #[.slice fa k cf,.slice (some ⟨P,0,none⟩) n cP] 81 (0,0)):=(heap_setCell_same _ (w.heap.size+1) 1 _ _ _ e1).trans rfl
   have hmv:∀ j,W1.heap.size≤j→((wr.setCell ⟨w.heap.size+1,0,none⟩ (.slice fa k cf)).setCell ⟨w.heap.size+1,1,none⟩ (.slice (some ⟨P,0,none⟩) n cP)).heap[j]?=wr.heap[j]?:=fun j hj=>(heap_setCell_other _ _ _ _ (by show j≠w.heap.size+1;omega)).trans (heap_setCell_other _ _ _ _ (by show j≠w.heap.size+1;omega))
   have hbf:Below w.heap.size w ((wr.setCell ⟨w.heap.size+1,0,none⟩ (.slice fa k cf)).setCell ⟨w.heap.size+1,1,none⟩ (.slice (some ⟨P,0,none⟩) n cP)):=below_set (below_set (HB2.out.trans (HBZ.out.mono (by omega))) (by omega)) (by omega)
   refine bodyPost_ret (v:=.agg #[.slice fa k cf,.slice (some ⟨P,0,none⟩) n cP]) ?_ rfl ⟨_,rfl,(hd.move hmv).lower (by omega),hbf⟩
   exact results_cell rfl Tryz.prog _ _ (w.heap.size+1) _ rfl (load_st hrr rfl)
def M4.swap (m:M4) (v F c:Nat):M4:=⟨m.fa,m.g,m.cf,setR m.bl v F,setR m.cp v c⟩
theorem S4.swap {w:World} {B T n:Nat} {m:M4} {S:Nat→Nat→Bool} (h:S4 w B T n m S) {v F c:Nat} {x:Nat→Bool} (hv:v<T) (hF:FlW w F n x) (hne:∀ u,okP T u→u≠v→m.bl u≠F) (hFB:B≤F) (hc:n≤c∧c≤maxLen) :
  S4 (w.setCell ⟨m.g,v,none⟩ (.slice (some ⟨F,0,none⟩) n c)) B T n (m.swap v F c) (setR S v x):=by
 obtain ⟨cur,h1,h2⟩:=h.row (by omega)
 have hz:v<cur.size:=(Array.getElem?_eq_some_iff.mp (h2 v hv)).1
 have hkeep:∀ {u:Nat} {y:Nat→Bool},FlW w u n y→FlW (w.setCell ⟨m.g,v,none⟩ (.slice (some ⟨F,0,none⟩) n c)) u n y:=fun hy=>hy.keep (heap_setCell_other _ _ _ _ (fun e=>hy.apart h1 e.symm))
 refine ⟨h.fa,fun _=>⟨_,heap_setCell_same w m.g v cur _ _ h1,fun u hu=>?_⟩,h.cf,fun u hu=>?_,fun u hu=>?_,fun a b ha hb e=>?_,fun u hu=>?_,h.og⟩
 ·rw [Array.getElem?_setIfInBounds]
  show _=some (Value.slice (some ⟨setR m.bl v F u,0,none⟩) n (setR m.cp v c u))
  by_cases huv:v=u
  ·subst huv
   rw [if_pos rfl,if_pos hz,setR_at,setR_at]
  ·rw [if_neg huv,setR_ne _ _ _ (Ne.symm huv),setR_ne _ _ _ (Ne.symm huv)]
   exact h2 u hu
 ·show FlW _ (setR m.bl v F u) n (setR S v x u)
  by_cases huv:u=v
  ·subst huv
   rw [setR_at,setR_at]
   exact hkeep hF
  ·rw [setR_ne _ _ _ huv,setR_ne _ _ _ huv]
   exact hkeep (h.fl u hu)
 ·show n≤setR m.cp v c u∧setR m.cp v c u≤maxLen
  by_cases huv:u=v
  ·subst huv
   rw [setR_at]
   exact hc
  ·rw [setR_ne _ _ _ huv]
   exact h.cp u hu
 ·have e':setR m.bl v F a=setR m.bl v F b:=e
  by_cases hav:a=v
  ·by_cases hbv:b=v
   ·omega
   ·subst hav
    rw [setR_at,setR_ne _ _ _ hbv] at e'
    exact absurd e'.symm (hne b hb hbv)
  ·by_cases hbv:b=v
   ·subst hbv
    rw [setR_at,setR_ne _ _ _ hav] at e'
    exact absurd e' (hne a ha hav)
   ·rw [setR_ne _ _ _ hav,setR_ne _ _ _ hbv] at e'
    exact h.inj a b ha hb e'
 ·show B≤setR m.bl v F u
  by_cases huv:u=v
  ·subst huv
   rw [setR_at]
   exact hFB
  ·rw [setR_ne _ _ _ huv]
   exact h.own u hu
theorem S4.congr {w:World} {B T n:Nat} {m:M4} {S S':Nat→Nat→Bool} (h:S4 w B T n m S) (e:∀ v l,okP T v→l<n→S' v l=S v l):S4 w B T n m S' :=
 ⟨h.fa,h.row,h.cf,fun v hv=>(h.fl v hv).congr (fun l hl=>e v l hv hl),h.cp,h.inj,h.own,h.og⟩
noncomputable def tookF (ts:List Int) (ns:List Nd) (d:Nd) (S:Nat→Nat→Bool) (k v l:Nat):Bool :=
 if v=6 then S 6 l && !(@decide (∃ z:Nat,z<k∧useI ts d (z:Int)=2∧isFrom ns z l=true) (Classical.propDecidable _))
 else if v<k∧useI ts d (v:Int)=2 then false else S v l
theorem tookF_zero (ts:List Int) (ns:List Nd) (d:Nd) (S:Nat→Nat→Bool) (v l:Nat):tookF ts ns d S 0 v l=S v l:=by
 unfold tookF
 by_cases hv:v=6
 ·subst hv
  rw [if_pos rfl]
  simp
 ·rw [if_neg hv,if_neg (fun h=>absurd h.1 (Nat.not_lt_zero _))]
theorem tookF_no {ts:List Int} {ns:List Nd} {d:Nd} {S:Nat→Nat→Bool} {k:Nat} (h:useI ts d (k:Int)≠2) (v l:Nat):tookF ts ns d S (k+1) v l=tookF ts ns d S k v l:=by
 unfold tookF
 by_cases hv:v=6
 ·subst hv
  rw [if_pos rfl,if_pos rfl]
  have e:(∃ z:Nat,z<k+1∧useI ts d (z:Int)=2∧isFrom ns z l=true)↔∃ z:Nat,z<k∧useI ts d (z:Int)=2∧isFrom ns z l=true:=by
   constructor
   ·rintro ⟨z,h1,h2,h3⟩
    refine ⟨z,?_,h2,h3⟩
    by_cases hz:z=k
    ·subst hz;exact absurd h2 h
    ·omega
   ·rintro ⟨z,h1,h2,h3⟩
    exact ⟨z,by omega,h2,h3⟩
  by_cases h9:∃ z:Nat,z<k∧useI ts d (z:Int)=2∧isFrom ns z l=true
  ·rw [@decide_eq_true _ (Classical.propDecidable _) (e.mpr h9),@decide_eq_true _ (Classical.propDecidable _) h9]
  ·rw [@decide_eq_false _ (Classical.propDecidable _) (fun q=>h9 (e.mp q)),@decide_eq_false _ (Classical.propDecidable _) h9]
 ·rw [if_neg hv,if_neg hv]
  by_cases hvk:v=k
  ·subst hvk
   rw [if_neg (fun q=>h q.2),if_neg (fun q=>h q.2)]
  ·by_cases h9:v<k∧useI ts d (v:Int)=2
   ·rw [if_pos h9,if_pos ⟨by omega,h9.2⟩]
   ·rw [if_neg h9,if_neg (fun q=>h9 ⟨by omega,q.2⟩)]
theorem tookF_yes {ts:List Int} {ns:List Nd} {d:Nd} {S:Nat→Nat→Bool} {k:Nat} (hk:k<6) (h:useI ts d (k:Int)=2) (v l:Nat) :
  tookF ts ns d S (k+1) v l=setR (setR (tookF ts ns d S k) k (fun _=>false)) 6 (fun l=>tookF ts ns d S k 6 l && !isFrom ns k l) v l:=by
 by_cases hv:v=6
 ·subst hv
  rw [setR_at]
  unfold tookF
  rw [if_pos rfl,if_pos rfl]
  by_cases hf:isFrom ns k l=true
  ·rw [hf,@decide_eq_true _ (Classical.propDecidable _) ⟨k,by omega,h,hf⟩]
   simp
  ·have hf':isFrom ns k l=false:=by simpa using hf
   rw [hf']
   have e:(∃ z:Nat,z<k+1∧useI ts d (z:Int)=2∧isFrom ns z l=true)↔∃ z:Nat,z<k∧useI ts d (z:Int)=2∧isFrom ns z l=true:=by
    constructor
    ·rintro ⟨z,h1,h2,h3⟩
     refine ⟨z,?_,h2,h3⟩
     by_cases hz:z=k
     ·subst hz;exact absurd h3 hf
     ·omega
    ·rintro ⟨z,h1,h2,h3⟩
     exact ⟨z,by omega,h2,h3⟩
   by_cases h9:∃ z:Nat,z<k∧useI ts d (z:Int)=2∧isFrom ns z l=true
   ·rw [@decide_eq_true _ (Classical.propDecidable _) (e.mpr h9),@decide_eq_true _ (Classical.propDecidable _) h9]
    simp
   ·rw [@decide_eq_false _ (Classical.propDecidable _) (fun q=>h9 (e.mp q)),@decide_eq_false _ (Classical.propDecidable _) h9]
    simp
 ·rw [setR_ne _ _ _ hv]
  by_cases hvk:v=k
  ·subst hvk
   rw [setR_at]
   unfold tookF
   rw [if_neg hv,if_pos ⟨by omega,h⟩]
  ·rw [setR_ne _ _ _ hvk]
   unfold tookF
   rw [if_neg hv,if_neg hv]
   by_cases h9:v<k∧useI ts d (v:Int)=2
   ·rw [if_pos h9,if_pos ⟨by omega,h9.2⟩]
   ·rw [if_neg h9,if_neg (fun q=>h9 ⟨by omega,q.2⟩)]
def lvOk (ts:List Int) (d:Nd) (live:Nat→Bool) (v:Nat):Bool:=live v && !decide (setI d=(v:Int)) && !decide (useI ts d (v:Int)=2)
def lvF (ts:List Int) (d:Nd) (live:Nat→Bool) (S:Nat→Nat→Bool):Nat→Nat→Bool
 | 0,_=>false
 | k+1,l=>lvF ts d live S k l || (lvOk ts d live k && S k l)
theorem lvF_iff (ts:List Int) (d:Nd) (live:Nat→Bool) (S:Nat→Nat→Bool) (k l:Nat):lvF ts d live S k l=true↔∃ v,v<k∧live v=true∧setI d≠(v:Int)∧useI ts d (v:Int)≠2∧S v l=true:=by
 induction k with
 | zero=>exact ⟨fun h=>(by cases h),fun ⟨v,hv,_⟩=>absurd hv (Nat.not_lt_zero _)⟩
 | succ k ih =>
  unfold lvF lvOk
  rw [Bool.or_eq_true,ih]
  simp only [Bool.and_eq_true,Bool.not_eq_true',decide_eq_false_iff_not]
  constructor
  ·rintro (⟨v,h1,h2⟩ | ⟨⟨⟨h1,h2⟩,h3⟩,h4⟩)
   ·exact ⟨v,by omega,h2⟩
   ·exact ⟨k,by omega,h1,h2,h3,h4⟩
  ·rintro ⟨v,h1,h2,h3,h4,h5⟩
   by_cases hvk:v=k
   ·subst hvk
    exact .inr ⟨⟨⟨h2,h3⟩,h4⟩,h5⟩
   ·exact .inl ⟨v,by omega,h2,h3,h4,h5⟩
theorem grown_below {a b c:World} {row:Option Nat} (h:a.grownBy b row) (k:Below b.heap.size b c):a.grownBy c row :=
 ⟨k.os.trans h.os,k.tape.trans h.tape,k.output.trans h.output,Nat.le_trans h.size k.size,fun x hx hr=>(k.block x (Nat.lt_of_lt_of_le hx h.size)).trans (h.block x hx hr)⟩
theorem l4Live_any (ts:List Int) (At:Option Addr) (ct:Nat) (d:Nd) (u:Value) (B0 n:Nat) (m:M4) (S:Nat→Nat→Bool) (F c:Nat) (live:Nat→Bool) (w:World) (ht6:ts.length≤6) (hn:n≤61) (hT:IntsV w 0 w.heap.size ts At ct) (h:S4 w B0 ts.length n m S) (hF:FlW w F ts.length live) (hc1:ts.length≤c) (hc2:c≤maxLen) :
  Calls Tryz.prog 76 #[.slice At ts.length ct,.agg #[.int .i64 d.op,.int .i64 d.x,.int .i64 d.y,.int .i64 d.n,u],m.val ts.length n,.slice (some ⟨F,0,none⟩) ts.length c] w
   fun E w'=>∃ G,E=.returned (.slice (some ⟨G,0,none⟩) n n)∧w.heap.size≤G∧FlW w' G n (lvF ts d live S ts.length)∧Below w.heap.size w w':=by
 have HMK:Hid (∀ W:World,_):=Lib.hid (fun W=>run_make_row' (P:=Tryz.prog) 72 4 (.bool false) 1 Tryz.underlying72 Tryz.infoBool rfl .i64 .i64 n (by omega) (by omega) W)
 have hu:∀ W:World,Below w.heap.size w W→∀ v:Nat,v<ts.length→Calls Tryz.prog 73 #[.slice At ts.length ct,.agg #[.int .i64 d.op,.int .i64 d.x,.int .i64 d.y,.int .i64 d.n,u],.int .i64 v] W fun E w'=>E=.returned (.int .i64 (useI ts d v))∧Below W.heap.size W w':=fun W hW v hv=>l3Use_any ts At ct d.op d.x d.y d.n d.next u v W hv (hT.below hW hW.size)
 have hs:∀ W:World,Calls Tryz.prog 77 #[.agg #[.int .i64 d.op,.int .i64 d.x,.int .i64 d.y,.int .i64 d.n,u]] W fun E w'=>E=.returned (.int .i64 (setI d))∧Below W.heap.size W w':=fun W=>l3Set_any d.op d.x d.y d.n d.next u W
 have HU:=Lib.hid hu
 have HSE:=Lib.hid hs
 clear hu hs hT
 have hb1:=(Below.refl w.heap.size w).alloc (Nat.le_refl _) (.cells #[.int .i64 d.op,.int .i64 d.x,.int .i64 d.y,.int .i64 d.n,u] 75)
 have hz1:(w.alloc (.cells #[.int .i64 d.op,.int .i64 d.x,.int .i64 d.y,.int .i64 d.n,u] 75)).heap.size=w.heap.size+1:=by simp
 have hX1:=heap_alloc_new w (.cells #[.int .i64 d.op,.int .i64 d.x,.int .i64 d.y,.int .i64 d.n,u] 75)
 have hb2:=hb1.alloc (by omega) (.cells #[.slice m.fa ts.length m.cf,.slice (some ⟨m.bl 6,0,none⟩) n (m.cp 6)] 81)
 have hX2:=heap_alloc_new (w.alloc (.cells #[.int .i64 d.op,.int .i64 d.x,.int .i64 d.y,.int .i64 d.n,u] 75)) (.cells #[.slice m.fa ts.length m.cf,.slice (some ⟨m.bl 6,0,none⟩) n (m.cp 6)] 81)
 rw [hz1] at hX2
 have hX1:=(((Below.refl _ _).alloc (Nat.le_refl _) (.cells #[.slice m.fa ts.length m.cf,.slice (some ⟨m.bl 6,0,none⟩) n (m.cp 6)] 81):Below (w.alloc (.cells #[.int .i64 d.op,.int .i64 d.x,.int .i64 d.y,.int .i64 d.n,u] 75)).heap.size _ _).block w.heap.size (by omega)).trans hX1
 have hz2:((w.alloc (.cells #[.int .i64 d.op,.int .i64 d.x,.int .i64 d.y,.int .i64 d.n,u] 75)).alloc (.cells #[.slice m.fa ts.length m.cf,.slice (some ⟨m.bl 6,0,none⟩) n (m.cp 6)] 81)).heap.size=w.heap.size+1+1:=by simp
 have hmk:=HMK.out ((w.alloc (.cells #[.int .i64 d.op,.int .i64 d.x,.int .i64 d.y,.int .i64 d.n,u] 75)).alloc (.cells #[.slice m.fa ts.length m.cf,.slice (some ⟨m.bl 6,0,none⟩) n (m.cp 6)] 81))
 have HB2:=Lib.hid hb2
 have HX1:=Lib.hid hX1
 have HX2:=Lib.hid hX2
 have HZ2:=Lib.hid hz2
 have HS:=Lib.hid (h.keep hb2)
 have HF:=Lib.hid (hF.keep (hb2.block F hF.lt))
 have HFLT:=Lib.hid hF.lt
 have HOLD:=Lib.hid (show ∀ v,okP ts.length v→m.bl v<w.heap.size from fun v hv=>(h.fl v hv).lt)
 have HOG:Hid (0<ts.length→m.g<w.heap.size):=Lib.hid (fun h0=>by obtain ⟨cur,h1,_⟩:=h.row h0;exact heap_lt h1)
 have hcp6:=(h.cp 6 (.inr rfl)).1
 have hfa:=Lib.hid h.fa
 obtain ⟨hcf1,hcf2⟩:=h.cf
 unfold maxLen at hc2 hcf2
 clear hb1 hz1 hX1 hb2 hX2 hz2 h hF
 unfold M4.val
 go_enter Tryz.func76,Tryz.ntmps76
 go_wp2_with fail
 generalize (w.alloc (.cells #[.int .i64 d.op,.int .i64 d.x,.int .i64 d.y,.int .i64 d.n,u] 75)).alloc (.cells #[.slice m.fa ts.length m.cf,.slice (some ⟨m.bl 6,0,none⟩) n (m.cp 6)] 81)=W1 at *
 clear hmk
 have hfl0:=(FlAt.made W1 n).wide
 have hbm:=(Below.refl W1.heap.size W1).alloc (Nat.le_refl _) (.cells (madeCells #[.bool false] n) 4)
 rw [HZ2.out] at hfl0
 have HG0:=Lib.hid hfl0
 have hgm:W1.grownBy (W1.alloc (.cells (madeCells #[.bool false] n) 4)) (some (w.heap.size+1+1)):=World.grownBy_alloc _ _ _
 have HM0:=Lib.hid hgm
 generalize W1.alloc (.cells (madeCells #[.bool false] n) 4)=W2 at *
 clear hfl0 hbm hgm
 go_loopw [10] (fun i wr=>∃ k:Nat,i=.int .i64 k∧k≤ts.length∧Hid (FlW wr (w.heap.size+1+1) n (lvF ts d live S k))∧Hid (W1.grownBy wr (some (w.heap.size+1+1)))) (fun i _=>ts.length-(intOf i).toNat)
 case atStart=>exact ⟨0,rfl,Nat.zero_le _,HG0,HM0⟩
 case round =>
  clear HG0 HM0
  obtain ⟨k,rfl,hk,HG,HM⟩:=hrel
  have hbl:∀ b,b<W1.heap.size→b≠w.heap.size+1+1→wr.heap[b]?=W1.heap[b]?:=fun b h1 h2=>HM.out.block b h1 (fun e=>h2 (by injection e))
  have HBL:=Lib.hid hbl
  have hwr:Below w.heap.size w wr:=HB2.out.grown HM.out (by have:=HZ2.out;omega) (fun j hj=>(by have hq:w.heap.size+1+1=j:=(by simpa using hj);omega))
  have HWR:=Lib.hid hwr
  clear hwr hbl
  by_cases hlt:k<ts.length
  ·have hFr:=HF.out.keep (HBL.out F (by have:=HFLT.out;have:=HZ2.out;omega) (by have:=HFLT.out;omega))
   have f0:=hFr.cell hlt
   have hX:=(HBL.out w.heap.size (by have:=HZ2.out;omega) (by omega)).trans HX1.out
   have q0:wr.cell? ⟨w.heap.size,0,none⟩=some (.int .i64 d.op):=(cB hX 0).trans rfl
   have q1:wr.cell? ⟨w.heap.size,1,none⟩=some (.int .i64 d.x):=(cB hX 1).trans rfl
   have q2:wr.cell? ⟨w.heap.size,2,none⟩=some (.int .i64 d.y):=(cB hX 2).trans rfl
   have q3:wr.cell? ⟨w.heap.size,3,none⟩=some (.int .i64 d.n):=(cB hX 3).trans rfl
   have q4:wr.cell? ⟨w.heap.size,4,none⟩=some u:=(cB hX 4).trans rfl
   have ki0:(0:Int)≤(k:Int):=by omega
   have ki1:(k:Int)<(ts.length:Int):=by omega
   have HSKIP:Hid (lvOk ts d live k=false→∀ W,FlW W (w.heap.size+1+1) n (lvF ts d live S k)→Hid (FlW W (w.heap.size+1+1) n (lvF ts d live S (k+1)))):=Lib.hid (fun e W hW=>hW.congr (fun i _=>by
    show (lvF ts d live S k i || (lvOk ts d live k && S k i))=lvF ts d live S k i
    rw [e];simp))
   clear hX hFr
   obtain ⟨lv,hlv⟩:∃ b,live k=b:=⟨_,rfl⟩
   rw [hlv] at f0
   have HLV:=Lib.hid hlv
   clear hlv
   cases lv
   ·have HN:=HSKIP.out (by unfold lvOk;rw [HLV.out];rfl) wr HG.out
    clear HSKIP HG
    go_wp2_with fail
    refine ⟨⟨k+1,by simp,by omega,HN,HM⟩,?_⟩
    simp only [intOf]
    omega
   ·have hs:=HSE.out wr
    go_wp2_with fail
    refine hs.mono ?_
    rintro E w3 ⟨rfl,hb3⟩
    have HG3:=Lib.hid (HG.out.keep (hb3.block _ HG.out.lt))
    have HM3:=Lib.hid (grown_below HM.out hb3)
    have HWR3:=Lib.hid (HWR.out.trans (hb3.mono HWR.out.size))
    have g0:=(hb3.cell (p:=⟨w.heap.size,0,none⟩) (by have:=HM.out.size;have:=HZ2.out;show w.heap.size<_;omega)).trans q0
    have g1:=(hb3.cell (p:=⟨w.heap.size,1,none⟩) (by have:=HM.out.size;have:=HZ2.out;show w.heap.size<_;omega)).trans q1
    have g2:=(hb3.cell (p:=⟨w.heap.size,2,none⟩) (by have:=HM.out.size;have:=HZ2.out;show w.heap.size<_;omega)).trans q2
    have g3:=(hb3.cell (p:=⟨w.heap.size,3,none⟩) (by have:=HM.out.size;have:=HZ2.out;show w.heap.size<_;omega)).trans q3
    have g4:=(hb3.cell (p:=⟨w.heap.size,4,none⟩) (by have:=HM.out.size;have:=HZ2.out;show w.heap.size<_;omega)).trans q4
    clear hs hb3 q0 q1 q2 q3 q4 f0 HG HM HWR HBL
    obtain ⟨s,hs⟩:∃ s,s=setI d:=⟨_,rfl⟩
    rw [← hs]
    have HSS:=Lib.hid hs
    clear hs
    by_cases hsk:s=(k:Int)
    ·have HN:=HSKIP.out (by unfold lvOk;rw [← HSS.out,decide_eq_true hsk];simp) w3 HG3.out
     subst hsk
     clear HSKIP HG3
     go_wp2_with fail
     refine ⟨⟨k+1,by simp,by omega,HN,HM3⟩,?_⟩
     simp only [intOf]
     omega
    ·have hsn:((k:Int) != s)=true:=by simp;omega
     have hsd:decide ((k:Int)=s)=false:=decide_eq_false (fun e=>hsk e.symm)
     have hu:=HU.out w3 HWR3.out k hlt
     obtain ⟨U,hU⟩:∃ U,useI ts d k=U:=⟨_,rfl⟩
     rw [hU] at hu
     have HUE:=Lib.hid hU
     clear hU
     go_wp2_with fail
     refine hu.mono ?_
     rintro E w4 ⟨rfl,hb4⟩
     have HG4:=Lib.hid (HG3.out.keep (hb4.block _ HG3.out.lt))
     have HM4:=Lib.hid (grown_below HM3.out hb4)
     clear hu hb4 g0 g1 g2 g3 g4 HG3 HM3 HWR3
     by_cases hU2:U=2
     ·have HN:=HSKIP.out (by unfold lvOk;rw [HUE.out,decide_eq_true hU2];simp) w4 HG4.out
      subst hU2
      clear HSKIP HG4
      go_wp2_with fail
      refine ⟨⟨k+1,by simp,by omega,HN,HM4⟩,?_⟩
      simp only [intOf]
      omega
     ·have hUn:(U != 2)=true:=by simp [hU2]
      have hUd:decide (U=2)=false:=decide_eq_false hU2
      have hok:lvOk ts d live k=true:=by
       unfold lvOk
       rw [HLV.out,HUE.out,hUd,← HSS.out,decide_eq_false hsk]
       rfl
      have HOK:=Lib.hid hok
      have hbl:∀ b,b<W1.heap.size→b≠w.heap.size+1+1→w4.heap[b]?=W1.heap[b]?:=fun b h1 h2=>HM4.out.block b h1 (fun e=>h2 (by injection e))
      have hX:=(hbl (w.heap.size+1) (by have:=HZ2.out;omega) (by omega)).trans HX2.out
      have hfa':=hfa.out (by omega)
      have p0:w4.cell? ⟨w.heap.size+1,0,none⟩=some (.slice (some ⟨m.g,0,none⟩) ts.length m.cf):=(cB hX 0).trans (by rw [hfa'];rfl)
      have hgl:=HOG.out (by omega)
      have p1:=(World.cell?_of_block (a:=⟨m.g,k,none⟩) (hbl m.g (by have:=HZ2.out;omega) (by omega))).trans (HS.out.slot hlt)
      have hol:=HOLD.out k (.inl hlt)
      have hSk:=(HS.out.fl k (.inl hlt)).keep (hbl (m.bl k) (by have:=HZ2.out;omega) (by omega))
      obtain ⟨hk1,hk2⟩:=HS.out.cp k (.inl hlt)
      have had:=l4Add_any n (w.heap.size+1+1) n (m.bl k) (m.cp k) _ _ w4 (by omega) HG4.out hSk (by omega) (Nat.le_refl _) (by unfold maxLen;omega) hk1 hk2
      clear hbl hX hfa' hgl hol hSk hok hsn
      have hsn:((k:Int) != s)=true:=by simp;omega
      go_wp2_with fail
      refine had.mono ?_
      rintro E w5 ⟨rfl,hf5,hg5⟩
      have HN:Hid (FlW w5 (w.heap.size+1+1) n (lvF ts d live S (k+1))):=Lib.hid (hf5.congr (fun i _=>by
       show (lvF ts d live S k i || (lvOk ts d live k && S k i))=(lvF ts d live S k i || S k i)
       rw [HOK.out,Bool.true_and]))
      have HM5:=Lib.hid (grown_trans HM4.out hg5)
      clear had hf5 hg5 HG4 HM4 p0 p1
      go_wp2_with fail
      refine ⟨⟨k+1,by simp,by omega,HN,HM5⟩,?_⟩
      simp only [intOf]
      omega
  ·have hke:k=ts.length:=by omega
   subst hke
   go_wp2_with fail
   go_ret
   exact ⟨_,rfl,by omega,HG.out,HWR.out⟩
theorem Tryz.infoSt4:(Tryz.prog.info? 81).map (fun i=>(i.zero,i.size,i.bytes))=some (some (.agg #[.slice none 0 0,.slice none 0 0]),2,48):=by kernel_rfl
def missF (o:Nat→Nat→Nat→Bool) (n:Nat):Nat:=sumTo (fun i=>sumTo (fun v=>sumTo (fun l=>if o i v l then 0 else 1) n) 7) n
def addK (o:Nat→Nat→Nat→Bool) (b:Nat) (x:Nat→Nat→Bool) (k:Nat):Nat→Nat→Nat→Bool:=fun m v l=>o m v l || (decide (m=b) && (decide (v=6∨v<k) && x v l))
theorem addK_at (o:Nat→Nat→Nat→Bool) (b:Nat) (x:Nat→Nat→Bool) (k v l:Nat):addK o b x k b v l=(o b v l || (decide (v=6∨v<k) && x v l)):=by
 unfold addK
 rw [decide_eq_true rfl,Bool.true_and]
theorem addK_ne {o:Nat→Nat→Nat→Bool} {b m:Nat} {x:Nat→Nat→Bool} {k v l:Nat} (h:m≠b):addK o b x k m v l=o m v l:=by
 unfold addK
 rw [decide_eq_false h,Bool.false_and,Bool.or_false]
theorem missF_less {o:Nat→Nat→Nat→Bool} {b n T v l:Nat} {x:Nat→Nat→Bool} (hb:b<n) (hT:T≤6) (hv:okP T v) (hl:l<n) (hx:x v l=true) (ho:o b v l=false):missF (addK o b x T) n<missF o n:=by
 have hv7:v<7:=by rcases hv with h | h <;> omega
 have hle:∀ u j,(if addK o b x T b u j then 0 else 1)≤(if o b u j then 0 else 1):=fun u j=>by
  rw [addK_at]
  cases o b u j <;> cases (decide (u=6∨u<T) && x u j) <;> simp
 refine sumTo_less hb ?_ (fun i hi=>by simp only [addK_ne hi])
 refine sumTo_lt hv7 ?_ (fun u hu=>sumTo_le fun j hj=>hle u j)
 refine sumTo_lt hl ?_ (fun j hj=>hle v j)
 show (if addK o b x T b v l then 0 else 1)<(if o b v l then 0 else 1)
 rw [addK_at,ho,hx,decide_eq_true (hv.symm),Bool.true_and,Bool.false_or]
 decide
structure F4 (w:World) (B R n T:Nat) (ms:Nat→M4) (o:Nat→Nat→Nat→Bool):Prop where
 row:∃ cur,w.heap[R]?=some (.cells cur 81 (0,0))∧∀ i,i<n→cur[i*2]?=some (.slice (ms i).fa T (ms i).cf)∧cur[i*2+1]?=some (.slice (some ⟨(ms i).bl 6,0,none⟩) n ((ms i).cp 6))
 st:∀ i,i<n→S4 w B T n (ms i) (o i)
 apart:∀ i j u v,i<n→j<n→okP T u→okP T v→(ms i).bl u=(ms j).bl v→i=j
 oR:B≤R
theorem F4.lt {w:World} {B R n T:Nat} {ms:Nat→M4} {o:Nat→Nat→Nat→Bool} (h:F4 w B R n T ms o):R<w.heap.size:=by
 obtain ⟨cur,h1,_⟩:=h.row
 exact heap_lt h1
theorem F4.keep {w w':World} {B R n T:Nat} {ms:Nat→M4} {o:Nat→Nat→Nat→Bool} (h:F4 w B R n T ms o) (hb:Below w.heap.size w w'):F4 w' B R n T ms o :=
 ⟨(by
  obtain ⟨cur,h1,h2⟩:=h.row
  exact ⟨cur,(hb.block _ (heap_lt h1)).trans h1,h2⟩),fun i hi=>(h.st i hi).keep hb,h.apart,h.oR⟩
theorem F4.cells {w:World} {B R n T:Nat} {ms:Nat→M4} {o:Nat→Nat→Nat→Bool} (h:F4 w B R n T ms o) {i:Nat} (hi:i<n) :
  w.cell? ⟨R,i*2,none⟩=some (.slice (ms i).fa T (ms i).cf)∧w.cell? ⟨R,i*2+1,none⟩=some (.slice (some ⟨(ms i).bl 6,0,none⟩) n ((ms i).cp 6)):=by
 obtain ⟨cur,h1,h2⟩:=h.row
 exact ⟨(cB h1 _).trans (h2 i hi).1,(cB h1 _).trans (h2 i hi).2⟩
theorem FlW.apart_st {w:World} {F n F':Nat} {fl:Nat→Bool} {cur:Array Value} (h:FlW w F n fl) (h':w.heap[F']?=some (.cells cur 81 (0,0))):F'≠F:=by
 rintro rfl
 obtain ⟨cs,h1,_⟩:=h
 rw [h1] at h'
 injection h' with h'
 injection h' with _ h' _
 exact absurd h' (by decide)
theorem F4.write {w w':World} {B R n T:Nat} {ms:Nat→M4} {o:Nat→Nat→Nat→Bool} {b u:Nat} {x:Nat→Bool} (h:F4 w B R n T ms o) (hb:b<n) (hu:okP T u) (hg:w.grownBy w' (some ((ms b).bl u))) (hx:FlW w' ((ms b).bl u) n x):F4 w' B R n T ms (setR o b (setR (o b) u x)):=by
 refine ⟨?_,fun i hi=>?_,h.apart,h.oR⟩
 ·obtain ⟨cur,h1,h2⟩:=h.row
  exact ⟨cur,(hg.block _ (heap_lt h1) (fun e=>((h.st b hb).fl u hu).apart_st h1 (by injection e))).trans h1,h2⟩
 ·by_cases hib:i=b
  ·subst hib
   rw [setR_at]
   exact (h.st i hi).write hu hg hx
  ·rw [setR_ne _ _ _ hib]
   exact (h.st i hi).aside ((h.st b hb).fl u hu) (fun v hv e=>hib (h.apart i b v u hi hb hv hu e)) hg
theorem F4.congr {w:World} {B R n T:Nat} {ms:Nat→M4} {o o':Nat→Nat→Nat→Bool} (h:F4 w B R n T ms o) (e:∀ m v l,m<n→okP T v→l<n→o' m v l=o m v l):F4 w B R n T ms o' :=
 ⟨h.row,fun i hi=>(h.st i hi).congr (fun v l hv hl=>e i v l hi hv hl),h.apart,h.oR⟩
def Rows5 (w:World) (B:Nat) (v:Value) (k n T:Nat) (ms:Nat→M4):Prop :=
 ∃ xs,w.ownsRow B 81 2 v k xs∧(∀ i,i<k→xs[i*2]?=some (.slice (ms i).fa T (ms i).cf)∧xs[i*2+1]?=some (.slice (some ⟨(ms i).bl 6,0,none⟩) n ((ms i).cp 6)))∧(∀ i,i<k→S4 w B T n (ms i) (fun _ _=>false))∧∀ i j u v,i<k→j<k→okP T u→okP T v→(ms i).bl u=(ms j).bl v→i=j
theorem Rows5.below {w w':World} {B:Nat} {v:Value} {k n T:Nat} {ms:Nat→M4} (h:Rows5 w B v k n T ms) (hb:Below w.heap.size w w'):Rows5 w' B v k n T ms:=by
 obtain ⟨xs,ho,h1,h2,h3⟩:=h
 exact ⟨xs,ho.kept (below_grown hb) (by cases hv:v.ownBlock <;> simp),h1,fun i hi=>(h2 i hi).keep hb,h3⟩
theorem Rows5.nil (w:World) (B n T:Nat) (hB:B≤w.heap.size):Rows5 (w.alloc (.cells #[] 81)) B (.slice (some ⟨w.heap.size,0,none⟩) 0 0) 0 n T (fun _=>⟨none,0,0,fun _=>0,fun _=>0⟩) :=
 ⟨[],World.ownsRow_lit (base:=B) (e:=81) (size:=2) w #[] 0 hB (by simp [maxLen]) rfl,fun i hi=>absurd hi (Nat.not_lt_zero _),fun i hi=>absurd hi (Nat.not_lt_zero _),fun i j u v hi=>absurd hi (Nat.not_lt_zero _)⟩
theorem Rows5.slice {w:World} {B:Nat} {v:Value} {k n T:Nat} {ms:Nat→M4} (h:Rows5 w B v k n T ms):∃ A c,v=.slice A k c∧k≤c∧c≤maxLen:=by
 obtain ⟨xs,ho,_⟩:=h
 rcases ho.2 with ⟨rfl,h0⟩ | ⟨g,cap,cur,hv,_,_,h4,h5,_⟩
 ·subst h0
  exact ⟨none,0,rfl,Nat.le_refl _,Nat.zero_le _⟩
 ·exact ⟨_,_,hv,h4,h5⟩
theorem S4.grown {w w':World} {B T n:Nat} {m:M4} {S:Nat→Nat→Bool} {v:Value} {k:Nat} {xs:List Value} (h:S4 w B T n m S) (ho:w.ownsRow B 81 2 v k xs) (hg:w.grownBy w' v.ownBlock):S4 w' B T n m S:=by
 have hne:∀ g,(∃ cur t,w.heap[g]?=some (.cells cur t (0,0))∧t≠81)→some g≠v.ownBlock:=fun g hgt e=>by
  obtain ⟨cur,t,h1,h2⟩:=hgt
  obtain ⟨cur',h3⟩:=ownBlock_row ho g e.symm
  rw [h1] at h3
  injection h3 with h3
  injection h3 with _ h3 _
  exact h2 h3
 exact ⟨h.fa,fun h0=>by
  obtain ⟨cur,h1,h2⟩:=h.row h0
  exact ⟨cur,(hg.block _ (heap_lt h1) (hne _ ⟨_,_,h1,by decide⟩)).trans h1,h2⟩,h.cf,fun u hu=>by
  have hf:=h.fl u hu
  obtain ⟨cs,h1,_⟩:=id hf
  exact hf.keep (hg.block _ hf.lt (hne _ ⟨_,_,h1,by decide⟩)),h.cp,h.inj,h.own,h.og⟩
theorem Rows5.more {w w2:World} {B g cap k n T:Nat} {v:Value} {ms:Nat→M4} {m:M4} {xs:List Value} {K:Nat} (ho:w.ownsRow B 81 2 v k xs)
  (h1:∀ i,i<k→xs[i*2]?=some (.slice (ms i).fa T (ms i).cf)∧xs[i*2+1]?=some (.slice (some ⟨(ms i).bl 6,0,none⟩) n ((ms i).cp 6)))
  (h2:∀ i,i<k→S4 w B T n (ms i) (fun _ _=>false)) (h3:∀ i j u v,i<k→j<k→okP T u→okP T v→(ms i).bl u=(ms j).bl v→i=j)
  (hm:S4 w K T n m (fun _ _=>false)) (hK:B≤K) (hlt:∀ i u,i<k→okP T u→(ms i).bl u<K) (hg:w.grownBy w2 v.ownBlock)
  (ho2:w2.ownsRow B 81 2 (.slice (some ⟨g,0,none⟩) (k+1) cap) (k+1) (xs++[.slice m.fa T m.cf,.slice (some ⟨m.bl 6,0,none⟩) n (m.cp 6)])) :
  Rows5 w2 B (.slice (some ⟨g,0,none⟩) (k+1) cap) (k+1) n T (setR ms k m):=by
 have hl:xs.length=k*2:=ho.1
 refine ⟨_,ho2,fun i hi=>?_,fun i hi=>?_,fun i j u v hi hj hu hv e=>?_⟩
 ·by_cases hik:i=k
  ·subst hik
   rw [setR_at]
   constructor
   ·rw [List.getElem?_append_right (by omega),hl,Nat.sub_self];rfl
   ·rw [List.getElem?_append_right (by omega),hl,show i*2+1-i*2=1 from by omega];rfl
  ·rw [setR_ne _ _ _ hik,List.getElem?_append_left (by omega),List.getElem?_append_left (by omega)]
   exact h1 i (by omega)
 ·by_cases hik:i=k
  ·subst hik
   rw [setR_at]
   exact (hm.lower hK).grown ho hg
  ·rw [setR_ne _ _ _ hik]
   exact (h2 i (by omega)).grown ho hg
 ·by_cases hik:i=k
  ·by_cases hjk:j=k
   ·omega
   ·subst hik
    rw [setR_at,setR_ne _ _ _ hjk] at e
    have a1:=hm.own u hu
    have a2:=hlt j v (by omega) hv
    omega
  ·by_cases hjk:j=k
   ·subst hjk
    rw [setR_at,setR_ne _ _ _ hik] at e
    have a1:=hm.own v hv
    have a2:=hlt i u (by omega) hu
    omega
   ·rw [setR_ne _ _ _ hik,setR_ne _ _ _ hjk] at e
    exact h3 i j u v (by omega) (by omega) hu hv e
theorem Rows5.done {w:World} {B:Nat} {v:Value} {n T:Nat} {ms:Nat→M4} (h:Rows5 w B v n n T ms) (hn:0<n):∃ R c,v=.slice (some ⟨R,0,none⟩) n c∧n≤c∧c≤maxLen∧F4 w B R n T ms (fun _ _ _=>false):=by
 obtain ⟨xs,ho,h1,h2,h3⟩:=h
 rcases ho.2 with ⟨_,h0⟩ | ⟨g,cap,cur,hv,hB,h4,h5,h6,h7,h8⟩
 ·omega
 ·refine ⟨g,cap,hv,h5,h6,⟨cur,h4,fun i hi=>?_⟩,h2,h3,hB⟩
  have hq:∀ j,j<n*2→cur[j]?=xs[j]?:=fun j hj=>by
   rw [← h8,List.getElem?_take,if_pos hj]
   simp
  rw [hq _ (by omega),hq _ (by omega)]
  exact h1 i hi
theorem Rows5.lt {w:World} {B:Nat} {v:Value} {k n T:Nat} {ms:Nat→M4} (h:Rows5 w B v k n T ms) {i u:Nat} (hi:i<k) (hu:okP T u):(ms i).bl u<w.heap.size:=by
 obtain ⟨xs,_,_,h2,_⟩:=h
 exact ((h2 i hi).fl u hu).lt
theorem F4.start {w:World} {B R n T:Nat} {ms:Nat→M4} {o:Nat→Nat→Nat→Bool} {b:Nat} {x:Nat→Nat→Bool} (h:F4 w B R n T ms (setR o b (setR (o b) 6 (fun l=>o b 6 l || x 6 l)))) (hT:T≤6):F4 w B R n T ms (addK o b x 0) :=
 h.congr fun m v l hm hv hl=>by
  by_cases hmb:m=b
  ·subst hmb
   rw [addK_at,setR_at]
   by_cases hv6:v=6
   ·subst hv6
    rw [setR_at,decide_eq_true (.inl rfl),Bool.true_and]
   ·rw [setR_ne _ _ _ hv6,decide_eq_false (fun q=>q.elim hv6 (Nat.not_lt_zero _)),Bool.false_and,Bool.or_false]
  ·rw [addK_ne hmb,setR_ne _ _ _ hmb]
theorem F4.next {w:World} {B R n T k:Nat} {ms:Nat→M4} {o:Nat→Nat→Nat→Bool} {b:Nat} {x:Nat→Nat→Bool} (h:F4 w B R n T ms (setR (addK o b x k) b (setR (addK o b x k b) k (fun l=>addK o b x k b k l || x k l)))) (hk:k<T) (hT:T≤6):F4 w B R n T ms (addK o b x (k+1)) :=
 h.congr fun m v l hm hv hl=>by
  by_cases hmb:m=b
  ·subst hmb
   rw [addK_at,setR_at]
   by_cases hvk:v=k
   ·subst hvk
    rw [setR_at,addK_at,decide_eq_true (.inr (by omega)),decide_eq_false (by omega),Bool.true_and,Bool.false_and,Bool.or_false]
   ·rw [setR_ne _ _ _ hvk,addK_at,show decide (v=6∨v<k+1)=decide (v=6∨v<k) from decide_eq_decide.mpr (by omega)]
  ·rw [addK_ne hmb,setR_ne _ _ _ hmb,addK_ne hmb]
structure A4 (w0 w:World) (d:Nd) (u:Value) (X O T n:Nat) (m:M4) (t:Nat→Nat→Bool):Prop where
 below:Below w0.heap.size w0 w
 rs:w.heap[w0.heap.size+1]?=some (.cells #[.slice none 0 0,.slice none 0 0] 81 (0,0))
 xb:w.heap[X]?=some (.cells #[.int .i64 d.op,.int .i64 d.x,.int .i64 d.y,.int .i64 d.n,u] 75 (0,0))
 ob:w.heap[O]?=some (.cells #[.slice m.fa T m.cf,.slice (some ⟨m.bl 6,0,none⟩) n (m.cp 6)] 81 (0,0))
 st:S4 w w0.heap.size T n m t
section
variable {w0 w w':World} {d:Nd} {u:Value} {X O T n:Nat} {m:M4} {t:Nat→Nat→Bool}
theorem A4.keep (h:A4 w0 w d u X O T n m t) (hb:Below w.heap.size w w'):A4 w0 w' d u X O T n m t :=
 ⟨h.below.trans (hb.mono h.below.size),(hb.block _ (heap_lt h.rs)).trans h.rs,(hb.block _ (heap_lt h.xb)).trans h.xb,(hb.block _ (heap_lt h.ob)).trans h.ob,h.st.keep hb⟩
theorem FlW.apart_of {w:World} {F n F':Nat} {fl:Nat→Bool} {cur:Array Value} {ty:TypeId} {z:Nat × Nat} (h:FlW w F n fl) (h':w.heap[F']?=some (.cells cur ty z)) (ht:ty≠4):F'≠F:=by
 rintro rfl
 obtain ⟨cs,h1,_⟩:=h
 rw [h1] at h'
 injection h' with h'
 injection h' with _ h' _
 exact ht h'.symm
theorem A4.write (h:A4 w0 w d u X O T n m t) {v:Nat} (hv:okP T v) {x:Nat→Bool} (hg:w.grownBy w' (some (m.bl v))) (hx:FlW w' (m.bl v) n x):A4 w0 w' d u X O T n m (setR t v x):=by
 have hf:=h.st.fl v hv
 have hne:∀ {F':Nat} {cur:Array Value} {ty:TypeId},w.heap[F']?=some (.cells cur ty (0,0))→ty≠4→w'.heap[F']?=some (.cells cur ty (0,0)):=fun h' ht=>(hg.block _ (heap_lt h') (fun e=>hf.apart_of h' ht (by injection e))).trans h'
 exact ⟨h.below.grown hg h.below.size (fun j hj=>by have:=h.st.own v hv;injection hj with hj;omega),hne h.rs (by decide),hne h.xb (by decide),hne h.ob (by decide),h.st.write hv hg hx⟩
theorem A4.swap (h:A4 w0 w d u X O T n m t) {v F c:Nat} {x:Nat→Bool} (hT:T≤6) (hv:v<T) (hF:FlW w F n x) (hne:∀ u,okP T u→u≠v→m.bl u≠F) (hFB:w0.heap.size≤F) (hc:n≤c∧c≤maxLen) :
  A4 w0 (w.setCell ⟨m.g,v,none⟩ (.slice (some ⟨F,0,none⟩) n c)) d u X O T n (m.swap v F c) (setR t v x):=by
 obtain ⟨cur,h1,h2⟩:=h.st.row (by omega)
 have hk:∀ {F':Nat} {cur':Array Value} {ty:TypeId},w.heap[F']?=some (.cells cur' ty (0,0))→ty≠72→(w.setCell ⟨m.g,v,none⟩ (.slice (some ⟨F,0,none⟩) n c)).heap[F']?=some (.cells cur' ty (0,0)):=fun {F'} {cur'} {ty} h' ht=>by
  refine (heap_setCell_other _ _ _ _ (fun e=>?_)).trans h'
  have e':F'=m.g:=e
  rw [e',h1] at h'
  injection h' with h'
  injection h' with _ h' _
  exact ht h'.symm
 have hbx:=hk h.ob (by decide)
 refine ⟨below_set h.below (h.st.og (by omega)),hk h.rs (by decide),hk h.xb (by decide),?_,h.st.swap hv hF hne hFB hc⟩
 rw [hbx]
 unfold M4.swap
 simp only [setR_ne _ _ _ (show 6≠v from by omega)]
theorem FlW.swapped {F:Nat} {fl:Nat→Bool} (h:FlW w F n fl) {m:M4} {B:Nat} {S:Nat→Nat→Bool} (hS:S4 w B T n m S) (h0:0<T) (v:Nat) (y:Value):FlW (w.setCell ⟨m.g,v,none⟩ y) F n fl:=by
 obtain ⟨cur,h1,_⟩:=hS.row h0
 exact h.keep (heap_setCell_other _ _ _ _ (fun e=>h.apart_of h1 (by decide) (show m.g=F from Eq.symm e)))
theorem A4.pt (h:A4 w0 w d u X O T n m t):w.cell? ⟨X,0,none⟩=some (.int .i64 d.op)∧w.cell? ⟨X,1,none⟩=some (.int .i64 d.x)∧w.cell? ⟨X,2,none⟩=some (.int .i64 d.y)∧w.cell? ⟨X,3,none⟩=some (.int .i64 d.n)∧w.cell? ⟨X,4,none⟩=some u :=
 ⟨(cB h.xb 0).trans rfl,(cB h.xb 1).trans rfl,(cB h.xb 2).trans rfl,(cB h.xb 3).trans rfl,(cB h.xb 4).trans rfl⟩
theorem A4.box (h:A4 w0 w d u X O T n m t):w.cell? ⟨O,0,none⟩=some (.slice m.fa T m.cf)∧w.cell? ⟨O,1,none⟩=some (.slice (some ⟨m.bl 6,0,none⟩) n (m.cp 6)) :=
 ⟨(cB h.ob 0).trans rfl,(cB h.ob 1).trans rfl⟩
theorem A4.res (h:A4 w0 w d u X O T n m t):w.cell? ⟨w0.heap.size+1,0,none⟩=some (.slice none 0 0)∧w.cell? ⟨w0.heap.size+1,1,none⟩=some (.slice none 0 0)∧w.frozen? ⟨w0.heap.size+1,0,none⟩=false∧w.frozen? ⟨w0.heap.size+1,1,none⟩=false :=
 ⟨(cB h.rs 0).trans rfl,(cB h.rs 1).trans rfl,frozen_of_row _ _ _ _ _ h.rs,frozen_of_row _ _ _ _ _ h.rs⟩
theorem A4.congr (h:A4 w0 w d u X O T n m t) {t':Nat→Nat→Bool} (e:∀ v l,okP T v→l<n→t' v l=t v l):A4 w0 w d u X O T n m t':=⟨h.below,h.rs,h.xb,h.ob,h.st.congr e⟩
theorem A4.drew (h:A4 w0 w d u X O T n m t):A4 w0 w.drew d u X O T n m t:=⟨h.below.drew,h.rs,h.xb,h.ob,h.st.keep (Below.refl _ _).drew⟩
end
theorem okP_lt {T v:Nat} (hT:T≤6) (h:okP T v):v<7:=by rcases h with h | h <;> omega
theorem aft_dom {ts:List Int} {ns:List Nd} (hA:AllTyped ts ns) {a:Nat} {d:Nd} (hd:ns[a]?=some d) {S:Nat→Nat→Bool} (hS:∀ v l,S v l=true→okP ts.length v∧l<ns.length) {v l:Nat} (h:aftF ts ns a d S v l=true):okP ts.length v∧l<ns.length:=by
 have han:=(List.getElem?_eq_some_iff.mp hd).1
 have hty:=hA.2 a d hd
 unfold aftF at h
 by_cases h6:v=6
 ·subst h6
  rw [if_pos rfl,Bool.or_eq_true,Bool.and_eq_true,Bool.and_eq_true] at h
  refine ⟨.inr rfl,?_⟩
  rcases h with ⟨_,h⟩ | ⟨h,_⟩
  ·rw [decide_eq_true_eq] at h
   omega
  ·exact (hS 6 l h).2
 ·rw [if_neg h6] at h
  by_cases hs:setI d=(v:Int)
  ·rw [if_pos hs,Bool.or_eq_true,Bool.and_eq_true,Bool.and_eq_true] at h
   have hv:=typed_set hty v (by omega) hs
   refine ⟨.inl (by omega),?_⟩
   rcases h with ⟨_,h⟩ | ⟨_,h⟩
   ·rw [decide_eq_true_eq] at h
    omega
   ·exact (hS _ l h).2
  ·rw [if_neg hs] at h
   by_cases hu:useI ts d (v:Int)=2
   ·rw [if_pos hu] at h
    cases h
   ·rw [if_neg hu] at h
    exact hS v l h
structure K4 (ts:List Int) (ns:List Nd) (o0 o:Nat→Nat→Nat→Bool) (c:Bool) (k j M:Nat) (d:Nd):Prop where
 p:P4 (eN ns) (genL ns) (handL ts ns) ns.length ts.length o c (fun i m=>i<k∨(i=k∧∃ y,y<j∧d.next[y]?=some (m:Int)))
 same:c=false→o k=o0 k
 dec:c=true→missF o ns.length<M
 le:missF o ns.length≤M
 old:∀ v l,o0 k v l=true→(okP ts.length v∧l<ns.length)∧LoanB ts ns k v l
structure J4 (ts:List Int) (ns:List Nd) (o:Nat→Nat→Nat→Bool) (c:Bool) (k M:Nat):Prop where
 p:P4 (eN ns) (genL ns) (handL ts ns) ns.length ts.length o c (fun i m=>i<k)
 dec:c=true→missF o ns.length<M
 le:missF o ns.length≤M
def Q4 (ts:List Int) (ns:List Nd) (o:Nat→Nat→Nat→Bool) (c:Bool):Prop:=P4 (eN ns) (genL ns) (handL ts ns) ns.length ts.length o c (fun _ _=>True)
theorem Q4.zero (ts:List Int) (ns:List Nd):Q4 ts ns (fun _ _ _=>false) true:=⟨fun m v l h=>(by cases h),fun m v l _ h=>(by cases h),fun h=>(by cases h)⟩
theorem Q4.pass {ts:List Int} {ns:List Nd} {o:Nat→Nat→Nat→Bool} {c:Bool} (h:Q4 ts ns o c):J4 ts ns o false 0 (missF o ns.length) :=
 ⟨⟨h.dom,h.sound,fun _ i m hd=>absurd hd (Nat.not_lt_zero _)⟩,fun h=>(by cases h),Nat.le_refl _⟩
theorem eN_lt {ns:List Nd} {a b:Nat} (h:eN ns a b):a<ns.length:=by
 rcases Nat.lt_or_ge a ns.length with h9 | h9
 ·exact h9
 ·exfalso
  have hab':b∈nextN ns a:=h
  unfold nextN nextP at hab'
  rw [List.getElem?_eq_none h9] at hab'
  simp at hab'
theorem J4.pass {ts:List Int} {ns:List Nd} {o:Nat→Nat→Nat→Bool} {c:Bool} {M:Nat} (h:J4 ts ns o c ns.length M):Q4 ts ns o c :=
 h.p.congr fun i m he _=>eN_lt he
theorem J4.point {ts:List Int} {ns:List Nd} {o:Nat→Nat→Nat→Bool} {c:Bool} {k M:Nat} (h:J4 ts ns o c k M) (hk:k<ns.length) (d:Nd):K4 ts ns o o c k 0 M d :=
 ⟨h.p.congr fun i m he hd=>hd.elim id (fun q=>by obtain ⟨_,y,hy,_⟩:=q;exact absurd hy (Nat.not_lt_zero _)),fun _=>rfl,h.dec,h.le,fun v l hv=>⟨h.p.dom k v l hv,h.p.sound k v l hk hv⟩⟩
theorem K4.done {q:Nat} {ts:List Int} {ns:List Nd} {o0 o:Nat→Nat→Nat→Bool} {c:Bool} {k M:Nat} {d:Nd} (h:K4 ts ns o0 o c k d.next.length M d) (hD:PtsOk q ns) (hle:ns.length≤61) (hd:ns[k]?=some d):J4 ts ns o c (k+1) M :=
 ⟨h.p.congr fun i m he hik=>by
  by_cases hi:i<k
  ·exact .inl hi
  ·have hik':i=k:=by have:i<k+1:=hik;omega
   subst hik'
   obtain ⟨d',y,e1,e2⟩:=(mem_nextN hD hle _ _).mp he
   rw [hd] at e1
   injection e1 with e1
   subst e1
   exact .inr ⟨rfl,y,(List.getElem?_eq_some_iff.mp e2.1).1,e2.1⟩,h.dec,h.le⟩
theorem K4.beh {ts:List Int} {ns:List Nd} {o0 o:Nat→Nat→Nat→Bool} {c:Bool} {k j M:Nat} {d:Nd} (h:K4 ts ns o0 o c k j M d) (hA:AllTyped ts ns) (hd:ns[k]?=some d) {v l:Nat} (hv:v<7) :
  aftF ts ns k d (o0 k) v l=true↔Beh (genL ns) (handL ts ns) k (flP (o0 k)) v l :=
 aftF_iff hA hd (fun v l hv hs=>LoanB.ref hA (h.old v l hs).2 hv) hv
theorem K4.keep {ts:List Int} {ns:List Nd} {o0 o:Nat→Nat→Nat→Bool} {c:Bool} {k j b M:Nat} {d:Nd} (h:K4 ts ns o0 o c k j M d) (hA:AllTyped ts ns) (hd:ns[k]?=some d) (hb:d.next[j]?=some (b:Int))
  (hw:within ts.length (aftF ts ns k d (o0 k)) (o b) ns.length):K4 ts ns o0 o c k (j+1) M d:=by
 refine ⟨h.p.same (a:=k) (b:=b) (x:=aftF ts ns k d (o0 k)) (fun hc v l hv hl hB=>?_) (fun v l hv hl hx=>hw v l hv hl hx) (fun i m hm=>?_),h.same,h.dec,h.le,h.old⟩
 ·rw [h.same hc] at hB
  exact (h.beh hA hd (okP_lt hA.1 hv)).mpr hB
 ·rcases hm with hm | ⟨hm,y,hy,hym⟩
  ·exact .inl (.inl hm)
  ·by_cases hyj:y=j
   ·subst hyj
    rw [hb] at hym
    injection hym with hym
    exact .inr ⟨hm,by omega⟩
   ·exact .inl (.inr ⟨hm,y,by omega,hym⟩)
theorem K4.add {q:Nat} {ts:List Int} {ns:List Nd} {o0 o:Nat→Nat→Nat→Bool} {c:Bool} {k j b M:Nat} {d:Nd} (h:K4 ts ns o0 o c k j M d) (hA:AllTyped ts ns) (hd:ns[k]?=some d) (hb:d.next[j]?=some (b:Int)) (hbn:b<ns.length) (he:eN ns k b)
  (hw:¬ within ts.length (aftF ts ns k d (o0 k)) (o b) ns.length):K4 ts ns o0 (addK o b (aftF ts ns k d (o0 k)) ts.length) true k (j+1) M d:=by
 have hdom:∀ v l,aftF ts ns k d (o0 k) v l=true→okP ts.length v∧l<ns.length:=fun v l hx=>aft_dom hA hd (fun v l hs=>(h.old v l hs).1) hx
 have hless:missF (addK o b (aftF ts ns k d (o0 k)) ts.length) ns.length<missF o ns.length:=by
  refine Classical.byContradiction fun h9=>hw fun v l hv hl hx=>?_
  cases hob:o b v l
  ·exact absurd (missF_less hbn hA.1 hv hl hx hob) h9
  ·rfl
 refine ⟨h.p.more (b:=b) (x:=aftF ts ns k d (o0 k)) hdom (fun v l hx=>?_) (fun m v l=>?_),fun hc=>(by cases hc),fun _=>Nat.lt_of_lt_of_le hless h.le,Nat.le_of_lt (Nat.lt_of_lt_of_le hless h.le),h.old⟩
 ·have hv7:=okP_lt hA.1 (hdom v l hx).1
  rcases (h.beh hA hd hv7).mp hx with h1 | ⟨u,hu,h1,h2⟩
  ·exact .gen he h1
  ·exact .step he (h.old u l h1).2 h2
 ·unfold addK
  by_cases hx:aftF ts ns k d (o0 k) v l=true
  ·have hv:=(hdom v l hx).1
   rw [decide_eq_true (show v=6∨v<ts.length from hv.symm),Bool.true_and]
  ·have hx':aftF ts ns k d (o0 k) v l=false:=by simpa using hx
   rw [hx',Bool.and_false]
theorem Q4.last {ts:List Int} {ns:List Nd} {o:Nat→Nat→Nat→Bool} (h:Q4 ts ns o false) (hA:AllTyped ts ns) {m v l:Nat} (hm:m<ns.length):o m v l=true↔LoanB ts ns m v l :=
 P4.last h (fun _ _ _=>trivial) (fun m v l hf=>LoanB.dom hA hf) (fun k v l hg=>genL_place ns k v l hg) (fun k u v l hh=>handL_place ts ns k u v l hh) hm
def valF (ts:List Int) (d:Nd) (a:Nat) (S:Nat→Nat→Bool) (l:Nat):Bool :=
 (decide (d.op=4∨d.op=5) && decide (l=a)) || (decide (d.op=3∨((d.op=4∨d.op=5)∧(tyAt ts d.y=3∨tyAt ts d.y=4))) && S d.y.toNat l)
def setF (ns:List Nd) (d:Nd) (t:Nat→Nat→Bool) (val:Nat→Bool):Nat→Nat→Bool:=if 0≤setI d then setR (setR t (setI d).toNat val) 6 (fun l=>t 6 l && !isFrom ns (setI d).toNat l) else t
def ownF (d:Nd) (a:Nat) (s:Nat→Nat→Bool):Nat→Nat→Bool:=if d.op=4∨d.op=5 then setR s 6 (setR (s 6) a true) else s
theorem isFrom_loan {ns:List Nd} {z l:Nat}:isFrom ns z l=true↔loanN ns l (z:Int):=by
 unfold loanN
 rcases h:ns[l]? with _ | d
 ·unfold isFrom
  rw [h]
  simp
 ·rw [isFrom_at h,decide_eq_true_eq]
  constructor
  ·rintro ⟨h1,h2⟩
   exact ⟨d,rfl,h1,h2⟩
  ·rintro ⟨d',h1,h2,h3⟩
   cases h1
   exact ⟨h2,h3⟩
theorem ownF_ne {d:Nd} {a v l:Nat} {s:Nat→Nat→Bool} (hv:v≠6):ownF d a s v l=s v l:=by
 unfold ownF
 split
 ·rw [setR_ne _ _ _ hv]
 ·rfl
theorem setF_ne {ns:List Nd} {d:Nd} {t:Nat→Nat→Bool} {val:Nat→Bool} {v l:Nat} (hv:v≠6):setF ns d t val v l=if setI d=(v:Int) then val l else t v l:=by
 unfold setF
 by_cases h0:0≤setI d
 ·rw [if_pos h0,setR_ne _ _ _ hv]
  by_cases hs:setI d=(v:Int)
  ·rw [if_pos hs,hs,Int.toNat_natCast,setR_at]
  ·rw [if_neg hs,setR_ne _ _ _ (by omega)]
 ·rw [if_neg h0,if_neg (by omega)]
theorem after_is {ts:List Int} {ns:List Nd} {a:Nat} {d:Nd} (hd:ns[a]?=some d) {T:Nat} (hT:T≤6) (hu:∀ z:Nat,useI ts d (z:Int)=2→z<T) (hs:setI d<6) {S:Nat→Nat→Bool} {v l:Nat} (hv:okP T v) :
  ownF d a (setF ns d (tookF ts ns d S T) (valF ts d a S)) v l=aftF ts ns a d S v l:=by
 by_cases h6:v=6
 ·subst h6
  have hlost:(∃ z:Nat,z<6∧lostN ts ns a z∧loanN ns l z)↔(∃ z:Nat,z<T∧useI ts d (z:Int)=2∧isFrom ns z l=true)∨(0≤setI d∧isFrom ns (setI d).toNat l=true):=by
   constructor
   ·rintro ⟨z,hz,h1 | h1,h2⟩
    ·have h1:=(usesN_at hd z 2).mp h1
     exact .inl ⟨z,hu z h1,h1,isFrom_loan.mpr h2⟩
    ·have h1:=(setsN_at hd z).mp h1
     refine .inr ⟨by omega,?_⟩
     rw [h1,Int.toNat_natCast]
     exact isFrom_loan.mpr h2
   ·rintro (⟨z,h1,h2,h3⟩ | ⟨h1,h2⟩)
    ·exact ⟨z,by omega,.inl ((usesN_at hd z 2).mpr h2),isFrom_loan.mp h3⟩
    ·exact ⟨(setI d).toNat,by omega,.inr ((setsN_at hd _).mpr (by omega)),isFrom_loan.mp h2⟩
  have hset:setF ns d (tookF ts ns d S T) (valF ts d a S) 6 l=true↔S 6 l=true∧¬ ∃ z:Nat,z<6∧lostN ts ns a z∧loanN ns l z:=by
   rw [hlost]
   have ht:tookF ts ns d S T 6 l=true↔S 6 l=true∧¬ ∃ z:Nat,z<T∧useI ts d (z:Int)=2∧isFrom ns z l=true:=by
    unfold tookF
    rw [if_pos rfl,Bool.and_eq_true,Bool.not_eq_true',decide_eq_false_iff_not]
   unfold setF
   by_cases h0:0≤setI d
   ·rw [if_pos h0,setR_at,Bool.and_eq_true,ht,Bool.not_eq_true']
    constructor
    ·rintro ⟨⟨h1,h2⟩,h3⟩
     refine ⟨h1,?_⟩
     rintro (h4 | ⟨_,h4⟩)
     ·exact h2 h4
     ·rw [h3] at h4;cases h4
    ·rintro ⟨h1,h2⟩
     refine ⟨⟨h1,fun h4=>h2 (.inl h4)⟩,?_⟩
     cases h5:isFrom ns (setI d).toNat l
     ·rfl
     ·exact absurd (.inr ⟨h0,h5⟩) h2
   ·rw [if_neg h0,ht]
    exact and_congr Iff.rfl ⟨fun h1 h2=>h2.elim h1 (fun h3=>h0 h3.1),fun h1 h2=>h1 (.inl h2)⟩
  rw [Bool.eq_iff_iff]
  unfold aftF
  rw [if_pos rfl,Bool.or_eq_true,Bool.and_eq_true,Bool.and_eq_true,Bool.not_eq_true',decide_eq_false_iff_not,decide_eq_true_eq,decide_eq_true_eq,← hset]
  unfold ownF
  by_cases h45:d.op=4∨d.op=5
  ·rw [if_pos h45,setR_at]
   by_cases hla:l=a
   ·subst hla
    rw [setR_at]
    exact ⟨fun _=>.inl ⟨h45,rfl⟩,fun _=>rfl⟩
   ·rw [setR_ne _ _ _ hla]
    exact ⟨.inr,fun h=>h.resolve_left (fun q=>hla q.2)⟩
  ·rw [if_neg h45]
   exact ⟨.inr,fun h=>h.resolve_left (fun q=>h45 q.1)⟩
 ·have hvT:v<T:=hv.resolve_right h6
  rw [ownF_ne h6,setF_ne h6]
  unfold aftF
  rw [if_neg h6]
  by_cases hs:setI d=(v:Int)
  ·rw [if_pos hs,if_pos hs]
   rfl
  ·rw [if_neg hs,if_neg hs]
   unfold tookF
   rw [if_neg h6]
   by_cases h2:useI ts d (v:Int)=2
   ·rw [if_pos ⟨hvT,h2⟩,if_pos h2]
   ·rw [if_neg (fun q=>h2 q.2),if_neg h2]
end Go.Proofs.YtedkkphogeealaaGreatDoor
