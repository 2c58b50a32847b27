/- The flow of loans through the points,by the program. -/
import Derived.Test.YtedkkphogeealaaGreatDoorPLimA
import Derived.Deep.DeepCutAuto
import Derived.Test.YtedkkphogeealaaGreatDoorPFloG
namespace Go.Proofs.YtedkkphogeealaaGreatDoor.flowLent
open Go.RowKit Go.Deep
set_option linter.unusedVariables false
set_option maxRecDepth 100000
set_option maxHeartbeats 8000000
structure FloL (w:World) (kn:Nat→Nat→Nat) (wr:World):Prop where
 kn:LKn 95 wr (w.heap.size+1+1) kn
 res:∃ cs,wr.heap[w.heap.size+1]?=some (.cells cs 95 (0,0))∧cs.size=427
 beg:wr.heap[w.heap.size]?=some (.cells (lentC fun _=>0).toArray 94 (0,0))
 below:Below w.heap.size w wr
theorem FloL.keep {w a b:World} {kn:Nat→Nat→Nat} (h:FloL w kn a) (hb:Below a.heap.size a b):FloL w kn b:=by
 obtain ⟨cs,r1,r2⟩:=h.res
 exact ⟨h.kn.keep hb,⟨cs,(hb.block _ (heap_lt r1)).trans r1,r2⟩,(hb.block _ (heap_lt h.beg)).trans h.beg,h.below.trans (hb.mono h.below.size)⟩
theorem FloL.drew {w a:World} {kn:Nat→Nat→Nat} (h:FloL w kn a):FloL w kn a.drew:=⟨h.kn,h.res,h.beg,h.below.drew⟩
theorem FloL.put {w a:World} {kn:Nat→Nat→Nat} (h:FloL w kn a) {m:Nat} (hm:m<61) (x:Nat→Nat):FloL w (setP kn m x) (a.setCells (w.heap.size+1+1) (m*7) (lentC x)):=by
 obtain ⟨cs,r1,r2⟩:=h.res
 have hl:=h.kn.lt
 exact ⟨h.kn.put hm x,⟨cs,(World.heap_setCells_other _ _ _ _ (by omega) (by omega)).trans r1,r2⟩,(World.heap_setCells_other _ _ _ _ (by omega) (by omega)).trans h.beg,below_setCells h.below (by omega) (by omega)⟩
theorem zero_all:Tryz.zeroCells95=Array.replicate 427 (.int .u64 0):=by kernel_rfl
theorem noLent_kn (w:World):FloL w (fun _ _=>0) (((w.alloc (.cells #[.int .u64 0,.int .u64 0,.int .u64 0,.int .u64 0,.int .u64 0,.int .u64 0,.int .u64 0] 94)).alloc (.cells Tryz.zeroCells95 95)).alloc (.cells Tryz.zeroCells95 95)):=by
 have b1:=(Below.refl w.heap.size w).alloc (Nat.le_refl _) (.cells #[.int .u64 0,.int .u64 0,.int .u64 0,.int .u64 0,.int .u64 0,.int .u64 0,.int .u64 0] 94)
 have b2:=b1.alloc (by simp) (.cells Tryz.zeroCells95 95)
 have b3:=b2.alloc (by simp;omega) (.cells Tryz.zeroCells95 95)
 have n1:=heap_alloc_new w (.cells #[.int .u64 0,.int .u64 0,.int .u64 0,.int .u64 0,.int .u64 0,.int .u64 0,.int .u64 0] 94)
 have n2:=heap_alloc_new (w.alloc (.cells #[.int .u64 0,.int .u64 0,.int .u64 0,.int .u64 0,.int .u64 0,.int .u64 0,.int .u64 0] 94)) (.cells Tryz.zeroCells95 95)
 have n3:=heap_alloc_new ((w.alloc (.cells #[.int .u64 0,.int .u64 0,.int .u64 0,.int .u64 0,.int .u64 0,.int .u64 0,.int .u64 0] 94)).alloc (.cells Tryz.zeroCells95 95)) (.cells Tryz.zeroCells95 95)
 have k:∀ (W:World) (o:Obj),Below W.heap.size W (W.alloc o):=fun W o=>(Below.refl _ _).alloc (Nat.le_refl _) o
 have hs:(Tryz.zeroCells95).size=427:=by rw [zero_all];simp
 have m1:=((k _ (.cells Tryz.zeroCells95 95)).block _ (heap_lt n1)).trans n1
 have m1:=((k _ (.cells Tryz.zeroCells95 95)).block _ (heap_lt m1)).trans m1
 have m2:=((k _ (.cells Tryz.zeroCells95 95)).block _ (heap_lt n2)).trans n2
 have e2:(w.alloc (.cells #[.int .u64 0,.int .u64 0,.int .u64 0,.int .u64 0,.int .u64 0,.int .u64 0,.int .u64 0] 94)).heap.size=w.heap.size+1:=by simp
 have e3:((w.alloc (.cells #[.int .u64 0,.int .u64 0,.int .u64 0,.int .u64 0,.int .u64 0,.int .u64 0,.int .u64 0] 94)).alloc (.cells Tryz.zeroCells95 95)).heap.size=w.heap.size+1+1:=by simp
 rw [e2] at m2
 rw [e3] at n3
 refine ⟨⟨_,n3,hs,fun m hm v hv=>?_⟩,⟨_,m2,hs⟩,m1,b3⟩
 rw [zero_all,Array.getElem?_replicate,if_pos (by omega)]
 rfl
theorem rowL_range {W:World} {g:Nat} {x:Nat→Nat} (h:W.heap[g]?=some (.cells (lentC x).toArray 94 (0,0))):W.rangeAt g 0 (lentC x):=by
 intro j v hv
 have hj:j<7:=(List.getElem?_eq_some_iff.mp hv).1
 rw [Nat.zero_add,cB h]
 simpa using hv
theorem setP_zero (m:Nat):setP (fun _ _=>0) m (fun _=>0)=fun _ _=>0:=by
 funext j v
 unfold setP
 split <;> rfl
theorem flo_start (ts:List Int) (ns:List Nd):LIn (eN ns) (genL ns) (handL ts ns) ns.length (fun _ _=>0) (fun k=>(firstSet ns.length).testBit k=true) :=
 LIn.start fun k hk=>by
  rw [flowSome.firstSet_bit]
  exact decide_eq_true hk
def Post (ts:List Int) (ns:List Nd) (w:World) (E:Ending) (w':World):Prop:=∃ (cs:Array Value) (kn:Nat→Nat→Nat),E=.returned (.agg cs)∧cs.size=427∧LRows cs 0 kn∧LIn (eN ns) (genL ns) (handL ts ns) ns.length kn (fun _=>False)∧Below w.heap.size w w'
theorem walk (ts:List Int) (ns:List Nd) (q C F hi:Nat) (A:Option Addr) (c:Nat) (ah bk:Nat→Nat) (L:Nat) (mb lv:Nat→Nat) (w:World) (h:LndIn ts ns C F hi A c ah bk L ns.length mb lv w) (hD:PtsOk q ns) (hA:AllTyped ts ns)
  (hTab:TabAt 0 Lib.deBruijn64tab w) (hg:0<w.heap.size) :
  Calls Tryz.prog 92 #[.pointer (some ⟨F,246,none⟩),.agg #[.int .u64 0,.int .u64 0,.int .u64 0,.int .u64 0,.int .u64 0,.int .u64 0,.int .u64 0],.iface 162 bothV,.func (.func 93) #[.pointer (some ⟨L,0,none⟩)] #[]] w (Post ts ns w):=by
 have hst:=noLent_kn w
 have hal:=ahead_pl
 have hml:=at_pl
 have hn1:1≤ns.length:=by have:=hD.1;omega
 have hle:=h.fl.gr.le
 have HW:=Lib.hid h
 have HD:=Lib.hid hD
 have HA:=Lib.hid hA
 have HTAB:=Lib.hid hTab
 have hFl:F<w.heap.size:=by have:=h.fl.lt;omega
 clear h hD hA hTab
 go_enter Tryz.func92,Tryz.ntmps92
 go_wp2_with fail
 generalize hw0:((w.alloc (.cells #[.int .u64 0,.int .u64 0,.int .u64 0,.int .u64 0,.int .u64 0,.int .u64 0,.int .u64 0] 94)).alloc (.cells Tryz.zeroCells95 95)).alloc (.cells Tryz.zeroCells95 95)=w0 at hst ⊢
 clear hw0
 have HST:=Lib.hid hst
 clear hst
 go_loopw [10,17] (fun _ i wr=>∃ k:Nat,i=.int .i64 k∧k≤61∧Hid (FloL w (fun _ _=>0) wr)) (fun _ i _=>61-(intOf i).toNat)
 case atStart=>exact ⟨0,rfl,Nat.zero_le _,HST⟩
 case round =>
  clear HST
  obtain ⟨k,rfl,hk,HS⟩:=hrel
  by_cases hlt:k<61
  ·have ki0:(0:Int)≤(k:Int):=by omega
   have ki1:(k:Int)<61:=by omega
   go_wp2_with fail
   refine (prodLeast_any _).mono ?_
   rintro E w2 ⟨rfl,hb2⟩
   have HS2:=Lib.hid (HS.out.keep hb2)
   have HT1:=Lib.hid (HS2.out.kn.there hlt)
   have HS3:=Lib.hid (HS2.out.put (m:=k) hlt (fun _=>0))
   rw [setP_zero] at HS3
   clear hb2 HS HS2
   have hiP:(Tryz.prog.info? 94).map (·.size)=some 7:=by kernel_rfl
   go_wp2_with (first | ((with_reducible show wpList _ _ _ _ _ _);refine wpList_store_mid rfl 94 _ _ rfl (w.heap.size+1+1) (k*7) (lentC (fun _=>0)).toArray rfl rfl ?_ hiP (lentC_one _) ?_;exact HT1.out))
   refine ⟨⟨k+1,by simp,by omega,HS3⟩,?_⟩
   simp only [intOf]
   omega
  ·have hk61:k=61:=by omega
   have kd:decide ((k:Int)<61)=false:=decide_eq_false (by omega)
   clear hk61 hlt hk
   clear hal hml
   have hfl:=HW.out.fl.keep (b:=wr) HS.out.below
   obtain ⟨cs,r1,r2,r3⟩:=hfl.row
   obtain ⟨f0,hf0⟩:∃ f0:Nat,f0=0:=⟨_,rfl⟩
   have hcr:=r3.1
   rw [show CoursIn cs 246 (0) ns.length ah=CoursIn cs 246 f0 ns.length ah from by rw [hf0]] at hcr
   have g1:wr.cell? ⟨F,246,none⟩=some (.int .i64 (f0:Int)):=(cB r1 _).trans hcr.1
   have g2:wr.cell? ⟨F,247,none⟩=some (.int .u64 ((firstSet ns.length:Nat):Int)):=(cB r1 _).trans hcr.2.1
   have hf61:f0<61:=by omega
   have fi0:(0:Int)≤(f0:Int):=by omega
   have fi1:(f0:Int)<61:=by omega
   have HFL0:=Lib.hid (flo_start ts ns)
   have g1':∀ w':World,w'.heap[F]?=wr.heap[F]?→w'.cell? ⟨F,246,none⟩=some (.int .i64 (f0:Int)):=fun w' h=>(World.cell?_of_block (a:=⟨F,246,none⟩) h).trans g1
   have g2':∀ w':World,w'.heap[F]?=wr.heap[F]?→w'.cell? ⟨F,247,none⟩=some (.int .u64 ((firstSet ns.length:Nat):Int)):=fun w' h=>(World.cell?_of_block (a:=⟨F,247,none⟩) h).trans g2
   have G1:=Lib.hid g1'
   have G2:=Lib.hid g2'
   have hS7:(fun w'=>FloL w (fun _ _=>0) w'∧w'.heap[F]?=wr.heap[F]?) wr.drew:=⟨HS.out.drew,rfl⟩
   clear hfl r1 r2 r3 hcr HS g1 g2 g1' g2'
   clear hf0
   go_upto_region 7 with fail
   refine wp_region_held_drew (S:=fun w'=>FloL w (fun _ _=>0) w'∧w'.heap[F]?=wr.heap[F]?) (by kernel_rfl) hS7 (fun hHeld=>?_)
   clear hS7
   generalize hwd:wr.drew=wd at *
   clear hwd
   refine tkd (i:=0) (v:=.pointer (some ⟨F,246,none⟩)) rfl hHeld ?_
   try simp only [Act.put,sA,sB,sC]
   refine tkd (i:=1) (v:=.pointer (some ⟨F,246,none⟩)) rfl hHeld ?_
   try simp only [Act.put,sA,sB,sC]
   refine tkd (i:=2) (v:=.pointer (some ⟨F,246,none⟩)) rfl hHeld ?_
   try simp only [Act.put,sA,sB,sC]
   refine tk (i:=3) (v:=.int .i64 (f0:Int)) rfl (Or.inl ⟨by rfl,fun w9 hSw=>by have h9:=G1.out w9 hSw.2;go_simp⟩) hHeld ?_
   try simp only [Act.put,sA,sB,sC]
   refine tk (i:=4) (v:=.agg (lentC (fun _=>0)).toArray) rfl (yieldsIf_load_mid (by rfl) _ _ rfl w.heap.size 0 rfl (lentC (fun _=>0)) _ (fun w' h=>rowL_range h.1.beg) Tryz.underlying94 rfl (by kernel_rfl)) hHeld ?_
   try simp only [Act.put,sA,sB,sC]
   refine tkd (i:=5) (v:=.pointer (some ⟨(w.heap.size+1+1),f0*7,none⟩)) rfl hHeld ?_
   try simp only [Act.put,sA,sB,sC]
   refine wpAnyH_ready (rs:=[6]) (by kernel_rfl) (by simp) ?_
   refine AllReadyH.cons (o:=⟨_,_,_,_,_,_⟩) rfl (fun K hK=>?_) AllReadyH.nil
   rw [if_pos (by rfl)]
   refine wp_store_mid _ _ _ rfl (w.heap.size+1+1) (f0*7) (lentC (fun _=>0)).toArray rfl rfl (hHeld.1.kn.there hf61) (by kernel_rfl) (lentC_one _) ?_
   simp only [Act.put]
   have hp7:=hHeld.1.put (m:=f0) hf61 (fun _=>0)
   rw [setP_zero] at hp7
   refine hK.out _ _ ⟨hp7,(World.heap_setCells_other _ _ _ _ (by have:=hHeld.1.below.size;omega) (by omega)).trans hHeld.2⟩ (fun hHeld=>?_)
   clear hK K hp7
   refine wpAnyH_done (by kernel_rfl) ?_ _
   have g2:=G2.out _ hHeld.2
   have HS4:=Lib.hid hHeld.1
   clear hHeld G1 G2
   generalize World.setCells _ _ _ _=wB at *
   go_wp2_with fail
   clear fi0 fi1 hf61 g2
   go_loopw [11] (fun wk wr=>∃ (y:Nat) (kn:Nat→Nat→Nat),wk=.int .u64 y∧y<18446744073709551616∧Hid (∀ k,k<64→y.testBit k=true→k<ns.length)∧Hid (LIn (eN ns) (genL ns) (handL ts ns) ns.length kn (fun k=>y.testBit k=true))∧Hid (FloL w kn wr)) (fun wk wr=>(intOf wk).toNat+18446744073709551616*sumTo (fun m=>wtP (lkW wr (w.heap.size+1+1) m)) ns.length)
   case atStart=>exact ⟨firstSet ns.length,_,rfl,flowSome.firstSet_lt _ hle,fun k _ hk=>by rw [flowSome.firstSet_bit] at hk;exact of_decide_eq_true hk,HFL0,HS4⟩
   case round =>
    clear HFL0 HS4
    obtain ⟨y,kn,rfl,hy,hyn,HF,HS⟩:=hrel
    by_cases hy0:y=0
    ·subst hy0
     obtain ⟨csK,k1,k2,k3⟩:=HS.out.kn
     obtain ⟨csR,q1,q2⟩:=HS.out.res
     have hu:=Tryz.underlying95
     have hsz:(Tryz.prog.info? 95).map (·.size)=some 427:=by kernel_rfl
     have hrg:=range_row k1
     have hth:wr.there (w.heap.size+1) 0 427:=there_row q1 q2
     have hone:=lrows_one k2 k3
     have hlk:csK.toList.length=427:=by simpa using k2
     have hil:(Tryz.prog.info? 95).map (·.size)=some csK.toList.length:=by rw [hsz,hlk]
     have his:(Tryz.prog.info? 95).map (·.size)=some csK.size:=by rw [hsz,k2]
     have hth2:wr.there (w.heap.size+1) 0 csK.size:=by rw [k2];exact hth
     have hFIN:Post ts ns w (.returned (.agg csK)) (wr.setCells (w.heap.size+1) 0 csK.toList):=by
      refine ⟨csK,kn,rfl,k2,k3,⟨HF.out.lt,HF.out.sound,fun k hk _=>HF.out.next k hk (by simp)⟩,below_setCells HS.out.below (by omega) HS.out.below.size⟩
     have hout:=heap_setCells csK.toList 0 wr csR q1 (by rw [hlk,q2];exact Nat.le_refl _)
     rw [setN_all csR csK (by rw [q2,k2])] at hout
     have HFIN:=Lib.hid hFIN
     have HOUT:=Lib.hid hout
     clear hFIN hout hsz k3 HF HS hyn
     go_wp2_with (first
      | ((with_reducible show wpList _ _ _ _ _ _);refine wpList_load_mid rfl 95 _ rfl (w.heap.size+1+1) 0 rfl csK.toList _ ?_ hu rfl hil ?_;exact hrg)
      | ((with_reducible show wpList _ _ _ _ _ _);refine wpList_store_mid rfl 95 _ _ rfl (w.heap.size+1) 0 csK rfl rfl ?_ his hone ?_;exact hth2))
     refine bodyPost_ret (v:=.agg csK) ?_ rfl HFIN.out
     exact flowSome.results_one_row rfl Tryz.prog _ _ (w.heap.size+1) csK rfl (run_loadVar_row _ _ _ _ csK (0,0) _ HOUT.out hu rfl his)
    ·have hyne:((y:Int) != 0)=true:=by simp;omega
     have HTr:=Lib.hid (tab_below HTAB.out hg HS.out.below)
     have hlow:=lowest_any y hy hy0 wr HTr.out
     have hwo:=without_any y hy hy0 wr
     obtain ⟨⟨ha64,hay⟩,hsb1,hsb2⟩:=flowSome.step_bits hy0 hy
     have hy1lt:y&&&(y-1)<18446744073709551616:=Nat.lt_of_le_of_lt Nat.and_le_left hy
     have hy1y:=and_pred_lt y hy0
     generalize Lib.ctz 64 y=a at *
     have han:a<ns.length:=hyn.out a ha64 hay
     have hwo2:Hid (∀ k,k<64→(y&&&(y-1)).testBit k=true→k<ns.length):=fun k hk hb=>hyn.out k hk (hsb2 k hb)
     obtain ⟨d,hd⟩:∃ d,ns[a]?=some d:=⟨ns[a],List.getElem?_eq_getElem han⟩
     have hln:=HW.out.keep (b:=wr) HS.out.below
     have hfl:=hln.fl
     have hFr:F<wr.heap.size:=by have:=HS.out.below.size;omega
     have ha61:a<61:=by omega
     have hpass:=lentBehind_any ts ns q C F hi A c ah bk L mb lv a (kn a) d wr hln HD.out HA.out hd HTr.out (by have:=HS.out.below.size;omega) (fun v=>HF.out.lt a v)
     have HRA:=Lib.hid (HS.out.kn.range ha61)
     have ai0:(0:Int)≤(a:Int):=by omega
     have ai1:(a:Int)<61:=by omega
     have hsbit:=fun b (hb:b<64)=>hfl.sets.ah a b (by omega) hb
     have hslt:=hfl.sets.ahLt a
     obtain ⟨cs,r1,r2,r3⟩:=hfl.row
     have hca:∀ W:World,Below wr.heap.size wr W→W.cell? ⟨F,246+2+a,none⟩=some (.int .u64 (ah a:Int)):=fun W hW=>(hW.cell (by have:=HS.out.below.size;simp;omega)).trans ((cB r1 _).trans (r3.1.2.2 a ha61))
     have HSB1:=Lib.hid hsb1
     have HSB2:=Lib.hid hsb2
     have HBIT:=Lib.hid hsbit
     have HCA:=Lib.hid hca
     have HDA:=Lib.hid hd
     have hiP7:(Tryz.prog.info? 94).map (·.size)=some (lentC (kn a)).length:=by kernel_rfl
     clear hd hln hfl r1 r2 r3 hsb1 hsb2 hsbit hca hay
     go_wp2_with fail
     refine hlow.mono ?_
     rintro E w3 ⟨rfl,hw3⟩
     subst hw3
     clear hlow
     go_wp2_with fail
     refine hwo.mono ?_
     rintro E w3 ⟨rfl,hw3⟩
     subst hw3
     clear hwo
     go_wp2_with (first | ((with_reducible show wpList _ _ _ _ _ _);refine wpList_load_mid rfl 94 _ rfl (w.heap.size+1+1) (a*7) rfl (lentC (kn a)) _ ?_ Tryz.underlying94 rfl hiP7 ?_;exact HRA.out))
     refine hpass.mono ?_
     rintro E w4 ⟨z,rfl,hz61,hzi,hb4⟩
     have HM4:=Lib.hid (HS.out.keep hb4)
     have HAT:=Lib.hid (HF.out.take han hz61 hzi HSB1.out)
     have HZ61:=Lib.hid hz61
     have hbh:=(Below.refl w4.heap.size w4).alloc (Nat.le_refl _) (.cells #[.int .u64 0,.int .u64 0,.int .u64 0,.int .u64 0,.int .u64 0,.int .u64 0,.int .u64 0] 94)
     have hnew:=heap_alloc_new w4 (.cells #[.int .u64 0,.int .u64 0,.int .u64 0,.int .u64 0,.int .u64 0,.int .u64 0,.int .u64 0] 94)
     have hth4:Hid ((w4.alloc (.cells #[.int .u64 0,.int .u64 0,.int .u64 0,.int .u64 0,.int .u64 0,.int .u64 0,.int .u64 0] 94)).there w4.heap.size 0 7):=row_there hnew rfl
     have hbeh:Hid (((w4.alloc (.cells #[.int .u64 0,.int .u64 0,.int .u64 0,.int .u64 0,.int .u64 0,.int .u64 0,.int .u64 0] 94)).setCells w4.heap.size 0 (lentC z)).heap[w4.heap.size]?=some (.cells (lentC z).toArray 94 (0,0))):=row_set (lentC z) hnew rfl
     have hb4b:=below_setCells (b:=w4.heap.size) (o:=0) (vs:=lentC z) hbh (Nat.le_refl _) (by simp)
     have HB4B:=Lib.hid hb4b
     have HB4:=Lib.hid hb4
     have HW4:=Lib.hid hb4.size
     have hKB4:=HM4.out.kn.lt
     have hiP8:(Tryz.prog.info? 94).map (·.size)=some 7:=by kernel_rfl
     clear hpass hzi hb4 hz61 HRA hbh hnew hb4b
     go_upto_region 13 with (first | ((with_reducible show wpList _ _ _ _ _ _);refine wpList_store_mid rfl 94 _ _ rfl w4.heap.size 0 (lentC z).toArray rfl rfl ?_ hiP8 (lentC_one _) ?_;exact hth4.out))
     have hbW:Below w.heap.size w ((w4.alloc (.cells #[.int .u64 0,.int .u64 0,.int .u64 0,.int .u64 0,.int .u64 0,.int .u64 0,.int .u64 0] 94)).setCells w4.heap.size 0 (lentC z)):=HM4.out.below.trans (HB4B.out.mono HM4.out.below.size)
     have HM4b:=Lib.hid (HM4.out.keep HB4B.out)
     have hca4:=HCA.out _ (HB4.out.trans (HB4B.out.mono HW4.out))
     have hzB0:w4.heap.size<((w4.alloc (.cells #[.int .u64 0,.int .u64 0,.int .u64 0,.int .u64 0,.int .u64 0,.int .u64 0,.int .u64 0] 94)).setCells w4.heap.size 0 (lentC z)).heap.size:=by rw [size_setCells];simp
     have hzB:=Lib.hid hzB0
     clear hzB0
     clear HM4 HB4B HB4 HW4 hth4
     generalize w4.heap.size=BH at *
     generalize (w4.alloc (.cells #[.int .u64 0,.int .u64 0,.int .u64 0,.int .u64 0,.int .u64 0,.int .u64 0,.int .u64 0] 94)).setCells BH 0 (lentC z)=wB4 at *
     have hls:=setList_any (ah a) hslt wB4 (tab_below HTAB.out hg hbW) (by have:=hbW.size;omega)
     clear hbW
     go_wp2_with fail
     refine hls.mono ?_
     rintro E w5 ⟨v,rfl,hrow,hb5⟩
     have HM5:=Lib.hid (HM4b.out.keep hb5)
     have hK4:=HM4b.out.kn.lt
     have HBE5:Hid (w5.heap[BH]?=some (.cells (lentC z).toArray 94 (0,0))):=(hb5.block BH hzB.out).trans hbeh.out
     obtain ⟨Ar,cr,hvs⟩:=hrow.slice
     subst hvs
     have HROW:=Lib.hid hrow
     have hlen64:=intsOf_length (ah a)
     clear hls hrow hb5 hca4 HM4b hbeh
     have HLI:=Lib.hid (flowSome.intsOf_bits (ah a))
     obtain ⟨bl,hbl⟩:∃ bl,bl=bitsOf (ah a):=⟨_,rfl⟩
     have HBL:=Lib.hid hbl
     have hll:(intsOf (ah a)).length=bl.length:=by rw [hbl];simp [intsOf]
     obtain ⟨y1,hy1⟩:∃ y1,y1=y&&&(y-1):=⟨_,rfl⟩
     have HY1:=Lib.hid hy1
     rw [← hy1] at HAT hwo2 hy1lt hy1y ⊢
     have HROW2:Hid (RowI w5 wB4.heap.size (.slice Ar bl.length cr) (intsOf (ah a))):=by
      have:=HROW.out
      rw [hll] at this
      exact this
     rw [hll]
     rw [hll] at hlen64
     have HAT2:=Lib.hid (HAT.out.less (D':=fun m=>∃ i,i<0∧bl[i]?=some m) (fun m hm=>by obtain ⟨i,hi,_⟩:=hm;exact absurd hi (Nat.not_lt_zero _)))
     clear hbl hy1 hll HAT HROW
     go_wp2_with fail
     go_loopw [11,55] (fun wk i wr=>∃ (j y':Nat) (kn':Nat→Nat→Nat),wk=.int .u64 y'∧i=.int .i64 j∧j≤bl.length∧y'<18446744073709551616∧Hid (∀ k,k<64→y'.testBit k=true→k<ns.length)∧Hid (LAt (eN ns) (genL ns) (handL ts ns) ns.length kn' (fun k=>y'.testBit k=true) a (kn a) z (fun m=>∃ i,i<j∧bl[i]?=some m))∧Hid (FloL w kn' wr)∧Hid (wr.heap[BH]?=some (.cells (lentC z).toArray 94 (0,0)))∧Hid (RowI wr wB4.heap.size (.slice Ar bl.length cr) (intsOf (ah a)))∧Hid (sumTo (fun i=>wtP (kn' i)) ns.length<sumTo (fun i=>wtP (kn i)) ns.length∨(sumTo (fun i=>wtP (kn' i)) ns.length=sumTo (fun i=>wtP (kn i)) ns.length∧y'=y1))) (fun _ i _=>bl.length-(intOf i).toNat)
     case atStart=>exact ⟨0,y1,kn,rfl,rfl,Nat.zero_le _,hy1lt,hwo2,HAT2,HM5,HBE5,HROW2,Lib.hid (.inr ⟨rfl,rfl⟩)⟩
     case round =>
      clear HAT2 HM5 HROW2 hwo2 HBE5
      obtain ⟨j,y',kn',rfl,rfl,hj,hy',hyn',HAT,HM,HBE,HROW,HS0⟩:=hrel
      have haj:=ahead_pj
      have hmj:=at_pj
      by_cases hjl:j<bl.length
      ·obtain ⟨b,hb⟩:∃ b,bl[j]?=some b:=⟨bl[j],List.getElem?_eq_getElem hjl⟩
       have hbm:b∈bitsOf (ah a):=by rw [← HBL.out];exact List.mem_of_getElem? hb
       have hb64:=(mem_bitsOf _ _).mp hbm
       have hedge:((fun a b=>eN ns a b)) a b:=(mem_nextN HD.out hle a b).mpr ((HBIT.out b hb64.1).mp hb64.2)
       have hbN:b<ns.length:=(nextN_ints HD.out HDA.out).2 b ((mem_nextN HD.out hle a b).mpr ((HBIT.out b hb64.1).mp hb64.2))
       have hb61:b<61:=by omega
       obtain ⟨b0,u,hb0,-,hbb,hx,hc⟩:=(RowI.intsV HROW.out).elem (k:=j) (by rw [HLI.out,← HBL.out];simpa using hjl)
       subst hb0
       have hub:u=(b:Int):=by
        rw [HLI.out,← HBL.out,List.getElem?_map,hb] at hx
        simpa using hx.symm
       subst hub
       have bi0:(0:Int)≤(b:Int):=by omega
       have bi1:(b:Int)<61:=by omega
       have ji0:(0:Int)≤(j:Int):=by omega
       have ji1:(j:Int)<(bl.length:Int):=by omega
       have HKL:Hid ((w.heap.size+1+1)<wr.heap.size):=HM.out.kn.lt
       have HBL2:Hid (BH<wr.heap.size):=heap_lt HBE.out
       have hkd:Hid (w.heap.size≤wr.heap.size):=HM.out.below.size
       have HB:=Lib.hid hb
       have HEDGE:=Lib.hid hedge
       have HRB:=Lib.hid (HM.out.kn.range hb61)
       clear hb hbm hx hedge
       have hmf:∀ (fn:Fn) (first cap:Array Value) (w:World),(Instr.makeFunc fn first cap).run Tryz.prog w=.ok (.func fn first cap) w:=fun _ _ _ _=>rfl
       go_upto_region 16 with fail
       go_cut [16] (fun s16 wx=>∃ bJ:Nat,s16=.pointer (some ⟨bJ,0,none⟩)∧wx.heap[bJ]?=some (.cells (lentC (fun v=>kn' b v|||z v)).toArray 94 (0,0))∧wr.heap.size≤bJ∧Below wr.heap.size wr wx)
       case first =>
        refine wp_region_held_drew (S:=fun w'=>Below wr.heap.size wr w'∧w'.rangeAt (w.heap.size+1+1) (b*7) (lentC (kn' b))∧w'.heap[BH]?=some (.cells (lentC z).toArray 94 (0,0))) (by kernel_rfl) ⟨(Below.refl _ _).drew,HRB.out,HBE.out⟩ (fun hHeld=>?_)
        have hLE:wr.heap.size≤wr.drew.heap.size:=Nat.le_refl _
        generalize hwd:wr.drew=wd at *
        clear hwd
        refine tkd (i:=0) (v:=.iface 162 bothV) rfl hHeld ?_
        try simp only [Act.put,sA,sB,sC]
        refine tkd (i:=1) (v:=.int .i64 (b:Int)) rfl hHeld ?_
        try simp only [Act.put,sA,sB,sC]
        refine tkd (i:=2) (v:=.pointer (some ⟨(w.heap.size+1+1),b*7,none⟩)) rfl hHeld ?_
        try simp only [Act.put,sA,sB,sC]
        refine tk (i:=3) (v:=(.agg (lentC (kn' b)).toArray)) rfl (yieldsIf_load_mid (by rfl) _ _ rfl (w.heap.size+1+1) (b*7) rfl (lentC (kn' b)) _ (fun w' h=>h.2.1) Tryz.underlying94 rfl (by kernel_rfl)) hHeld ?_
        try simp only [Act.put,sA,sB,sC]
        refine tk (i:=4) (v:=(.agg (lentC z).toArray)) rfl (yieldsIf_load_mid (by rfl) _ _ rfl BH 0 rfl (lentC z) _ (fun w' h=>rowL_range h.2.2) Tryz.underlying94 rfl (by kernel_rfl)) hHeld ?_
        try simp only [Act.put,sA,sB,sC]
        refine tkd (i:=5) (v:=.func (Fn.method "loop.example/borrowcheck/impl.join") #[.iface 162 bothV] #[]) rfl hHeld ?_
        try simp only [Act.put,sA,sB,sC]
        refine tkd (i:=6) (v:=.func (Fn.method "loop.example/borrowcheck/impl.join") #[.iface 162 bothV] #[]) rfl hHeld ?_
        try simp only [Act.put,sA,sB,sC]
        refine tkd (i:=7) (v:=.iface 162 bothV) rfl hHeld ?_
        try simp only [Act.put,sA,sB,sC]
        refine wpAnyH_ready (rs:=[8,9]) (by kernel_rfl) (by simp) ?_
        refine AllReadyH.cons (o:=⟨_,_,_,_,_,_⟩) rfl (fun K hK=>?_) ?_
        ·skip
         go_simp
         refine (prodJoin_any (kn' b) z (fun v=>HAT.out.lt b v) HZ61.out _).mono ?_
         rintro E wq1 ⟨rfl,hbq⟩
         refine hK.out _ _ ⟨hHeld.1.trans (hbq.mono hHeld.1.size),fun j v hv=>(hbq.cell (by have:=hHeld.1.size;have:=HKL.out;simp;omega)).trans (hHeld.2.1 j v hv),(hbq.block BH (heap_lt hHeld.2.2)).trans hHeld.2.2⟩ (fun hHeld=>?_)
         replace hLE:=Nat.le_trans hLE hbq.size
         clear hK K hbq
         refine wpAnyH_ready (rs:=[9]) (by kernel_rfl) (by simp) ?_
         refine AllReadyH.cons (o:=⟨_,_,_,_,_,_⟩) rfl (fun K hK=>?_) AllReadyH.nil
         go_simp
         have hJ:=heap_alloc_new wq1 (.cells #[.int .u64 0,.int .u64 0,.int .u64 0,.int .u64 0,.int .u64 0,.int .u64 0,.int .u64 0] 94)
         have hJB:wr.heap.size≤wq1.heap.size:=hLE
         have hba:=(Below.refl wq1.heap.size wq1).alloc (Nat.le_refl _) (.cells #[.int .u64 0,.int .u64 0,.int .u64 0,.int .u64 0,.int .u64 0,.int .u64 0,.int .u64 0] 94)
         refine hK.out _ _ ⟨hHeld.1.trans (hba.mono hHeld.1.size),fun j v hv=>(hba.cell (by have:=hHeld.1.size;have:=HKL.out;simp;omega)).trans (hHeld.2.1 j v hv),(hba.block BH (heap_lt hHeld.2.2)).trans hHeld.2.2⟩ (fun hHeld=>?_)
         replace hLE:=Nat.le_trans hLE hba.size
         generalize wq1.alloc (.cells #[.int .u64 0,.int .u64 0,.int .u64 0,.int .u64 0,.int .u64 0,.int .u64 0,.int .u64 0] 94)=wq2 at *
         replace hJ:=hJ
         clear hK K hba
         refine wpAnyH_ready (rs:=[10]) (by kernel_rfl) (by simp) ?_
         refine AllReadyH.cons (o:=⟨_,_,_,_,_,_⟩) rfl (fun K hK=>?_) AllReadyH.nil
         rw [if_pos (by rfl)]
         refine wp_store_mid _ _ _ rfl (wq1.heap.size) 0 (lentC (fun v=>kn' b v|||z v)).toArray rfl rfl (row_there hJ rfl) (by kernel_rfl) (lentC_one _) ?_
         simp only [Act.put]
         have hfin:=Lib.hid (row_set (lentC (fun v=>kn' b v|||z v)) hJ rfl)
         have hKB:=HKL.out
         refine hK.out _ _ ⟨below_setCells hHeld.1 hJB hHeld.1.size,fun j v hv=>(World.cell?_of_block (a:=⟨(w.heap.size+1+1),b*7+j,none⟩) (heap_setCells_ne wq2 (wq1.heap.size) (w.heap.size+1+1) 0 _ (by omega) (by omega))).trans (hHeld.2.1 j v hv),(heap_setCells_ne wq2 (wq1.heap.size) BH 0 _ (by have:=HBL2.out;omega) (heap_lt hHeld.2.2)).trans hHeld.2.2⟩ (fun hHeld=>?_)
         clear hK K
         refine wpAnyH_done (by kernel_rfl) ?_ _
         go_wp2_with fail
         go_meet
         exact ⟨wq1.heap.size,rfl,hfin.out,hJB,hHeld.1⟩
        refine AllReadyH.cons (o:=⟨_,_,_,_,_,_⟩) rfl (fun K hK=>?_) AllReadyH.nil
        go_simp
        have hJ:=heap_alloc_new wd (.cells #[.int .u64 0,.int .u64 0,.int .u64 0,.int .u64 0,.int .u64 0,.int .u64 0,.int .u64 0] 94)
        have hJB:wr.heap.size≤wd.heap.size:=hLE
        have hba:=(Below.refl wd.heap.size wd).alloc (Nat.le_refl _) (.cells #[.int .u64 0,.int .u64 0,.int .u64 0,.int .u64 0,.int .u64 0,.int .u64 0,.int .u64 0] 94)
        refine hK.out _ _ ⟨hHeld.1.trans (hba.mono hHeld.1.size),fun j v hv=>(hba.cell (by have:=hHeld.1.size;have:=HKL.out;simp;omega)).trans (hHeld.2.1 j v hv),(hba.block BH (heap_lt hHeld.2.2)).trans hHeld.2.2⟩ (fun hHeld=>?_)
        replace hLE:=Nat.le_trans hLE hba.size
        generalize wd.alloc (.cells #[.int .u64 0,.int .u64 0,.int .u64 0,.int .u64 0,.int .u64 0,.int .u64 0,.int .u64 0] 94)=wq1 at *
        replace hJ:=hJ
        clear hK K hba
        refine wpAnyH_ready (rs:=[8]) (by kernel_rfl) (by simp) ?_
        refine AllReadyH.cons (o:=⟨_,_,_,_,_,_⟩) rfl (fun K hK=>?_) AllReadyH.nil
        go_simp
        refine (prodJoin_any (kn' b) z (fun v=>HAT.out.lt b v) HZ61.out _).mono ?_
        rintro E wq2 ⟨rfl,hbq⟩
        refine hK.out _ _ ⟨hHeld.1.trans (hbq.mono hHeld.1.size),fun j v hv=>(hbq.cell (by have:=hHeld.1.size;have:=HKL.out;simp;omega)).trans (hHeld.2.1 j v hv),(hbq.block BH (heap_lt hHeld.2.2)).trans hHeld.2.2⟩ (fun hHeld=>?_)
        replace hJ:=(hbq.block _ (heap_lt hJ)).trans hJ
        replace hLE:=Nat.le_trans hLE hbq.size
        clear hK K hbq
        refine wpAnyH_ready (rs:=[10]) (by kernel_rfl) (by simp) ?_
        refine AllReadyH.cons (o:=⟨_,_,_,_,_,_⟩) rfl (fun K hK=>?_) AllReadyH.nil
        rw [if_pos (by rfl)]
        refine wp_store_mid _ _ _ rfl (wd.heap.size) 0 (lentC (fun v=>kn' b v|||z v)).toArray rfl rfl (row_there hJ rfl) (by kernel_rfl) (lentC_one _) ?_
        simp only [Act.put]
        have hfin:=Lib.hid (row_set (lentC (fun v=>kn' b v|||z v)) hJ rfl)
        have hKB:=HKL.out
        refine hK.out _ _ ⟨below_setCells hHeld.1 hJB hHeld.1.size,fun j v hv=>(World.cell?_of_block (a:=⟨(w.heap.size+1+1),b*7+j,none⟩) (heap_setCells_ne wq2 (wd.heap.size) (w.heap.size+1+1) 0 _ (by omega) (by omega))).trans (hHeld.2.1 j v hv),(heap_setCells_ne wq2 (wd.heap.size) BH 0 _ (by have:=HBL2.out;omega) (heap_lt hHeld.2.2)).trans hHeld.2.2⟩ (fun hHeld=>?_)
        clear hK K
        refine wpAnyH_done (by kernel_rfl) ?_ _
        go_wp2_with fail
        go_meet
        exact ⟨wd.heap.size,rfl,hfin.out,hJB,hHeld.1⟩
       case rest =>
        obtain ⟨bJ,rfl,hJr,hJl,hbc⟩:=hcut
        have hcs:=hbc.size
        have HM2:=Lib.hid (HM.out.keep hbc)
        have HBE2:Hid (wc.heap[BH]?=some (.cells (lentC z).toArray 94 (0,0))):=(hbc.block BH HBL2.out).trans HBE.out
        have HROW2:=Lib.hid (RowI.below HROW.out hbc)
        have HJR:=Lib.hid hJr
        have HCS:Hid (wr.heap.size≤wc.heap.size):=hcs
        clear hbc hJr HM HBE HROW hcs HRB hmf
        go_upto_region 17 with fail
        have hS17:(fun w'=>w'.heap[bJ]?=some (.cells (lentC (fun v=>kn' b v|||z v)).toArray 94 (0,0))∧w'.rangeAt (w.heap.size+1+1) (b*7) (lentC (kn' b))) wc.drew:=⟨HJR.out,HM2.out.kn.range hb61⟩
        refine wp_region_held_drew (S:=fun w'=>w'.heap[bJ]?=some (.cells (lentC (fun v=>kn' b v|||z v)).toArray 94 (0,0))∧w'.rangeAt (w.heap.size+1+1) (b*7) (lentC (kn' b))) (by kernel_rfl) hS17 (fun hHeld=>?_)
        clear hS17
        replace HM2:=Lib.hid HM2.out.drew
        replace HBE2:Hid (wc.drew.heap[BH]?=some (.cells (lentC z).toArray 94 (0,0))):=HBE2.out
        replace HROW2:Hid (RowI wc.drew wB4.heap.size (.slice (some b0) bl.length cr) (intsOf (ah a))):=RowI.keep HROW2.out fun _ _=>rfl
        replace HJR:Hid (wc.drew.heap[bJ]?=some (.cells (lentC (fun v=>kn' b v|||z v)).toArray 94 (0,0))):=HJR.out
        generalize hwd:wc.drew=wd at *
        clear hwd
        refine tk (i:=0) (v:=(.agg (lentC (fun v=>kn' b v|||z v)).toArray)) rfl (yieldsIf_load_mid (by rfl) _ _ rfl bJ 0 rfl (lentC (fun v=>kn' b v|||z v)) _ (fun w' h=>rowL_range h.1) Tryz.underlying94 rfl (by kernel_rfl)) hHeld ?_
        try simp only [Act.put,sA,sB,sC]
        refine tkd (i:=1) (v:=.int .i64 (b:Int)) rfl hHeld ?_
        try simp only [Act.put,sA,sB,sC]
        refine tkd (i:=2) (v:=.pointer (some ⟨(w.heap.size+1+1),b*7,none⟩)) rfl hHeld ?_
        try simp only [Act.put,sA,sB,sC]
        refine tk (i:=3) (v:=(.agg (lentC (kn' b)).toArray)) rfl (yieldsIf_load_mid (by rfl) _ _ rfl (w.heap.size+1+1) (b*7) rfl (lentC (kn' b)) _ (fun w' h=>h.2) Tryz.underlying94 rfl (by kernel_rfl)) hHeld ?_
        try simp only [Act.put,sA,sB,sC]
        refine tk (i:=4) (v:=(.bool (!(eq7 (fun v=>kn' b v|||z v) (kn' b))))) rfl (Or.inl ⟨by rfl,fun w9 hSw=>exec_neq _ _ _ _ _ rfl _ _ rfl rfl w9⟩) hHeld ?_
        try simp only [Act.put,sA,sB,sC]
        refine wpAnyH_done (by kernel_rfl) ?_ _
        clear hHeld
        by_cases hsame:eq7 (fun v=>kn' b v|||z v) (kn' b)=true
        ·rw [hsame]
         have hsv:=(eq7_iff _ _).mp hsame
         have HSV:=Lib.hid hsv
         clear hsame hsv
         go_wp2_with fail
         refine ⟨⟨j+1,y',kn',rfl,by simp,by omega,hy',hyn',?_,HM2,HBE2,HROW2,HS0⟩,?_⟩
         ·refine Lib.hid (HAT.out.same (fun v hv=>HSV.out v hv) (fun m hm=>?_))
          obtain ⟨i,hi,him⟩:=hm
          by_cases hij:i=j
          ·subst hij
           rw [HB.out] at him
           exact .inr (Option.some.inj him).symm
          ·exact .inl ⟨i,by omega,him⟩
         ·simp only [intOf]
          omega
        ·have hne:eq7 (fun v=>kn' b v|||z v) (kn' b)=false:=by simpa using hsame
         rw [hne]
         go_upto_region 18 with fail
         have HT2:=Lib.hid (HM2.out.kn.there hb61)
         have HRJ:=Lib.hid (rowL_range HJR.out)
         have hiJ:Hid ((Tryz.prog.info? 94).map (·.size)=some 7):=by exact (show (Tryz.prog.info? 94).map (·.size)=some 7 from by kernel_rfl)
         go_upto_region 19 with (first
          | ((with_reducible show wpList _ _ _ _ _ _);refine wpList_load_mid rfl 94 _ rfl bJ 0 rfl (lentC (fun v=>kn' b v|||z v)) _ ?_ Tryz.underlying94 rfl hiJ.out ?_;exact HRJ.out)
          | ((with_reducible show wpList _ _ _ _ _ _);refine wpList_store_mid rfl 94 _ _ rfl (w.heap.size+1+1) (b*7) (lentC (fun v=>kn' b v|||z v)).toArray rfl rfl ?_ hiJ.out (lentC_one _) ?_;exact HT2.out))
         have hex:∃ v,v<7∧(kn' b v|||z v)≠kn' b v:=Classical.byContradiction fun h9=>hsame ((eq7_iff _ _).mpr fun v hv=>Classical.byContradiction fun h8=>h9 ⟨v,hv,h8⟩)
         have HEX:=Lib.hid hex
         have hbl7:=HM2.out.kn.lt
         have HM3:=Lib.hid (HM2.out.put (m:=b) hb61 (fun v=>kn' b v|||z v))
         have hput:∀ g,g≠(w.heap.size+1+1)→g<wd.heap.size→(wd.setCells (w.heap.size+1+1) (b*7) (lentC (fun v=>kn' b v|||z v))).heap[g]?=wd.heap[g]?:=fun g h9 h8=>heap_setCells_ne _ _ _ _ _ h9 h8
         have HBE3:Hid ((wd.setCells (w.heap.size+1+1) (b*7) (lentC (fun v=>kn' b v|||z v))).heap[BH]?=some (.cells (lentC z).toArray 94 (0,0))):=(hput BH (by omega) (heap_lt HBE2.out)).trans HBE2.out
         have HROW3:Hid (RowI (wd.setCells (w.heap.size+1+1) (b*7) (lentC (fun v=>kn' b v|||z v))) wB4.heap.size (.slice (some b0) bl.length cr) (intsOf (ah a))):=RowI.keep HROW2.out fun g hg'=>hput g (by have:=(RowI.lt HROW2.out g hg').1;omega) (RowI.lt HROW2.out g hg').2
         clear hex hne hsame HM2 HBE2 HROW2 hput
         generalize wd.setCells (w.heap.size+1+1) (b*7) (lentC (fun v=>kn' b v|||z v))=w8 at *
         go_wp2_with fail
         have hwith:=with_any y' b hy' (by omega)
         refine (hwith _).mono ?_
         rintro E w7 ⟨rfl,hb7⟩
         have HM4':=Lib.hid (HM3.out.keep hb7)
         have HBE4:Hid (w7.heap[BH]?=some (.cells (lentC z).toArray 94 (0,0))):=(hb7.block BH (heap_lt HBE3.out)).trans HBE3.out
         have HROW4:=Lib.hid (RowI.below HROW3.out hb7)
         clear hwith hb7 HM3 HROW3 HBE3 HT2 HRJ
         go_wp2_with fail
         have hp2:2 ^ b<2 ^ 64:=Nat.pow_lt_pow_right (by decide) (by omega)
         have hor:y'|||2 ^ b<2 ^ 64:=Nat.or_lt_two_pow (by omega) hp2
         have hWW:∀ k,(y'|||2 ^ b).testBit k=true↔y'.testBit k=true∨k=b:=by
          intro k
          rw [Nat.testBit_or,Bool.or_eq_true,Nat.testBit_two_pow]
          simp only [decide_eq_true_eq]
          exact or_congr Iff.rfl eq_comm
         refine ⟨⟨j+1,y'|||2 ^ b,setP kn' b (fun v=>kn' b v|||z v),rfl,by simp,by omega,by omega,?_,?_,HM4',HBE4,HROW4,?_⟩,?_⟩
         ·refine Lib.hid (fun k hk hkb=>?_)
          rcases (hWW k).mp hkb with h9 | h9
          ·exact hyn'.out k hk h9
          ·rw [h9];exact hbN
         ·exact Lib.hid (HAT.out.more HEDGE.out (z:=(fun v=>kn' b v|||z v)) (fun v=>rfl) (W':=fun k=>(y'|||2 ^ b).testBit k=true) (D':=fun m=>∃ i,i<j+1∧bl[i]?=some m) hWW (fun m hm=>by
           obtain ⟨i,hi,him⟩:=hm
           by_cases hij:i=j
           ·subst hij
            rw [HB.out] at him
            exact .inr (Option.some.inj him).symm
           ·exact .inl ⟨i,by omega,him⟩))
         ·have h9:=wtP_set (kn:=kn') (n:=ns.length) (y:=z) (z:=(fun v=>kn' b v|||z v)) hbN (fun v=>HAT.out.lt b v) (fun v=>rfl) HEX.out
          refine Lib.hid (.inl ?_)
          rcases HS0.out with h8 | ⟨h8,_⟩
          ·omega
          ·omega
         ·simp only [intOf]
          omega
      ·have hjl2:j=bl.length:=by omega
       clear haj hmj
       go_wp2_with fail
       have e1:=HM.out.kn.measure hle
       have e0:=HS.out.kn.measure hle
       refine ⟨⟨y',kn',rfl,hy',hyn',Lib.hid (HAT.out.done fun m hm=>?_),HM⟩,?_⟩
       ·have hmb:m∈bl:=by
         rw [HBL.out,mem_bitsOf]
         have h9:=(mem_nextN HD.out hle a m).mp hm
         have h8:=h9.lt HD.out hle
         exact ⟨by omega,(HBIT.out m (by omega)).mpr h9⟩
        obtain ⟨i,hi,him⟩:=List.mem_iff_getElem.mp hmb
        exact ⟨i,by omega,by rw [List.getElem?_eq_getElem hi,him]⟩
       ·rw [e1,e0]
        simp only [intOf,Int.toNat_natCast]
        rcases HS0.out with h8 | ⟨h8,h9⟩
        ·omega
        ·omega
end Go.Proofs.YtedkkphogeealaaGreatDoor.flowLent
namespace Go.Proofs.YtedkkphogeealaaGreatDoor
open Go.RowKit Go.Deep
set_option linter.unusedVariables false
set_option maxRecDepth 100000
set_option maxHeartbeats 4000000
structure LndQ (ts:List Int) (ns:List Nd) (C F hi:Nat) (A:Option Addr) (c:Nat) (ah bk:Nat→Nat) (L:Nat) (fm fu:Nat) (ff:Nat→Nat) (mb lv:Nat→Nat) (w:World):Prop where
 fl:FlowsIn ts ns C F hi A c ah bk w
 row:∃ cs,w.heap[L]?=some (.cells cs 97 (0,0))∧cs.size=558∧cs[0]?=some (.pointer (some ⟨F,0,none⟩))∧cs[1]?=some (.int .u64 (fm:Int))∧cs[2]?=some (.int .u64 (fu:Int))∧(∀ v,v<6→cs[3+v]?=some (.int .u64 (ff v:Int)))∧VRow cs 9 mb∧VRow cs 70 lv
 lt:F<L∧C<L∧hi≤L
section
variable {ts:List Int} {ns:List Nd} {C F hi:Nat} {A:Option Addr} {c:Nat} {ah bk:Nat→Nat} {L:Nat} {fm fu:Nat} {ff:Nat→Nat} {mb lv:Nat→Nat} {a b:World}
theorem LndIn.q {m:Nat} (h:LndIn ts ns C F hi A c ah bk L m mb lv a):LndQ ts ns C F hi A c ah bk L (bitsK (isLoan ns) m) (bitsK (isUniq ns) m) (fun v=>bitsK (isFrom ns v) m) mb lv a:=by
 obtain ⟨cs,h1,h2,h3,h4⟩:=h.row
 exact ⟨h.fl,⟨cs,h1,h2.size,h2.fl,h2.made,h2.uniq,h2.from_,h3,h4⟩,h.lt⟩
theorem LndQ.ofQ {m:Nat} (h:LndQ ts ns C F hi A c ah bk L fm fu ff mb lv a) (e1:fm=bitsK (isLoan ns) m) (e2:fu=bitsK (isUniq ns) m) (e3:∀ v,v<6→ff v=bitsK (isFrom ns v) m):LndIn ts ns C F hi A c ah bk L m mb lv a:=by
 obtain ⟨cs,h1,h2,h3,h4,h5,h6,h7,h8⟩:=h.row
 exact ⟨h.fl,⟨cs,h1,⟨h2,h3,by rw [← e1];exact h4,by rw [← e2];exact h5,fun v hv=>by rw [← e3 v hv];exact h6 v hv⟩,h7,h8⟩,h.lt⟩
theorem LndQ.ltW (h:LndQ ts ns C F hi A c ah bk L fm fu ff mb lv a):L<a.heap.size:=by
 obtain ⟨cs,h1,_⟩:=h.row
 exact heap_lt h1
theorem LndQ.keep (h:LndQ ts ns C F hi A c ah bk L fm fu ff mb lv a) (hb:Below a.heap.size a b):LndQ ts ns C F hi A c ah bk L fm fu ff mb lv b:=by
 refine ⟨h.fl.keep hb,?_,h.lt⟩
 rw [hb.block L h.ltW]
 exact h.row
theorem LndQ.drew (h:LndQ ts ns C F hi A c ah bk L fm fu ff mb lv a):LndQ ts ns C F hi A c ah bk L fm fu ff mb lv a.drew:=h.keep (Below.refl _ _).drew
theorem LndQ.c1 (h:LndQ ts ns C F hi A c ah bk L fm fu ff mb lv a):a.cell? ⟨L,1,none⟩=some (.int .u64 (fm:Int)):=by
 obtain ⟨cs,h1,h2,h3,h4,h5,h6,h7,h8⟩:=h.row
 rw [cB h1];exact h4
theorem LndQ.c2 (h:LndQ ts ns C F hi A c ah bk L fm fu ff mb lv a):a.cell? ⟨L,2,none⟩=some (.int .u64 (fu:Int)):=by
 obtain ⟨cs,h1,h2,h3,h4,h5,h6,h7,h8⟩:=h.row
 rw [cB h1];exact h5
theorem LndQ.cF (h:LndQ ts ns C F hi A c ah bk L fm fu ff mb lv a) {v:Nat} (hv:v<6):a.cell? ⟨L,3+v,none⟩=some (.int .u64 (ff v:Int)):=by
 obtain ⟨cs,h1,h2,h3,h4,h5,h6,h7,h8⟩:=h.row
 rw [cB h1];exact h6 v hv
theorem LndQ.soft (h:LndQ ts ns C F hi A c ah bk L fm fu ff mb lv a) (o:Nat):a.frozen? ⟨L,o,none⟩=false:=by
 obtain ⟨cs,h1,_⟩:=h.row
 exact frozen_of_row _ _ _ _ _ h1
theorem LndQ.put1 (h:LndQ ts ns C F hi A c ah bk L fm fu ff mb lv a) (x:Nat):LndQ ts ns C F hi A c ah bk L x fu ff mb lv (a.setCell ⟨L,1,none⟩ (.int .u64 (x:Int))):=by
 obtain ⟨cs,h1,h2,h3,h4,h5,h6,h7,h8⟩:=h.row
 refine ⟨h.fl.other h.lt.1 h.lt.2.1 h.lt.2.2 _ _,⟨_,heap_setCell_same a L 1 cs _ _ h1,by simpa using h2,?_,?_,?_,fun v hv=>?_,fun i hi=>?_,fun i hi=>?_⟩,h.lt⟩
 ·rw [set_get (by omega),if_neg (by omega)];exact h3
 ·rw [set_get (by omega),if_pos rfl]
 ·rw [set_get (by omega),if_neg (by omega)];exact h5
 ·rw [set_get (by omega),if_neg (by omega)];exact h6 v hv
 ·rw [set_get (by omega),if_neg (by omega)];exact h7 i hi
 ·rw [set_get (by omega),if_neg (by omega)];exact h8 i hi
theorem LndQ.put2 (h:LndQ ts ns C F hi A c ah bk L fm fu ff mb lv a) (x:Nat):LndQ ts ns C F hi A c ah bk L fm x ff mb lv (a.setCell ⟨L,2,none⟩ (.int .u64 (x:Int))):=by
 obtain ⟨cs,h1,h2,h3,h4,h5,h6,h7,h8⟩:=h.row
 refine ⟨h.fl.other h.lt.1 h.lt.2.1 h.lt.2.2 _ _,⟨_,heap_setCell_same a L 2 cs _ _ h1,by simpa using h2,?_,?_,?_,fun v hv=>?_,fun i hi=>?_,fun i hi=>?_⟩,h.lt⟩
 ·rw [set_get (by omega),if_neg (by omega)];exact h3
 ·rw [set_get (by omega),if_neg (by omega)];exact h4
 ·rw [set_get (by omega),if_pos rfl]
 ·rw [set_get (by omega),if_neg (by omega)];exact h6 v hv
 ·rw [set_get (by omega),if_neg (by omega)];exact h7 i hi
 ·rw [set_get (by omega),if_neg (by omega)];exact h8 i hi
theorem LndQ.putF (h:LndQ ts ns C F hi A c ah bk L fm fu ff mb lv a) {y:Nat} (hy:y<6) (x:Nat):LndQ ts ns C F hi A c ah bk L fm fu (setAt ff y x) mb lv (a.setCell ⟨L,3+y,none⟩ (.int .u64 (x:Int))):=by
 obtain ⟨cs,h1,h2,h3,h4,h5,h6,h7,h8⟩:=h.row
 refine ⟨h.fl.other h.lt.1 h.lt.2.1 h.lt.2.2 _ _,⟨_,heap_setCell_same a L (3+y) cs _ _ h1,by simpa using h2,?_,?_,?_,fun v hv=>?_,fun i hi=>?_,fun i hi=>?_⟩,h.lt⟩
 ·rw [set_get (by omega),if_neg (by omega)];exact h3
 ·rw [set_get (by omega),if_neg (by omega)];exact h4
 ·rw [set_get (by omega),if_neg (by omega)];exact h5
 ·rw [set_get (by omega)]
  unfold setAt
  by_cases hvy:v=y
  ·subst hvy;rw [if_pos rfl,if_pos rfl]
  ·rw [if_neg (by omega),if_neg hvy];exact h6 v hv
 ·rw [set_get (by omega),if_neg (by omega)];exact h7 i hi
 ·rw [set_get (by omega),if_neg (by omega)];exact h8 i hi
end
theorem loan_from {ns:List Nd} {k Y fb:Nat} {d:Nd} (hd:ns[k]?=some d) (hop:d.op=4∨d.op=5) (hy:d.y=(Y:Int)) (hfb:fb=bitsK (isFrom ns Y) k) (v:Nat):setAt (fun v=>bitsK (isFrom ns v) k) Y (fb|||2 ^ k) v=bitsK (isFrom ns v) (k+1):=by
 show _=(if isFrom ns v k then _ else _)
 rw [isFrom_at hd]
 unfold setAt
 by_cases hv:v=Y
 ·subst hv
  rw [if_pos rfl,decide_eq_true ⟨hop,hy⟩,if_pos rfl,hfb]
 ·rw [if_neg hv,decide_eq_false (fun e=>hv (by have:=e.2;omega)),if_neg (by simp)]
theorem below_lset {L o:Nat} {x:Value} {w w':World} (h:Below L w w'):Below L w (w'.setCell ⟨L,o,none⟩ x):=below_set h (Nat.le_refl _)
theorem addLoan_any (ts:List Int) (ns:List Nd) (C F hi:Nat) (A:Option Addr) (c:Nat) (ah bk:Nat→Nat) (L:Nat) (mb lv:Nat→Nat) (k:Nat) (d:Nd) (w:World) (h:LndIn ts ns C F hi A c ah bk L k mb lv w) (hA:AllTyped ts ns) (hd:ns[k]?=some d) :
  Calls Tryz.prog 91 #[.pointer (some ⟨L,0,none⟩),.int .i64 k] w fun E w'=>E=.returned (.tuple #[])∧LndIn ts ns C F hi A c ah bk L (k+1) mb lv w'∧Below L w w':=by
 have hkn:=(List.getElem?_eq_some_iff.mp hd).1
 have hle:=h.fl.gr.le
 have hk61:k<61:=by omega
 have he:=effD_ok hA.1 (hA.2 k d hd)
 have hxy:=he.xy
 obtain ⟨Y,hY⟩:∃ Y:Nat,d.y=(Y:Int):=⟨d.y.toNat,by omega⟩
 have hY6:Y<6:=by omega
 have hLl:=h.ltW
 have ki0:(0:Int)≤(k:Int):=by omega
 have ki1:(k:Int)<61:=by omega
 have yi0:(0:Int)≤(Y:Int):=by omega
 have yi1:(Y:Int)<6:=by omega
 obtain ⟨p0,p1,hrN⟩:=h.fl.gr.ndRange hd
 have HRN:Hid (w.rangeAt C (k*7) [.int .i64 d.op,.int .i64 d.x,.int .i64 d.y,.int .i64 d.n,.int .i64 p0,.int .i64 p1,.int .i64 d.next.length]):=hrN w rfl
 have hc0:=h.flCell
 have hc1:=h.fl.grCell
 have HL:=Lib.hid h
 have HDK:=Lib.hid hd
 have hrowN:=Lib.hid (heap_alloc_new w (.cells #[.int .i64 d.op,.int .i64 d.x,.int .i64 d.y,.int .i64 d.n,.int .i64 p0,.int .i64 p1,.int .i64 d.next.length] 130))
 have HBN:=Lib.hid ((Below.refl w.heap.size w).alloc (Nat.le_refl _) (.cells #[.int .i64 d.op,.int .i64 d.x,.int .i64 d.y,.int .i64 d.n,.int .i64 p0,.int .i64 p1,.int .i64 d.next.length] 130))
 have HYY:=Lib.hid hY
 have hiN:Hid ((Tryz.prog.info? 130).map (·.size)=some 7):=by exact (show (Tryz.prog.info? 130).map (·.size)=some 7 from by kernel_rfl)
 clear h hA hd he hrN hY hxy
 go_enter Tryz.func91,Tryz.ntmps91
 go_upto_region 1 with (first
  | ((with_reducible show wpList _ _ _ _ _ _);refine wpList_load_mid rfl 130 _ rfl C (k*7) rfl [.int .i64 d.op,.int .i64 d.x,.int .i64 d.y,.int .i64 d.n,.int .i64 p0,.int .i64 p1,.int .i64 d.next.length] _ ?_ Tryz.underlying130 rfl hiN.out ?_;exact HRN.out))
 have HQ:Hid (LndQ ts ns C F hi A c ah bk L (bitsK (isLoan ns) k) (bitsK (isUniq ns) k) (fun v=>bitsK (isFrom ns v) k) mb lv (w.alloc (.cells #[.int .i64 d.op,.int .i64 d.x,.int .i64 d.y,.int .i64 d.n,.int .i64 p0,.int .i64 p1,.int .i64 d.next.length] 130))):=(HL.out.keep HBN.out).q
 have HBL:Hid (Below L w (w.alloc (.cells #[.int .i64 d.op,.int .i64 d.x,.int .i64 d.y,.int .i64 d.n,.int .i64 p0,.int .i64 p1,.int .i64 d.next.length] 130))):=(HBN.out).mono (by omega)
 clear HRN hiN hc0 hc1 HL HBN
 generalize w.alloc (.cells #[.int .i64 d.op,.int .i64 d.x,.int .i64 d.y,.int .i64 d.n,.int .i64 p0,.int .i64 p1,.int .i64 d.next.length] 130)=w1 at *
 generalize hB:w.heap.size=B at *
 have hLB:L<B:=hLl
 have HLB:=Lib.hid hLB
 clear hB
 obtain ⟨op,hop⟩:∃ op,op=d.op:=⟨_,rfl⟩
 have c0:w1.cell? ⟨B,0,none⟩=some (.int .i64 op):=by rw [hop];exact (cB hrowN.out 0).trans rfl
 have c2:w1.cell? ⟨B,2,none⟩=some (.int .i64 (Y:Int)):=by rw [← HYY.out];exact (cB hrowN.out 2).trans rfl
 have HOP:=Lib.hid hop
 have hlW:=heap_lt hrowN.out
 have HBW:=Lib.hid hlW
 clear hrowN hop hlW
 by_cases h45:op=4∨op=5
 ·skip
  rcases h45 with h4 | h5
  ·subst h4
   have q1:=HQ.out.c1
   have s1:=HQ.out.soft 1
   have hm61:=bitsK_61 (isLoan ns) (k:=k) (by omega)
   obtain ⟨fm,hfm⟩:∃ fm,fm=bitsK (isLoan ns) k:=⟨_,rfl⟩
   rw [← hfm] at HQ q1 hm61
   have HFM:=Lib.hid hfm
   clear hfm
   go_upto_region 2 with fail
   go_wp2_with fail
   refine (with_any fm k (by omega) (by omega) _).mono ?_
   rintro E w2 ⟨rfl,hb2⟩
   replace HQ:=Lib.hid (HQ.out.keep hb2)
   have q1:=HQ.out.c1
   have s1:=HQ.out.soft 1
   have hs2:=hb2.size
   have hBw:=HBW.out
   replace HBL:=Lib.hid (HBL.out.trans (hb2.mono (by have:=HLB.out;omega)))
   have c0:=(hb2.cell (p:=⟨B,0,none⟩) hBw).trans c0
   have c2:=(hb2.cell (p:=⟨B,2,none⟩) hBw).trans c2
   replace HBW:Hid (B<w2.heap.size):=Lib.hid (by omega)
   clear hb2 hs2 hBw
   go_upto_region 3 with fail
   replace HQ:=Lib.hid (HQ.out.put1 (fm|||2 ^ k))
   replace HBL:=Lib.hid (below_lset (o:=1) (x:=(.int .u64 ((fm|||2 ^ k:Nat):Int))) HBL.out)
   have h1o:=heap_setCell_other w2 ⟨L,1,none⟩ B (.int .u64 ((fm|||2 ^ k:Nat):Int)) (by show B≠L;have:=HLB.out;omega)
   have c0:=(World.cell?_of_block (a:=⟨B,0,none⟩) h1o).trans c0
   have c2:=(World.cell?_of_block (a:=⟨B,2,none⟩) h1o).trans c2
   have hs3:(w2.setCell ⟨L,1,none⟩ (.int .u64 ((fm|||2 ^ k:Nat):Int))).heap.size=w2.heap.size:=by simp [World.setCell]
   replace HBW:Hid (B<(w2.setCell ⟨L,1,none⟩ (.int .u64 ((fm|||2 ^ k:Nat):Int))).heap.size):=Lib.hid (by rw [hs3];exact HBW.out)
   clear h1o hs3 q1 s1
   generalize w2.setCell ⟨L,1,none⟩ (.int .u64 ((fm|||2 ^ k:Nat):Int))=w3 at *
   have C0:=Lib.hid c0
   have qF:=HQ.out.cF hY6
   refine wp_region_held_drew (S:=(fun w'=>w'.cell? ⟨B,2,none⟩=some (.int .i64 (Y:Int))∧∃ z:Nat,w'.cell? ⟨L,3+Y,none⟩=some (.int .u64 (z:Int)))) (by kernel_rfl) ⟨c2,_,qF⟩ (fun hHeld=>?_)
   replace HQ:=Lib.hid HQ.out.drew
   replace HBL:=Lib.hid HBL.out.drew
   replace HBW:Hid (B<w3.drew.heap.size):=HBW.out
   replace C0:Hid (w3.drew.cell? ⟨B,0,none⟩=some (.int .i64 4)):=C0.out
   clear c0 c2 qF
   generalize w3.drew=wd at *
   have hf61:=bitsK_61 (isFrom ns Y) (k:=k) (by omega)
   obtain ⟨fb,hfb⟩:∃ fb,fb=bitsK (isFrom ns Y) k:=⟨_,rfl⟩
   rw [← hfb] at hf61
   have HFB:=Lib.hid hfb
   clear hfb
   refine tkd (i:=0) (v:=.pointer (some ⟨L,0,none⟩)) rfl hHeld ?_
   try simp only [Act.put,sA,sB,sC]
   refine tkd (i:=1) (v:=.pointer (some ⟨B,2,none⟩)) rfl hHeld ?_
   try simp only [Act.put,sA,sB,sC]
   refine tk (i:=2) (v:=.int .i64 (Y:Int)) rfl (Or.inl ⟨by rfl,fun w9 hSw=>by have h9:=hSw.1;go_simp⟩) hHeld ?_
   try simp only [Act.put,sA,sB,sC]
   refine tkd (i:=3) (v:=.pointer (some ⟨L,0,none⟩)) rfl hHeld ?_
   try simp only [Act.put,sA,sB,sC]
   refine tkd (i:=4) (v:=.pointer (some ⟨B,2,none⟩)) rfl hHeld ?_
   try simp only [Act.put,sA,sB,sC]
   refine tk (i:=5) (v:=.int .i64 (Y:Int)) rfl (Or.inl ⟨by rfl,fun w9 hSw=>by have h9:=hSw.1;go_simp⟩) hHeld ?_
   try simp only [Act.put,sA,sB,sC]
   refine tkd (i:=6) (v:=.pointer (some ⟨L,0,none⟩)) rfl hHeld ?_
   try simp only [Act.put,sA,sB,sC]
   refine tkd (i:=7) (v:=.pointer (some ⟨L,3,none⟩)) rfl hHeld ?_
   try simp only [Act.put,sA,sB,sC]
   refine tkd (i:=8) (v:=.pointer (some ⟨L,3+Y,none⟩)) rfl hHeld ?_
   try simp only [Act.put,sA,sB,sC]
   refine tkd (i:=10) (v:=.int .i64 (k:Int)) rfl hHeld ?_
   try simp only [Act.put,sA,sB,sC]
   refine tkd (i:=12) (v:=.pointer (some ⟨L,0,none⟩)) rfl hHeld ?_
   try simp only [Act.put,sA,sB,sC]
   refine tkd (i:=13) (v:=.pointer (some ⟨L,3,none⟩)) rfl hHeld ?_
   try simp only [Act.put,sA,sB,sC]
   refine wpAnyH_ready (rs:=[9]) (by kernel_rfl) (by simp) ?_
   refine AllReadyH.cons (o:=⟨_,_,_,_,_,_⟩) rfl (fun K hK=>?_) AllReadyH.nil
   have h9:_=some (Value.int .u64 (fb:Int)):=(HQ.out.cF hY6).trans (by rw [HFB.out])
   go_simp
   refine hK.out _ _ hHeld (fun hHeld=>?_)
   clear hK K h9
   refine wpAnyH_ready (rs:=[11]) (by kernel_rfl) (by simp) ?_
   refine AllReadyH.cons (o:=⟨_,_,_,_,_,_⟩) rfl (fun K hK=>?_) AllReadyH.nil
   go_simp
   refine (with_any fb k (by omega) (by omega) _).mono ?_
   rintro E wq ⟨rfl,hbq⟩
   have hBw:=HBW.out
   have hLw:L<wd.heap.size:=by have:=HLB.out;omega
   refine hK.out _ _ ⟨(hbq.cell (p:=⟨B,2,none⟩) hBw).trans hHeld.1,hHeld.2.imp fun z hz=>(hbq.cell (p:=⟨L,3+Y,none⟩) hLw).trans hz⟩ (fun hHeld=>?_)
   replace HQ:=Lib.hid (HQ.out.keep hbq)
   replace HBL:=Lib.hid (HBL.out.trans (hbq.mono (by omega)))
   replace C0:=Lib.hid ((hbq.cell (p:=⟨B,0,none⟩) hBw).trans C0.out)
   have hsq:=hbq.size
   replace HBW:Hid (B<wq.heap.size):=Lib.hid (by omega)
   clear hK K hbq hBw hLw hsq
   refine tkd (i:=14) (v:=.pointer (some ⟨L,3+Y,none⟩)) rfl hHeld ?_
   try simp only [Act.put,sA,sB,sC]
   refine wpAnyH_ready (rs:=[15]) (by kernel_rfl) (by simp) ?_
   refine AllReadyH.cons (o:=⟨_,_,_,_,_,_⟩) rfl (fun K hK=>?_) AllReadyH.nil
   have cq:=HQ.out.cF hY6
   have sq:=HQ.out.soft (3+Y)
   go_simp
   have h3o:=heap_setCell_other wq ⟨L,3+Y,none⟩ B (.int .u64 ((fb|||2 ^ k:Nat):Int)) (by show B≠L;have:=HLB.out;omega)
   refine hK.out _ _ ⟨(World.cell?_of_block (a:=⟨B,2,none⟩) h3o).trans hHeld.1,_,World.cell?_setCell_same _ _ _ cq⟩ (fun hHeld=>?_)
   replace C0:=Lib.hid ((World.cell?_of_block (a:=⟨B,0,none⟩) h3o).trans C0.out)
   replace HQ:=Lib.hid (HQ.out.putF hY6 (fb|||2 ^ k))
   replace HBL:=Lib.hid (below_lset (o:=3+Y) (x:=(.int .u64 ((fb|||2 ^ k:Nat):Int))) HBL.out)
   generalize wq.setCell ⟨L,3+Y,none⟩ (.int .u64 ((fb|||2 ^ k:Nat):Int))=w5 at *
   clear hK K h3o cq sq
   refine wpAnyH_done (by kernel_rfl) ?_ _
   clear hHeld
   have c0:=C0.out
   have E1:Hid (fm|||2 ^ k=bitsK (isLoan ns) (k+1)):=Lib.hid (by rw [HFM.out];show _=(if isLoan ns k then _ else _);rw [isLoan_at HDK.out,← HOP.out];rfl)
   have E3:Hid (∀ v,v<6→setAt (fun v=>bitsK (isFrom ns v) k) Y (fb|||2 ^ k) v=bitsK (isFrom ns v) (k+1)):=Lib.hid (fun v hv=>loan_from HDK.out (by rw [← HOP.out];exact .inl rfl) HYY.out HFB.out v)
   go_wp2_with fail
   go_end0
   exact ⟨rfl,HQ.out.ofQ E1.out (by show _=(if isUniq ns k then _ else _);rw [isUniq_at HDK.out,← HOP.out];rfl) E3.out,HBL.out⟩
  ·subst h5
   have q1:=HQ.out.c1
   have s1:=HQ.out.soft 1
   have hm61:=bitsK_61 (isLoan ns) (k:=k) (by omega)
   obtain ⟨fm,hfm⟩:∃ fm,fm=bitsK (isLoan ns) k:=⟨_,rfl⟩
   rw [← hfm] at HQ q1 hm61
   have HFM:=Lib.hid hfm
   clear hfm
   go_upto_region 2 with fail
   go_wp2_with fail
   refine (with_any fm k (by omega) (by omega) _).mono ?_
   rintro E w2 ⟨rfl,hb2⟩
   replace HQ:=Lib.hid (HQ.out.keep hb2)
   have q1:=HQ.out.c1
   have s1:=HQ.out.soft 1
   have hs2:=hb2.size
   have hBw:=HBW.out
   replace HBL:=Lib.hid (HBL.out.trans (hb2.mono (by have:=HLB.out;omega)))
   have c0:=(hb2.cell (p:=⟨B,0,none⟩) hBw).trans c0
   have c2:=(hb2.cell (p:=⟨B,2,none⟩) hBw).trans c2
   replace HBW:Hid (B<w2.heap.size):=Lib.hid (by omega)
   clear hb2 hs2 hBw
   go_upto_region 3 with fail
   replace HQ:=Lib.hid (HQ.out.put1 (fm|||2 ^ k))
   replace HBL:=Lib.hid (below_lset (o:=1) (x:=(.int .u64 ((fm|||2 ^ k:Nat):Int))) HBL.out)
   have h1o:=heap_setCell_other w2 ⟨L,1,none⟩ B (.int .u64 ((fm|||2 ^ k:Nat):Int)) (by show B≠L;have:=HLB.out;omega)
   have c0:=(World.cell?_of_block (a:=⟨B,0,none⟩) h1o).trans c0
   have c2:=(World.cell?_of_block (a:=⟨B,2,none⟩) h1o).trans c2
   have hs3:(w2.setCell ⟨L,1,none⟩ (.int .u64 ((fm|||2 ^ k:Nat):Int))).heap.size=w2.heap.size:=by simp [World.setCell]
   replace HBW:Hid (B<(w2.setCell ⟨L,1,none⟩ (.int .u64 ((fm|||2 ^ k:Nat):Int))).heap.size):=Lib.hid (by rw [hs3];exact HBW.out)
   clear h1o hs3 q1 s1
   generalize w2.setCell ⟨L,1,none⟩ (.int .u64 ((fm|||2 ^ k:Nat):Int))=w3 at *
   have C0:=Lib.hid c0
   have qF:=HQ.out.cF hY6
   refine wp_region_held_drew (S:=(fun w'=>w'.cell? ⟨B,2,none⟩=some (.int .i64 (Y:Int))∧∃ z:Nat,w'.cell? ⟨L,3+Y,none⟩=some (.int .u64 (z:Int)))) (by kernel_rfl) ⟨c2,_,qF⟩ (fun hHeld=>?_)
   replace HQ:=Lib.hid HQ.out.drew
   replace HBL:=Lib.hid HBL.out.drew
   replace HBW:Hid (B<w3.drew.heap.size):=HBW.out
   replace C0:Hid (w3.drew.cell? ⟨B,0,none⟩=some (.int .i64 5)):=C0.out
   clear c0 c2 qF
   generalize w3.drew=wd at *
   have hf61:=bitsK_61 (isFrom ns Y) (k:=k) (by omega)
   obtain ⟨fb,hfb⟩:∃ fb,fb=bitsK (isFrom ns Y) k:=⟨_,rfl⟩
   rw [← hfb] at hf61
   have HFB:=Lib.hid hfb
   clear hfb
   refine tkd (i:=0) (v:=.pointer (some ⟨L,0,none⟩)) rfl hHeld ?_
   try simp only [Act.put,sA,sB,sC]
   refine tkd (i:=1) (v:=.pointer (some ⟨B,2,none⟩)) rfl hHeld ?_
   try simp only [Act.put,sA,sB,sC]
   refine tk (i:=2) (v:=.int .i64 (Y:Int)) rfl (Or.inl ⟨by rfl,fun w9 hSw=>by have h9:=hSw.1;go_simp⟩) hHeld ?_
   try simp only [Act.put,sA,sB,sC]
   refine tkd (i:=3) (v:=.pointer (some ⟨L,0,none⟩)) rfl hHeld ?_
   try simp only [Act.put,sA,sB,sC]
   refine tkd (i:=4) (v:=.pointer (some ⟨B,2,none⟩)) rfl hHeld ?_
   try simp only [Act.put,sA,sB,sC]
   refine tk (i:=5) (v:=.int .i64 (Y:Int)) rfl (Or.inl ⟨by rfl,fun w9 hSw=>by have h9:=hSw.1;go_simp⟩) hHeld ?_
   try simp only [Act.put,sA,sB,sC]
   refine tkd (i:=6) (v:=.pointer (some ⟨L,0,none⟩)) rfl hHeld ?_
   try simp only [Act.put,sA,sB,sC]
   refine tkd (i:=7) (v:=.pointer (some ⟨L,3,none⟩)) rfl hHeld ?_
   try simp only [Act.put,sA,sB,sC]
   refine tkd (i:=8) (v:=.pointer (some ⟨L,3+Y,none⟩)) rfl hHeld ?_
   try simp only [Act.put,sA,sB,sC]
   refine tkd (i:=10) (v:=.int .i64 (k:Int)) rfl hHeld ?_
   try simp only [Act.put,sA,sB,sC]
   refine tkd (i:=12) (v:=.pointer (some ⟨L,0,none⟩)) rfl hHeld ?_
   try simp only [Act.put,sA,sB,sC]
   refine tkd (i:=13) (v:=.pointer (some ⟨L,3,none⟩)) rfl hHeld ?_
   try simp only [Act.put,sA,sB,sC]
   refine wpAnyH_ready (rs:=[9]) (by kernel_rfl) (by simp) ?_
   refine AllReadyH.cons (o:=⟨_,_,_,_,_,_⟩) rfl (fun K hK=>?_) AllReadyH.nil
   have h9:_=some (Value.int .u64 (fb:Int)):=(HQ.out.cF hY6).trans (by rw [HFB.out])
   go_simp
   refine hK.out _ _ hHeld (fun hHeld=>?_)
   clear hK K h9
   refine wpAnyH_ready (rs:=[11]) (by kernel_rfl) (by simp) ?_
   refine AllReadyH.cons (o:=⟨_,_,_,_,_,_⟩) rfl (fun K hK=>?_) AllReadyH.nil
   go_simp
   refine (with_any fb k (by omega) (by omega) _).mono ?_
   rintro E wq ⟨rfl,hbq⟩
   have hBw:=HBW.out
   have hLw:L<wd.heap.size:=by have:=HLB.out;omega
   refine hK.out _ _ ⟨(hbq.cell (p:=⟨B,2,none⟩) hBw).trans hHeld.1,hHeld.2.imp fun z hz=>(hbq.cell (p:=⟨L,3+Y,none⟩) hLw).trans hz⟩ (fun hHeld=>?_)
   replace HQ:=Lib.hid (HQ.out.keep hbq)
   replace HBL:=Lib.hid (HBL.out.trans (hbq.mono (by omega)))
   replace C0:=Lib.hid ((hbq.cell (p:=⟨B,0,none⟩) hBw).trans C0.out)
   have hsq:=hbq.size
   replace HBW:Hid (B<wq.heap.size):=Lib.hid (by omega)
   clear hK K hbq hBw hLw hsq
   refine tkd (i:=14) (v:=.pointer (some ⟨L,3+Y,none⟩)) rfl hHeld ?_
   try simp only [Act.put,sA,sB,sC]
   refine wpAnyH_ready (rs:=[15]) (by kernel_rfl) (by simp) ?_
   refine AllReadyH.cons (o:=⟨_,_,_,_,_,_⟩) rfl (fun K hK=>?_) AllReadyH.nil
   have cq:=HQ.out.cF hY6
   have sq:=HQ.out.soft (3+Y)
   go_simp
   have h3o:=heap_setCell_other wq ⟨L,3+Y,none⟩ B (.int .u64 ((fb|||2 ^ k:Nat):Int)) (by show B≠L;have:=HLB.out;omega)
   refine hK.out _ _ ⟨(World.cell?_of_block (a:=⟨B,2,none⟩) h3o).trans hHeld.1,_,World.cell?_setCell_same _ _ _ cq⟩ (fun hHeld=>?_)
   replace C0:=Lib.hid ((World.cell?_of_block (a:=⟨B,0,none⟩) h3o).trans C0.out)
   replace HQ:=Lib.hid (HQ.out.putF hY6 (fb|||2 ^ k))
   replace HBL:=Lib.hid (below_lset (o:=3+Y) (x:=(.int .u64 ((fb|||2 ^ k:Nat):Int))) HBL.out)
   generalize wq.setCell ⟨L,3+Y,none⟩ (.int .u64 ((fb|||2 ^ k:Nat):Int))=w5 at *
   clear hK K h3o cq sq
   refine wpAnyH_done (by kernel_rfl) ?_ _
   clear hHeld
   have c0:=C0.out
   have E1:Hid (fm|||2 ^ k=bitsK (isLoan ns) (k+1)):=Lib.hid (by rw [HFM.out];show _=(if isLoan ns k then _ else _);rw [isLoan_at HDK.out,← HOP.out];rfl)
   have E3:Hid (∀ v,v<6→setAt (fun v=>bitsK (isFrom ns v) k) Y (fb|||2 ^ k) v=bitsK (isFrom ns v) (k+1)):=Lib.hid (fun v hv=>loan_from HDK.out (by rw [← HOP.out];exact .inr rfl) HYY.out HFB.out v)
   have q2:=HQ.out.c2
   have s2:=HQ.out.soft 2
   have hu61:=bitsK_61 (isUniq ns) (k:=k) (by omega)
   obtain ⟨fu,hfu⟩:∃ fu,fu=bitsK (isUniq ns) k:=⟨_,rfl⟩
   rw [← hfu] at HQ q2 hu61
   have HFU:=Lib.hid hfu
   clear hfu
   have hlq5:=HQ.out.ltW
   go_wp2_with fail
   refine (with_any fu k (by omega) (by omega) _).mono ?_
   rintro E w6 ⟨rfl,hb6⟩
   replace HQ:=Lib.hid (HQ.out.keep hb6)
   have q2:=HQ.out.c2
   have s2:=HQ.out.soft 2
   replace HBL:=Lib.hid (HBL.out.trans (hb6.mono (by omega)))
   have HFIN:=Lib.hid (HQ.out.put2 (fu|||2 ^ k))
   have HBF:=Lib.hid (below_lset (o:=2) (x:=(.int .u64 ((fu|||2 ^ k:Nat):Int))) HBL.out)
   clear hb6 HQ HBL
   go_wp2_with fail
   go_end0
   exact ⟨rfl,HFIN.out.ofQ E1.out (by rw [HFU.out];show _=(if isUniq ns k then _ else _);rw [isUniq_at HDK.out,← HOP.out];rfl) E3.out,HBF.out⟩
 ·have n4:¬ op=4:=fun h9=>h45 (.inl h9)
  have n5:¬ op=5:=fun h9=>h45 (.inr h9)
  have m4:(op != 4)=true:=by simp [n4]
  have m5:(op != 5)=true:=by simp [n5]
  have HF:Hid (LndIn ts ns C F hi A c ah bk L (k+1) mb lv w1):=(HQ.out.ofQ rfl rfl (fun _ _=>rfl)).skip HDK.out (by rw [← HOP.out];exact h45)
  clear h45 HQ
  go_wp2_with fail
  refine bodyPost_ret (results_none rfl _ _ _) rfl ?_
  exact ⟨rfl,HF.out,HBL.out⟩
theorem fold_setN (o:Nat):∀ (l:List Value) (k:Nat) (cs:Array Value),(l.zipIdx k).foldl (fun cs (p:Value × Nat)=>cs.setIfInBounds (o+p.2) p.1) cs=setN cs (o+k) l
 | [],_,_=>rfl
 | v :: l,k,cs=>by
  rw [List.zipIdx_cons,List.foldl_cons,fold_setN o l (k+1)]
  rfl
theorem fill_one {place:Nat→Option (Nat × Nat)} {cells:Array Value} {i off:Nat} {v:Value} {rest:List (Nat × Value)} (hp:place i=some (off,v.cells.size)) (hz:off+v.cells.size≤cells.size):Instr.fill place cells ((i,v) :: rest)=Instr.fill place (setN cells off v.cells.toList) rest:=by
 have e:v.cells.zipIdx.foldl (fun cs (p:Value × Nat)=>cs.setIfInBounds (off+p.2) p.1) cells=setN cells off v.cells.toList:=by
  rw [← Array.foldl_toList,Array.toList_zipIdx,fold_setN off v.cells.toList 0 cells,Nat.add_zero]
 simp only [Instr.fill,hp]
 rw [if_neg (by simp;omega)]
 exact congrArg (fun c=>Instr.fill place c rest) e
theorem wpList_build_as {ops:Array Oper} {rest:List Oper} {o:Oper} {a:Act} {w:World} {Q:Exit→Act→World→Prop} (hg:o.guard=none) (t:TypeId) (parts:Array (Nat × Operand)) (ho:o.op=.build t parts) (vs:Array (Nat × Value)) (hv:(parts.map fun (i,x)=>(i,a.eval x))=vs) (v:Value)
  (hr:(Instr.build t vs).run Tryz.prog w=.ok v w) (h:wpList Tryz.prog ops Q rest (a.put o.dst v) w):wpList Tryz.prog ops Q (o :: rest) a w :=
 wpList_plain hg fun K hK=>by
  unfold Oper.wp execOp
  simp only [ho,Sem.run_bind,hv,hr,Result.andThen_ok]
  exact hK _ _ h
def placesL:List (Nat × Nat):=[(0,1),(1,1),(2,1),(3,6),(9,61),(70,61),(131,427)]
theorem zeroL:Tryz.zeroCells97=#[.pointer none]++Array.replicate 557 (.int .u64 0):=by kernel_rfl
theorem built_lnd (p x y:Value):Tryz.prog.built 97 [(0,p),(4,x),(5,y)]=Instr.fill (placesL.toArray[·]?) Tryz.zeroCells97 [(0,p),(4,x),(5,y)]:=by kernel_rfl
noncomputable def newL (F:Nat) (xs ys:Array Value):Array Value:=setN (setN (setN Tryz.zeroCells97 0 [.pointer (some ⟨F,0,none⟩)]) 9 xs.toList) 70 ys.toList
theorem zeroL_size:(Tryz.zeroCells97).size=558:=by rw [zeroL];simp
theorem build_lnd (F:Nat) (xs ys:Array Value) (hx:xs.size=61) (hy:ys.size=61) (w:World):(Instr.build 97 #[(0,.pointer (some ⟨F,0,none⟩)),(4,.agg xs),(5,.agg ys)]).run Tryz.prog w=.ok (.agg (newL F xs ys)) w:=by
 refine run_build w 97 _ _ ?_
 show Tryz.prog.built 97 [(0,.pointer (some ⟨F,0,none⟩)),(4,.agg xs),(5,.agg ys)]=_
 rw [built_lnd]
 have hz:=zeroL_size
 rw [fill_one (off:=0) (v:=.pointer (some ⟨F,0,none⟩)) rfl (by rw [hz];show 0+1≤558;omega)]
 rw [fill_one (off:=9) (v:=.agg xs) (by show some (9,61)=some (9,xs.size);rw [hx]) (by rw [setN_size,hz];show 9+xs.size≤558;omega)]
 rw [fill_one (off:=70) (v:=.agg ys) (by show some (70,61)=some (70,ys.size);rw [hy]) (by rw [setN_size,setN_size,hz];show 70+ys.size≤558;omega)]
 rfl
theorem newL_size (F:Nat) (xs ys:Array Value):(newL F xs ys).size=558:=by
 unfold newL
 rw [setN_size,setN_size,setN_size,zeroL_size]
theorem newL_get (F:Nat) (xs ys:Array Value) (hx:xs.size=61) (hy:ys.size=61) (j:Nat):(newL F xs ys)[j]?=if 70≤j∧j<131 then ys[j-70]? else if 9≤j∧j<70 then xs[j-9]? else if j=0 then some (.pointer (some ⟨F,0,none⟩)) else (Tryz.zeroCells97)[j]?:=by
 have hxl:xs.toList.length=61:=by simpa using hx
 have hyl:ys.toList.length=61:=by simpa using hy
 unfold newL
 rw [setN_get _ _ _ _ (by rw [setN_size,setN_size,zeroL_size,hyl];omega),hyl]
 by_cases h1:70≤j∧j<70+61
 ·rw [if_pos h1,if_pos (by omega)]
  simp
 ·rw [if_neg h1,if_neg (by omega),setN_get _ _ _ _ (by rw [setN_size,zeroL_size,hxl];omega),hxl]
  by_cases h2:9≤j∧j<9+61
  ·rw [if_pos h2,if_pos (by omega)]
   simp
  ·rw [if_neg h2,if_neg (by omega),setN_get _ _ _ _ (by rw [zeroL_size];show 0+1≤558;omega)]
   by_cases h3:j=0
   ·subst h3
    rw [if_pos (by show 0≤0∧0<0+1;omega),if_pos rfl]
    rfl
   ·rw [if_neg (by show ¬ (0≤j∧j<0+1);omega),if_neg h3]
theorem zeroL_get (j:Nat) (h1:1≤j) (h2:j<558):(Tryz.zeroCells97)[j]?=some (.int .u64 0):=by
 rw [zeroL,Array.getElem?_append_right (by show 1≤j;exact h1),Array.getElem?_replicate,if_pos (by show j-1<557;omega)]
section
variable {ts:List Int} {ns:List Nd} {C F hi:Nat} {A:Option Addr} {c:Nat} {ah bk:Nat→Nat} {L m:Nat} {mb lv:Nat→Nat} {a b:World}
theorem LndIn.new (h:FlowsIn ts ns C F hi A c ah bk a) {xs ys:Array Value} (hx:xs.size=61) (hy:ys.size=61) (hmb:∀ i,i<61→xs[i]?=some (.int .u64 (mb i:Int))) (hlv:∀ i,i<61→ys[i]?=some (.int .u64 (lv i:Int))) :
  LndIn ts ns C F hi A c ah bk a.heap.size 0 mb lv (a.alloc (.cells (newL F xs ys) 97)):=by
 have hl:=h.lt
 have hg:=newL_get F xs ys hx hy
 refine ⟨h.keep ((Below.refl _ _).alloc (Nat.le_refl _) _),⟨_,heap_alloc_new a _,⟨newL_size _ _ _,?_,?_,?_,fun v hv=>?_⟩,fun i hi=>?_,fun i hi=>?_⟩,by omega,by omega,by omega⟩
 ·rw [hg,if_neg (by omega),if_neg (by omega),if_pos rfl]
 ·rw [hg,if_neg (by omega),if_neg (by omega),if_neg (by omega),zeroL_get _ (by omega) (by omega)];rfl
 ·rw [hg,if_neg (by omega),if_neg (by omega),if_neg (by omega),zeroL_get _ (by omega) (by omega)];rfl
 ·rw [hg,if_neg (by omega),if_neg (by omega),if_neg (by omega),zeroL_get _ (by omega) (by omega)];rfl
 ·rw [hg,if_neg (by omega),if_pos (by omega),show 9+i-9=i from by omega,hmb i hi]
 ·rw [hg,if_pos (by omega),show 70+i-70=i from by omega,hlv i hi]
theorem LndIn.thereK (h:LndIn ts ns C F hi A c ah bk L m mb lv a):a.there L 131 427:=by
 obtain ⟨cs,h1,h2,_⟩:=h.row
 have hz:=h2.size
 intro j hj
 refine ⟨?_,frozen_of_row _ _ _ _ _ h1⟩
 rw [cB h1,Array.getElem?_eq_getElem (by omega)]
 rfl
theorem LndIn.known (h:LndIn ts ns C F hi A c ah bk L m mb lv a) {ks:Array Value} {kn:Nat→Nat→Nat} (hz:ks.size=427) (hk:LRows ks 0 kn) :
  LndIn ts ns C F hi A c ah bk L m mb lv (a.setCells L 131 ks.toList)∧∃ cs,(a.setCells L 131 ks.toList).heap[L]?=some (.cells cs 97 (0,0))∧cs.size=558∧LRows cs 131 kn:=by
 obtain ⟨cs,h1,h2,h3,h4⟩:=h.row
 have hs:=h2.size
 have hl:=heap_lt h1
 have hlt:=h.lt
 have hfl:=h.fl.lt
 have hkl:ks.toList.length=427:=by simpa using hz
 have hn:=heap_setCells ks.toList 131 a cs h1 (by omega)
 have hget:∀ j,(setN cs 131 ks.toList)[j]?=_:=fun j=>setN_get ks.toList cs 131 j (by omega)
 have hout:∀ j,j<131→(setN cs 131 ks.toList)[j]?=cs[j]?:=fun j hj=>by rw [hget,if_neg (by omega)]
 have ho:∀ g,g<L→(a.setCells L 131 ks.toList).heap[g]?=a.heap[g]?:=fun g hg=>heap_setCells_ne _ _ _ _ _ (by omega) (by omega)
 refine ⟨⟨⟨?_,h.fl.gr.kept (ho C hlt.2.1),h.fl.sc.keep (Nat.le_refl _) (Nat.le_refl _) fun p _ hp=>World.cell?_of_block (ho p.block (by omega)),by rw [size_setCells];exact hfl,h.fl.sets⟩,⟨_,hn,⟨by rw [setN_size];exact hs,?_,?_,?_,fun v hv=>?_⟩,fun i hi=>?_,fun i hi=>?_⟩,hlt⟩,_,hn,by rw [setN_size];exact hs,fun k hk' v hv=>?_⟩
 ·rw [ho F hlt.1];exact h.fl.row
 ·rw [hout _ (by omega)];exact h2.fl
 ·rw [hout _ (by omega)];exact h2.made
 ·rw [hout _ (by omega)];exact h2.uniq
 ·rw [hout _ (by omega)];exact h2.from_ v hv
 ·rw [hout _ (by omega)];exact h3 i hi
 ·rw [hout _ (by omega)];exact h4 i hi
 ·rw [hget,if_pos (by rw [hkl];omega),show 131+(k*7+v)-131=k*7+v from by omega]
  have:=hk k hk' v hv
  rw [Nat.zero_add] at this
  simpa using this
end
theorem both_range {W:World} {B:Nat} (h:W.heap[B]?=some (.cells #[.iface 155 (.agg #[]),.iface 156 (.agg #[])] 162 (0,0))):W.rangeAt B 0 [.iface 155 (.agg #[]),.iface 156 (.agg #[])]:=by
 intro j v hv
 rw [Nat.zero_add,cB h]
 simpa using hv
structure Lend (ts:List Int) (ns:List Nd) (C F hi:Nat) (A:Option Addr) (c:Nat) (ah bk:Nat→Nat) (L:Nat) (mb lv:Nat→Nat) (kn:Nat→Nat→Nat) (w:World):Prop where
 ln:LndIn ts ns C F hi A c ah bk L ns.length mb lv w
 row:∃ cs,w.heap[L]?=some (.cells cs 97 (0,0))∧cs.size=558∧LRows cs 131 kn
 mbIn:FloIn (fun a b=>eN ns a b) 0 (fun _=>False) (fun k v=>setsN ns k v) (fun k v=>usesN ts ns k v 2) ns.length false mb (fun _=>False)
 lvIn:FloIn (fun a b=>eN ns b a) 0 (fun _=>False) (fun (k v:Nat)=>∃ d,ns[k]?=some d∧useI ts d v≠0) (fun k v=>setsN ns k v) ns.length false lv (fun _=>False)
 knIn:LIn (eN ns) (genL ns) (handL ts ns) ns.length kn (fun _=>False)
def LendPost (ts:List Int) (ds:List Nd) (w:World) (E:Ending) (w':World):Prop :=
 ∃ (C F hi:Nat) (A:Option Addr) (c:Nat) (ah bk:Nat→Nat) (L:Nat) (mb lv:Nat→Nat) (kn:Nat→Nat→Nat),E=.returned (.tuple #[.pointer (some ⟨L,0,none⟩),.bool true])∧Lend ts ds C F hi A c ah bk L mb lv kn w'∧w.heap.size≤L∧Below w.heap.size w w'
theorem lendingOf_yes (ts:List Int) (s:Sts) (At As:Option Addr) (ct cs:Nat) (w:World) (hok:validB ts s=true) (hT:IntsV w 0 w.heap.size ts At ct) (hR:RepV w 0 w.heap.size s As cs)
  (hTab:TabAt 0 Lib.deBruijn64tab w) (hg:0<w.heap.size) :
  Calls Tryz.prog 55 #[.agg #[.slice At ts.length ct,.slice As s.len cs]] w (LendPost ts (progPts s) w):=by
 have hb0:=(Below.refl w.heap.size w).alloc (Nat.le_refl _) (.cells #[.slice At ts.length ct,.slice As s.len cs] 30)
 have hz0:(w.alloc (.cells #[.slice At ts.length ct,.slice As s.len cs] 30)).heap.size=w.heap.size+1:=by simp
 have HZ:=Lib.hid hz0
 have hS:=flowsOf_yes ts s At As ct cs _ hok (hT.below hb0 (by simp)) (hR.below hb0 (by simp))
 have hA:=progPts_allTyped hok
 have hD:=progPts_ok s (valid_ok hok).2.1
 generalize progPts s=ds at *
 generalize s.npts=q at hD
 have HD:=Lib.hid hD
 have HA:=Lib.hid hA
 have hbl0:Hid (∀ w9:World,(Instr.build 94 #[]).run Tryz.prog w9=.ok (.agg #[.int .u64 0,.int .u64 0,.int .u64 0,.int .u64 0,.int .u64 0,.int .u64 0,.int .u64 0]) w9):=fun w9=>run_build w9 94 _ _ (by kernel_rfl)
 clear hz0 hok hA hD hT hR
 go_enter Tryz.func55,Tryz.ntmps55
 go_wp2_with fail
 refine hS.mono ?_
 rintro E w1 ⟨C,F,hi,A2,c2,ah,bk,rfl,hF,hfl,hb1⟩
 rw [HZ.out] at hF hb1
 have hb:Below w.heap.size w w1:=hb0.trans (hb1.mono (by omega))
 have hbz:=hb.size
 have HFL:=Lib.hid hfl
 have hle:=hfl.gr.le
 have hmay:=flowSome.analysis_any ts ds q C F hi A2 c2 ah bk w1 hfl HD.out HA.out (tab_below hTab hg hb) (by omega)
 have HB1:=Lib.hid hb
 have HLEN:=Lib.hid hle
 clear hfl hb1 hS hb0 hb hle
 go_wp2_with fail
 refine hmay.mono ?_
 rintro E w2 ⟨xs,mb,rfl,hxz,hxc,hxf,hb2⟩
 have HFL2:=Lib.hid (HFL.out.keep hb2)
 have HB2:=Lib.hid (HB1.out.trans (hb2.mono hbz))
 have HXC:=Lib.hid hxc
 have HFM:=Lib.hid hxf
 have hbz2:=HB2.out.size
 have hliv:=flowLive.analysis_any ts ds q C F hi A2 c2 ah bk w2 HFL2.out HD.out HA.out (tab_below hTab hg HB2.out) (by omega)
 clear hmay hb2 hxc hxf
 go_wp2_with fail
 refine hliv.mono ?_
 rintro E w3 ⟨ys,lv,rfl,hyz,hyc,hyf,hb3⟩
 have HFL3:=Lib.hid (HFL2.out.keep hb3)
 have HB3:=Lib.hid (HB2.out.trans (hb3.mono hbz2))
 have HFV:=Lib.hid hyf
 have hbz3:=HB3.out.size
 have hbld:=build_lnd F xs ys hxz hyz
 have HLN:=Lib.hid (LndIn.new HFL3.out hxz hyz HXC.out hyc)
 have HBa:=Lib.hid (HB3.out.alloc (by omega) (.cells (newL F xs ys) 97))
 have HWL:Hid (w.heap.size≤w3.heap.size):=hbz3
 have hLa:w3.heap.size<(w3.alloc (.cells (newL F xs ys) 97)).heap.size:=by simp
 have HLA:=Lib.hid hLa
 clear hliv hb3 hyc hyf hbz hbz2 hbz3 hLa
 have HBLD:=Lib.hid hbld
 clear hbld
 go_upto_region 5 with (first | ((with_reducible show wpList _ _ _ _ _ _);refine wpList_build_as rfl 97 _ rfl #[(0,.pointer (some ⟨F,0,none⟩)),(4,.agg xs),(5,.agg ys)] (by first | kernel_rfl | rfl | (simp;done)) (.agg (newL F xs ys)) ?_ ?_;exact HBLD.out _))
 clear hxz hyz HBLD
 generalize w3.alloc (.cells (newL F xs ys) 97)=w4 at *
 have HF4:=HLN.out.fl
 have cF:=HF4.grCell
 have cN:=HF4.gr.count
 generalize w3.heap.size=L at *
 clear HF4 HFL HFL2 HFL3 HXC HB1 HB2 HB3
 go_wp2_with fail
 clear cF cN
 go_loopw [30] (fun i wr=>∃ k:Nat,i=.int .i64 k∧k≤ds.length∧Hid (LndIn ts ds C F hi A2 c2 ah bk L k mb lv wr)∧Hid (Below w.heap.size w wr)) (fun i _=>ds.length-(intOf i).toNat)
 case atStart=>exact ⟨0,rfl,Nat.zero_le _,HLN,HBa⟩
 case round =>
  clear HLN HBa HLA
  obtain ⟨k,rfl,hk,HL,HB⟩:=hrel
  have hle:=HLEN.out
  by_cases hlt:k<ds.length
  ·obtain ⟨d,hd⟩:∃ d,ds[k]?=some d:=⟨ds[k],List.getElem?_eq_getElem hlt⟩
   have had:=addLoan_any ts ds C F hi A2 c2 ah bk L mb lv k d wr HL.out HA.out hd
   clear hd
   go_wp2_with fail
   refine had.mono ?_
   rintro E w5 ⟨rfl,hl5,hb5⟩
   have HL5:=Lib.hid hl5
   have HB5:=Lib.hid (HB.out.trans (hb5.mono HWL.out))
   clear had hl5 hb5 HL HB
   go_wp2_with fail
   refine ⟨⟨k+1,by simp,by omega,HL5,HB5⟩,?_⟩
   simp only [intOf]
   omega
  ·have hke:k=ds.length:=by omega
   have kd:decide (k<ds.length)=false:=decide_eq_false hlt
   have HL2:Hid (LndIn ts ds C F hi A2 c2 ah bk L ds.length mb lv wr):=by rw [← hke];exact HL
   clear HL hke hlt hk
   have hnew:=Lib.hid (heap_alloc_new wr (.cells #[.iface 155 (.agg #[]),.iface 156 (.agg #[])] 162))
   have HL6:=Lib.hid (HL2.out.keep ((Below.refl wr.heap.size wr).alloc (Nat.le_refl _) (.cells #[.iface 155 (.agg #[]),.iface 156 (.agg #[])] 162)))
   have HB6:=Lib.hid (HB.out.alloc HB.out.size (.cells #[.iface 155 (.agg #[]),.iface 156 (.agg #[])] 162))
   have HLB8:Hid (L<wr.heap.size):=HL2.out.ltW
   clear HL2 HB
   go_upto_region 11 with fail
   generalize wr.alloc (.cells #[.iface 155 (.agg #[]),.iface 156 (.agg #[])] 162)=w6 at *
   generalize wr.heap.size=B8 at *
   have hS11:(fun w'=>LndIn ts ds C F hi A2 c2 ah bk L ds.length mb lv w'∧w'.heap[B8]?=some (.cells #[.iface 155 (.agg #[]),.iface 156 (.agg #[])] 162 (0,0))∧Below w.heap.size w w') w6.drew:=⟨HL6.out.keep (Below.refl _ _).drew,hnew.out,HB6.out.drew⟩
   clear HL6 hnew HB6 kd
   refine wp_region_held_drew (S:=fun w'=>LndIn ts ds C F hi A2 c2 ah bk L ds.length mb lv w'∧w'.heap[B8]?=some (.cells #[.iface 155 (.agg #[]),.iface 156 (.agg #[])] 162 (0,0))∧Below w.heap.size w w') (by kernel_rfl) hS11 (fun hHeld=>?_)
   clear hS11
   generalize w6.drew=wd at *
   refine tkd (i:=0) (v:=.pointer (some ⟨L,0,none⟩)) rfl hHeld ?_
   try simp only [Act.put,sA,sB,sC]
   refine tkd (i:=1) (v:=.pointer (some ⟨F,0,none⟩)) rfl hHeld ?_
   try simp only [Act.put,sA,sB,sC]
   refine tkd (i:=2) (v:=.pointer (some ⟨F,0,none⟩)) rfl hHeld ?_
   try simp only [Act.put,sA,sB,sC]
   refine tkd (i:=3) (v:=.pointer (some ⟨F,246,none⟩)) rfl hHeld ?_
   try simp only [Act.put,sA,sB,sC]
   refine tk (i:=4) (v:=.agg #[.int .u64 0,.int .u64 0,.int .u64 0,.int .u64 0,.int .u64 0,.int .u64 0,.int .u64 0]) rfl (Or.inl ⟨by rfl,fun w9 hSw=>by have h9:=hbl0.out w9;go_simp⟩) hHeld ?_
   try simp only [Act.put,sA,sB,sC]
   refine tk (i:=5) (v:=flowLent.bothV) rfl (yieldsIf_load_mid (by rfl) _ _ rfl B8 0 rfl [.iface 155 (.agg #[]),.iface 156 (.agg #[])] _ (fun w' h=>both_range h.2.1) Tryz.underlying162 rfl (by kernel_rfl)) hHeld ?_
   try simp only [Act.put,sA,sB,sC]
   refine tkd (i:=6) (v:=.iface 162 flowLent.bothV) rfl hHeld ?_
   try simp only [Act.put,sA,sB,sC]
   refine tkd (i:=7) (v:=.pointer (some ⟨L,0,none⟩)) rfl hHeld ?_
   try simp only [Act.put,sA,sB,sC]
   refine tkd (i:=8) (v:=.func (.func 93) #[.pointer (some ⟨L,0,none⟩)] #[]) rfl hHeld ?_
   try simp only [Act.put,sA,sB,sC]
   refine wpAnyH_ready (rs:=[9]) (by kernel_rfl) (by simp) ?_
   refine AllReadyH.cons (o:=⟨_,_,_,_,_,_⟩) rfl (fun K hK=>?_) AllReadyH.nil
   go_simp
   refine (flowLent.walk ts ds q C F hi A2 c2 ah bk L mb lv _ hHeld.1 HD.out HA.out (tab_below hTab hg hHeld.2.2) (by have:=hHeld.2.2.size;omega)).mono ?_
   rintro E wq ⟨kcs,kn,rfl,hkz,hkr,hkl,hbq⟩
   have HKR:=Lib.hid hkr
   have HKL:=Lib.hid hkl
   have hsz:=hHeld.2.2.size
   refine hK.out _ _ ⟨hHeld.1.keep hbq,(hbq.block B8 (heap_lt hHeld.2.1)).trans hHeld.2.1,hHeld.2.2.trans (hbq.mono hsz)⟩ (fun hHeld=>?_)
   clear hK K hbq hkr hkl hsz
   refine tkd (i:=10) (v:=.pointer (some ⟨L,0,none⟩)) rfl hHeld ?_
   try simp only [Act.put,sA,sB,sC]
   refine tkd (i:=11) (v:=.pointer (some ⟨L,131,none⟩)) rfl hHeld ?_
   try simp only [Act.put,sA,sB,sC]
   refine wpAnyH_ready (rs:=[12]) (by kernel_rfl) (by simp) ?_
   refine AllReadyH.cons (o:=⟨_,_,_,_,_,_⟩) rfl (fun K hK=>?_) AllReadyH.nil
   rw [if_pos (by rfl)]
   refine wp_store_mid _ _ _ rfl L 131 kcs rfl rfl (by rw [hkz];exact hHeld.1.thereK) (by rw [hkz];kernel_rfl) (lrows_one hkz HKR.out) ?_
   simp only [Act.put]
   have hkp:=hHeld.1.known hkz HKR.out
   have HKP:=Lib.hid hkp.2
   refine hK.out _ _ ⟨hkp.1,(heap_setCells_ne _ L B8 131 _ (by have:=HLB8.out;omega) (heap_lt hHeld.2.1)).trans hHeld.2.1,below_setCells hHeld.2.2 (by have:=HWL.out;omega) hHeld.2.2.size⟩ (fun hHeld=>?_)
   clear hK K hkp
   refine wpAnyH_done (by kernel_rfl) ?_ _
   go_wp2_with fail
   go_ret2
   exact ⟨C,F,hi,A2,c2,ah,bk,L,mb,lv,kn,rfl,⟨hHeld.1,HKP.out,HFM.out,HFV.out,HKL.out⟩,by have:=HWL.out;omega,hHeld.2.2⟩
theorem lendingOf_no (ts:List Int) (s:Sts) (At As:Option Addr) (ct cs:Nat) (w:World) (hv:validB ts s=false) (hT:IntsV w 0 w.heap.size ts At ct) (hR:RepV w 0 w.heap.size s As cs) :
  Calls Tryz.prog 55 #[.agg #[.slice At ts.length ct,.slice As s.len cs]] w fun E w'=>E=.returned (.tuple #[.pointer none,.bool false])∧Below w.heap.size w w':=by
 have hb0:=(Below.refl w.heap.size w).alloc (Nat.le_refl _) (.cells #[.slice At ts.length ct,.slice As s.len cs] 30)
 have hS:=flowsOf_no ts s At As ct cs _ hv (hT.below hb0 (by simp)) (hR.below hb0 (by simp))
 go_enter Tryz.func55,Tryz.ntmps55
 go_wp2_with fail
 refine hS.mono ?_
 rintro E w1 ⟨rfl,hb1⟩
 have hb:Below w.heap.size w w1:=hb0.trans (hb1.mono (by simp))
 clear hS
 go_wp2_with fail
 go_ret2
 exact ⟨rfl,hb⟩
end Go.Proofs.YtedkkphogeealaaGreatDoor
