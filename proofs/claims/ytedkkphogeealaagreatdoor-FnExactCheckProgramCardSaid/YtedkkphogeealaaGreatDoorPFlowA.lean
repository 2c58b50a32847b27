/- flowAll: a flow through the points,by the program. -/
import Derived.Test.YtedkkphogeealaaGreatDoorPFloG
import Derived.Test.YtedkkphogeealaaGreatDoorPFlwG
import Derived.Test.YtedkkphogeealaaGreatDoorPDwA
import Derived.Test.YtedkkphogeealaaGreatDoorPMem
import Derived.Test.YtedkkphogeealaaGreatDoorPBits
import Derived.Deep.RegionHeld3
namespace Go.Proofs.YtedkkphogeealaaGreatDoor.flowAll
open Go.RowKit Go.Deep
set_option linter.unusedVariables false
set_option maxRecDepth 100000
set_option maxHeartbeats 8000000
theorem ahead_l (v:Value) (w:World):(nilAhead 368 183 v "loop.example/borrowcheck/impl.least").run Tryz.prog w=.ok (some false) w:=by kernel_rfl
theorem at_l (v:Value) (w:World):(method 368 183 v "loop.example/borrowcheck/impl.least").run Tryz.prog w=.ok (166,v) w:=by kernel_rfl
theorem ahead_j (v:Value) (w:World):(nilAhead 368 183 v "loop.example/borrowcheck/impl.join").run Tryz.prog w=.ok (some false) w:=by kernel_rfl
theorem at_j (v:Value) (w:World):(method 368 183 v "loop.example/borrowcheck/impl.join").run Tryz.prog w=.ok (165,v) w:=by kernel_rfl
theorem least_any (w:World):Calls Tryz.prog 166 #[.agg #[]] w fun E w'=>E=.returned (.int .u64 63)∧Below w.heap.size w w':=by
 have hb0:=(Below.refl w.heap.size w).alloc (Nat.le_refl _) (.cells #[] 183)
 go_enter Tryz.func166,Tryz.ntmps166
 go_wp2_with fail
 go_ret
 exact ⟨rfl,by first | exact hb0 | exact hb0.drew | exact Below.refl _ _ | exact (Below.refl _ _).drew⟩
theorem join_any (x y:Nat) (hx:x<64) (hy:y<64) (w:World):Calls Tryz.prog 165 #[.agg #[],.int .u64 x,.int .u64 y] w fun E w'=>E=.returned (.int .u64 ((jn true x y:Nat):Int))∧Below w.heap.size w w':=by
 have hb0:=(Below.refl w.heap.size w).alloc (Nat.le_refl _) (.cells #[] 183)
 have h1:=bits_and_u64_nat x y (by omega) (by omega)
 go_enter Tryz.func165,Tryz.ntmps165
 go_wp2_with (simp only [h1])
 go_ret
 exact ⟨by simp [jn],by first | exact hb0 | exact hb0.drew | exact Below.refl _ _ | exact (Below.refl _ _).drew⟩
structure FloM (w:World) (kn:Nat→Nat) (wr:World):Prop where
 kn:KnAt wr (w.heap.size+1) kn
 res:KnAt wr w.heap.size (fun _=>0)
 below:Below w.heap.size w wr
theorem FloM.keep {w a b:World} {kn:Nat→Nat} (h:FloM w kn a) (hb:Below a.heap.size a b):FloM w kn b:=⟨h.kn.keep hb,h.res.keep hb,h.below.trans (hb.mono h.below.size)⟩
theorem FloM.put {w a:World} {kn:Nat→Nat} (h:FloM w kn a) {i v:Nat} (hi:i<61):FloM w (setAt kn i v) (a.setCell ⟨w.heap.size+1,i,none⟩ (.int .u64 (v:Int))):=by
 refine ⟨h.kn.put hi,?_,below_set h.below (by omega)⟩
 unfold KnAt
 rw [heap_setCell_other _ _ _ _ (by simp)]
 exact h.res
theorem noSets_kn (w:World):FloM w (fun _=>0) ((w.alloc (.cells noSets 92)).alloc (.cells noSets 92)):=by
 obtain ⟨hb,hz,h1,h2⟩:=two_new w (.cells noSets 92) (.cells noSets 92)
 exact ⟨⟨noSets,h2,noSets_size,noSets_get⟩,⟨noSets,h1,noSets_size,noSets_get⟩,hb⟩
def kn0 (i:Nat):Nat→Nat:=fun j=>if j<i then 63 else 0
theorem kn0_put (i:Nat):setAt (kn0 i) i 63=kn0 (i+1):=by
 funext j
 unfold setAt kn0
 by_cases h:j=i
 ·subst h;simp
 ·rw [if_neg h]
  by_cases h2:j<i
  ·rw [if_pos h2,if_pos (by omega)]
  ·rw [if_neg h2,if_neg (by omega)]
theorem firstSet_bit (n k:Nat):(firstSet n).testBit k=decide (k<n):=by
 unfold firstSet
 exact Nat.testBit_two_pow_sub_one n k
theorem firstSet_lt (n:Nat) (h:n≤61):firstSet n<18446744073709551616:=by
 unfold firstSet
 have h1:2 ^ n≤2 ^ 61:=Nat.pow_le_pow_right (by decide) h
 omega
theorem testBit_63:∀ v,v<6→(63:Nat).testBit v=true:=by decide
theorem flo_start (ts:List Int) (ns:List Nd) (hle:ns.length≤61) (f0:Nat) (hf:f0=0):FloIn (fun a b=>eN ns a b) 0 (fun (_:Nat)=>True) (fun k v=>usesN ts ns k v 2∧¬ setsN ns k v) (fun k v=>setsN ns k v) ns.length true (setAt (kn0 61) f0 0) (fun k=>(firstSet ns.length).testBit k=true):=by
 refine ⟨fun m=>?_,fun m hm v hv hd=>?_,fun v hv hB=>?_,fun k hk hw=>?_⟩
 ·unfold setAt kn0
  (repeat' split) <;> decide
 ·by_cases hmf:m=f0
  ·subst hmf
   subst hf
   exact .start trivial
  ·exfalso
   unfold setAt dv kn0 at hd
   rw [if_neg hmf,if_pos (by omega),testBit_63 v hv] at hd
   cases hd
 ·unfold setAt dv
  rw [if_pos hf.symm]
  simp
 ·rw [firstSet_bit] at hw
  exact absurd (decide_eq_true hk) hw
theorem step_bits {y:Nat} (hy0:y≠0) (hy:y<18446744073709551616):(Lib.ctz 64 y<64∧y.testBit (Lib.ctz 64 y)=true)∧(∀ k,y.testBit k=true→(y&&&(y-1)).testBit k=true∨k=Lib.ctz 64 y)∧∀ k,(y&&&(y-1)).testBit k=true→y.testBit k=true:=by
 have hs:=bitsOf_step y hy0 hy
 have hm:∀ k,k∈bitsOf y↔k=Lib.ctz 64 y∨k∈bitsOf (y&&&(y-1)):=fun k=>by rw [hs,List.mem_cons]
 refine ⟨(mem_bitsOf y _).mp ((hm _).mpr (.inl rfl)),fun k hk=>?_,fun k hk=>?_⟩
 ·have h64:k<64:=by
   rcases Nat.lt_or_ge k 64 with h | h
   ·exact h
   ·rw [Nat.testBit_lt_two_pow (Nat.lt_of_lt_of_le (by omega:y<2 ^ 64) (Nat.pow_le_pow_right (by decide) h))] at hk
    cases hk
  rcases (hm k).mp ((mem_bitsOf y k).mpr ⟨h64,hk⟩) with h | h
  ·exact .inr h
  ·exact .inl ((mem_bitsOf _ _).mp h).2
 ·rw [Nat.testBit_and] at hk
  cases h:y.testBit k
  ·rw [h] at hk;cases hk
  ·rfl
theorem held_1 {B K o:Nat} {w1 wo w':World} {b0:Value} (hb:Below wo.heap.size wo w') (h:Below K w1 wo) (hK:K=w1.heap.size) (hB:B<w1.heap.size)
  (q0:w1.cell? ⟨B,o,none⟩=some b0):Below K w1 w'∧w'.cell? ⟨B,o,none⟩=some b0:=by
 subst hK
 have hbb:Below w1.heap.size w1 w':=h.trans (hb.mono h.size)
 exact ⟨hbb,(hbb.cell hB).trans q0⟩
theorem floAt_less {e:Nat→Nat→Prop} {f0:Nat} {B:Nat→Prop} {G K:Nat→Nat→Prop} {n:Nat} {neg:Bool} {kn:Nat→Nat} {W:Nat→Prop} {a x0 y:Nat} {D D':Nat→Prop} (h:FloAt e f0 B G K n neg kn W a x0 y D) (hD:∀ m,D' m→D m):FloAt e f0 B G K n neg kn W a x0 y D' :=
 ⟨h.lt,h.ylt,h.sound,h.beg,h.behind,h.old,h.here,fun k hk hw m hm hDm=>h.next k hk hw m hm (fun e'=>hD m (hDm e'))⟩
theorem intsOf_bits (x:Nat):intsOf x=(bitsOf x).map fun (k:Nat)=>(k:Int):=rfl
theorem results_one_row {fn:Func} {p:Tmp} {ty:TypeId} (h:fn.results=#[.cell p ty]) (P:Program) (tmps:Array Value) (w:World) (g:Nat) (cs:Array Value)
  (hp:tmps.getD p undef=.pointer (some ⟨g,0,none⟩)) (hl:(loadVar ty ⟨g,0,none⟩).run P w=.ok (.agg cs) w):(results fn tmps).run P w=.ok (.agg cs) w:=by
 have hp':tmps[p]?.getD undef=.pointer (some ⟨g,0,none⟩):=by simpa using hp
 simp [results,h,hp',asAddr,hl]
def Post (ts:List Int) (ns:List Nd) (w:World) (E:Ending) (w':World):Prop:=∃ (cs:Array Value) (kn:Nat→Nat),E=.returned (.agg cs)∧cs.size=61∧(∀ i,i<61→cs[i]?=some (.int .u64 (kn i:Int)))∧FloIn (fun a b=>eN ns a b) 0 (fun (_:Nat)=>True) (fun k v=>usesN ts ns k v 2∧¬ setsN ns k v) (fun k v=>setsN ns k v) ns.length true kn (fun _=>False)∧Below w.heap.size w w'
theorem walk (ts:List Int) (ns:List Nd) (q C F hi:Nat) (A:Option Addr) (c:Nat) (ah bk:Nat→Nat) (w:World) (h:FlowsIn ts ns C F hi A c ah bk w) (hD:PtsOk q ns) (hA:AllTyped ts ns)
  (hTab:TabAt 0 Lib.deBruijn64tab w) (hg:0<w.heap.size) :
  Calls Tryz.prog 103 #[.pointer (some ⟨F,246,none⟩),.int .u64 0,.iface 183 (.agg #[]),.func (.func 82) #[.pointer (some ⟨F,0,none⟩)] #[]] w (Post ts ns w):=by
 have hst:=noSets_kn w
 have hal:=ahead_l
 have hml:=at_l
 have hn1:1≤ns.length:=by have:=hD.1;omega
 have hle:=h.gr.le
 have HW:=Lib.hid h
 have HD:=Lib.hid hD
 have HA:=Lib.hid hA
 have HTAB:=Lib.hid hTab
 have hFl:F<w.heap.size:=by have:=h.lt;omega
 clear h hD hA hTab
 go_enter Tryz.func103,Tryz.ntmps103
 go_wp2_with fail
 unfold noSets at hst
 generalize hw0:(w.alloc (.cells #[.int .u64 0,.int .u64 0,.int .u64 0,.int .u64 0,.int .u64 0,.int .u64 0,.int .u64 0,.int .u64 0,.int .u64 0,.int .u64 0,.int .u64 0,.int .u64 0,.int .u64 0,.int .u64 0,.int .u64 0,.int .u64 0,.int .u64 0,.int .u64 0,.int .u64 0,.int .u64 0,.int .u64 0,.int .u64 0,.int .u64 0,.int .u64 0,.int .u64 0,.int .u64 0,.int .u64 0,.int .u64 0,.int .u64 0,.int .u64 0,.int .u64 0,.int .u64 0,.int .u64 0,.int .u64 0,.int .u64 0,.int .u64 0,.int .u64 0,.int .u64 0,.int .u64 0,.int .u64 0,.int .u64 0,.int .u64 0,.int .u64 0,.int .u64 0,.int .u64 0,.int .u64 0,.int .u64 0,.int .u64 0,.int .u64 0,.int .u64 0,.int .u64 0,.int .u64 0,.int .u64 0,.int .u64 0,.int .u64 0,.int .u64 0,.int .u64 0,.int .u64 0,.int .u64 0,.int .u64 0,.int .u64 0] 92)).alloc (.cells #[.int .u64 0,.int .u64 0,.int .u64 0,.int .u64 0,.int .u64 0,.int .u64 0,.int .u64 0,.int .u64 0,.int .u64 0,.int .u64 0,.int .u64 0,.int .u64 0,.int .u64 0,.int .u64 0,.int .u64 0,.int .u64 0,.int .u64 0,.int .u64 0,.int .u64 0,.int .u64 0,.int .u64 0,.int .u64 0,.int .u64 0,.int .u64 0,.int .u64 0,.int .u64 0,.int .u64 0,.int .u64 0,.int .u64 0,.int .u64 0,.int .u64 0,.int .u64 0,.int .u64 0,.int .u64 0,.int .u64 0,.int .u64 0,.int .u64 0,.int .u64 0,.int .u64 0,.int .u64 0,.int .u64 0,.int .u64 0,.int .u64 0,.int .u64 0,.int .u64 0,.int .u64 0,.int .u64 0,.int .u64 0,.int .u64 0,.int .u64 0,.int .u64 0,.int .u64 0,.int .u64 0,.int .u64 0,.int .u64 0,.int .u64 0,.int .u64 0,.int .u64 0,.int .u64 0,.int .u64 0,.int .u64 0] 92)=w0 at hst ⊢
 clear hw0
 have HST:Hid (FloM w (kn0 0) w0):=by
  refine ⟨hst.kn.congr (fun i _=>?_),hst.res,hst.below⟩
  unfold kn0
  rw [if_neg (Nat.not_lt_zero _)]
 clear hst
 go_loopw [10,17] (fun _ i wr=>∃ k:Nat,i=.int .i64 k∧k≤61∧Hid (FloM w (kn0 k) wr)) (fun _ i _=>61-(intOf i).toNat)
 case atStart=>exact ⟨0,rfl,Nat.zero_le _,HST⟩
 case round =>
  clear HST
  obtain ⟨k,rfl,hk,HS⟩:=hrel
  by_cases hlt:k<61
  ·have ki0:(0:Int)≤(k:Int):=by omega
   have ki1:(k:Int)<61:=by omega
   go_wp2_with fail
   refine (least_any _).mono ?_
   rintro E w2 ⟨rfl,hb2⟩
   have HS2:=Lib.hid (HS.out.keep hb2)
   have c1:=HS2.out.kn.cell hlt
   have f1:=HS2.out.kn.soft k
   have HS3:=Lib.hid (HS2.out.put (i:=k) (v:=63) hlt)
   rw [kn0_put] at HS3
   clear hb2 HS HS2
   go_wp2_with fail
   refine ⟨⟨k+1,by simp,by omega,HS3⟩,?_⟩
   simp only [intOf]
   omega
  ·have hk61:k=61:=by omega
   rw [hk61] at HS
   have kd:decide ((k:Int)<61)=false:=decide_eq_false (by omega)
   clear hk61 hlt hk
   clear hal hml
   have hfl:=HW.out.keep (b:=wr) HS.out.below
   obtain ⟨cs,r1,r2,r3⟩:=hfl.row
   obtain ⟨f0,hf0⟩:∃ f0:Nat,f0=0:=⟨_,rfl⟩
   have hcr:=r3.1
   rw [show CoursIn cs 246 (0) ns.length ah=CoursIn cs 246 f0 ns.length ah from by rw [hf0]] at hcr
   have g1:wr.cell? ⟨F,246,none⟩=some (.int .i64 (f0:Int)):=(cB r1 _).trans hcr.1
   have g2:wr.cell? ⟨F,247,none⟩=some (.int .u64 ((firstSet ns.length:Nat):Int)):=(cB r1 _).trans hcr.2.1
   have hf61:f0<61:=by omega
   have c1:=HS.out.kn.cell hf61
   have f1:=HS.out.kn.soft f0
   have HS4:Hid (FloM w (setAt (kn0 61) f0 0) (wr.setCell ⟨w.heap.size+1,f0,none⟩ (.int .u64 0))):=HS.out.put (i:=f0) (v:=0) hf61
   have fi0:(0:Int)≤(f0:Int):=by omega
   have fi1:(f0:Int)<61:=by omega
   clear hfl r1 r2 r3 hcr HS
   have HFL0:=Lib.hid (flo_start ts ns hle f0 hf0)
   clear hf0
   go_wp2_with fail
   generalize wr.setCell ⟨w.heap.size+1,f0,none⟩ (.int .u64 0)=wB at *
   clear g1 g2 c1 f1 fi0 fi1 hf61
   go_loopw [11] (fun wk wr=>∃ (y:Nat) (kn:Nat→Nat),wk=.int .u64 y∧y<18446744073709551616∧Hid (∀ k,k<64→y.testBit k=true→k<ns.length)∧Hid (FloIn (fun a b=>eN ns a b) 0 (fun (_:Nat)=>True) (fun k v=>usesN ts ns k v 2∧¬ setsN ns k v) (fun k v=>setsN ns k v) ns.length true kn (fun k=>y.testBit k=true))∧Hid (FloM w kn wr)) (fun wk wr=>(intOf wk).toNat+18446744073709551616*sumTo (fun i=>wt true (knW wr (w.heap.size+1) i)) ns.length)
   case atStart=>exact ⟨firstSet ns.length,_,rfl,firstSet_lt _ hle,fun k _ hk=>by rw [firstSet_bit] at hk;exact of_decide_eq_true hk,HFL0,HS4⟩
   case round =>
    clear HFL0 HS4
    obtain ⟨y,kn,rfl,hy,hyn,HF,HS⟩:=hrel
    by_cases hy0:y=0
    ·subst hy0
     obtain ⟨csK,k1,k2,k3⟩:=HS.out.kn
     obtain ⟨csR,q1,q2,q3⟩:=HS.out.res
     have hu:=Tryz.underlying92
     have hsz:(Tryz.prog.info? 92).map (·.size)=some 61:=by kernel_rfl
     have hrg:=range_row k1
     have hth:=there_row q1 q2
     have hone:csK.all (·.oneCell')=true:=by
      rw [Array.all_eq_true_iff_forall_mem]
      intro u hu
      exact sets_one k2 kn k3 u (Array.mem_toList_iff.mpr hu)
     have hlk:csK.toList.length=61:=by simpa using k2
     have hil:(Tryz.prog.info? 92).map (·.size)=some csK.toList.length:=by rw [hsz,hlk]
     have his:(Tryz.prog.info? 92).map (·.size)=some csK.size:=by rw [hsz,k2]
     have hth2:wr.there w.heap.size 0 csK.size:=by rw [k2];exact hth
     have hFIN:Post ts ns w (.returned (.agg csK)) (wr.setCells w.heap.size 0 csK.toList):=by
      refine ⟨csK,kn,rfl,k2,k3,⟨HF.out.lt,HF.out.sound,HF.out.beg,fun k hk _=>HF.out.next k hk (by simp)⟩,below_setCells HS.out.below (Nat.le_refl _) HS.out.below.size⟩
     have hout:=heap_setCells csK.toList 0 wr csR q1 (by rw [hlk,q2];exact Nat.le_refl _)
     rw [setN_all csR csK (by rw [q2,k2])] at hout
     have HFIN:=Lib.hid hFIN
     have HOUT:=Lib.hid hout
     clear hFIN hout hsz q3 k3 HF HS hyn
     go_wp2_with (first
      | refine wpList_load_mid rfl 92 _ rfl (w.heap.size+1) 0 rfl csK.toList _ hrg hu rfl hil ?_
      | refine wpList_store_mid rfl 92 _ _ rfl w.heap.size 0 csK rfl rfl hth2 his hone ?_)
     refine bodyPost_ret (v:=.agg csK) ?_ rfl HFIN.out
     exact results_one_row rfl Tryz.prog _ _ w.heap.size csK rfl (run_loadVar_row _ _ _ _ csK (0,0) _ HOUT.out hu rfl his)
    ·have hyne:((y:Int) != 0)=true:=by simp;omega
     have HTr:=Lib.hid (tab_below HTAB.out hg HS.out.below)
     have hlow:=lowest_any y hy hy0 wr HTr.out
     have hwo:=without_any y hy hy0 wr
     obtain ⟨⟨ha64,hay⟩,hsb1,hsb2⟩:=step_bits hy0 hy
     have hy1lt:y&&&(y-1)<18446744073709551616:=Nat.lt_of_le_of_lt Nat.and_le_left hy
     have hy1y:=and_pred_lt y hy0
     generalize Lib.ctz 64 y=a at *
     have han:a<ns.length:=hyn.out a ha64 hay
     have hwo2:Hid (∀ k,k<64→(y&&&(y-1)).testBit k=true→k<ns.length):=fun k hk hb=>hyn.out k hk (hsb2 k hb)
     obtain ⟨d,hd⟩:∃ d,ns[a]?=some d:=⟨ns[a],List.getElem?_eq_getElem han⟩
     have hfl:=HW.out.keep (b:=wr) HS.out.below
     have ha61:a<61:=by omega
     have hpass:=setBehind_miss ts ns C F hi A c ah bk a (kn a) d wr hfl hd (effD_ok HA.out.1 (HA.out.2 a d hd)) (HF.out.lt a)
     have ca:=HS.out.kn.cell ha61
     have ai0:(0:Int)≤(a:Int):=by omega
     have ai1:(a:Int)<61:=by omega
     have hsbit:=fun b (hb:b<64)=>hfl.sets.ah a b (by omega) hb
     have hslt:=hfl.sets.ahLt a
     obtain ⟨cs,r1,r2,r3⟩:=hfl.row
     have hca:∀ W:World,Below wr.heap.size wr W→W.cell? ⟨F,246+2+a,none⟩=some (.int .u64 (ah a:Int)):=fun W hW=>(hW.cell (by have:=HS.out.below.size;simp;omega)).trans ((cB r1 _).trans (r3.1.2.2 a ha61))
     have HSB1:=Lib.hid hsb1
     have HSB2:=Lib.hid hsb2
     have HBIT:=Lib.hid hsbit
     have HCA:=Lib.hid hca
     have HDA:=Lib.hid hd
     clear hd hfl r1 r2 r3 hsb1 hsb2 hsbit hca hay
     go_wp2_with fail
     refine hlow.mono ?_
     rintro E w3 ⟨rfl,hw3⟩
     subst hw3
     clear hlow
     go_wp2_with fail
     refine hwo.mono ?_
     rintro E w3 ⟨rfl,hw3⟩
     subst hw3
     clear hwo
     go_wp2_with fail
     refine hpass.mono ?_
     rintro E w4 ⟨z,rfl,hz64,hzi,hb4⟩
     have HM4:=Lib.hid (HS.out.keep hb4)
     have HAT:=Lib.hid (HF.out.take han hz64 hzi HSB1.out)
     have hca4:=HCA.out w4 hb4
     have hls:=setList_any (ah a) hslt w4 (tab_below HTAB.out hg HM4.out.below) (by have:=HM4.out.below.size;omega)
     clear hpass hzi hb4 ca
     go_wp2_with fail
     refine hls.mono ?_
     rintro E w5 ⟨v,rfl,hrow,hb5⟩
     have HM5:=Lib.hid (HM4.out.keep hb5)
     have hK4:=HM4.out.kn.lt
     obtain ⟨Ar,cr,hvs⟩:=hrow.slice
     subst hvs
     have HROW:=Lib.hid hrow
     have hlen64:=intsOf_length (ah a)
     clear hls hrow hb5 hca4
     have hgB:Hid (w4.heap.size≤w4.heap.size):=Nat.le_refl _
     have HLI:=Lib.hid (intsOf_bits (ah a))
     obtain ⟨bl,hbl⟩:∃ bl,bl=bitsOf (ah a):=⟨_,rfl⟩
     have HBL:=Lib.hid hbl
     have hll:(intsOf (ah a)).length=bl.length:=by rw [hbl];simp [intsOf]
     obtain ⟨y1,hy1⟩:∃ y1,y1=y&&&(y-1):=⟨_,rfl⟩
     have HY1:=Lib.hid hy1
     rw [← hy1] at HAT hwo2 hy1lt hy1y ⊢
     have HROW2:Hid (RowI w5 w4.heap.size (.slice Ar bl.length cr) (intsOf (ah a))):=by
      have:=HROW.out
      rw [hll] at this
      exact this
     rw [hll]
     rw [hll] at hlen64
     have HAT2:=Lib.hid (floAt_less HAT.out (D':=fun m=>∃ i,i<0∧bl[i]?=some m) (fun m hm=>by obtain ⟨i,hi,_⟩:=hm;exact absurd hi (Nat.not_lt_zero _)))
     clear hbl hy1 hll HAT HROW
     go_wp2_with fail
     go_loopw [11,55] (fun wk i wr=>∃ (j y':Nat) (kn':Nat→Nat),wk=.int .u64 y'∧i=.int .i64 j∧j≤bl.length∧y'<18446744073709551616∧Hid (∀ k,k<64→y'.testBit k=true→k<ns.length)∧Hid (FloAt (fun a b=>eN ns a b) 0 (fun (_:Nat)=>True) (fun k v=>usesN ts ns k v 2∧¬ setsN ns k v) (fun k v=>setsN ns k v) ns.length true kn' (fun k=>y'.testBit k=true) a (kn a) z (fun m=>∃ i,i<j∧bl[i]?=some m))∧Hid (FloM w kn' wr)∧Hid (RowI wr w4.heap.size (.slice Ar bl.length cr) (intsOf (ah a)))∧Hid (sumTo (fun i=>wt true (kn' i)) ns.length<sumTo (fun i=>wt true (kn i)) ns.length∨(sumTo (fun i=>wt true (kn' i)) ns.length=sumTo (fun i=>wt true (kn i)) ns.length∧y'=y1))) (fun _ i _=>bl.length-(intOf i).toNat)
     case atStart=>exact ⟨0,y1,kn,rfl,rfl,Nat.zero_le _,hy1lt,hwo2,HAT2,HM5,HROW2,Lib.hid (.inr ⟨rfl,rfl⟩)⟩
     case round =>
      clear HAT2 HM5 HROW2 hwo2
      obtain ⟨j,y',kn',rfl,rfl,hj,hy',hyn',HAT,HM,HROW,HS0⟩:=hrel
      have haj:=ahead_j
      have hmj:=at_j
      by_cases hjl:j<bl.length
      ·obtain ⟨b,hb⟩:∃ b,bl[j]?=some b:=⟨bl[j],List.getElem?_eq_getElem hjl⟩
       have hbm:b∈bitsOf (ah a):=by rw [← HBL.out];exact List.mem_of_getElem? hb
       have hb64:=(mem_bitsOf _ _).mp hbm
       have hedge:((fun a b=>eN ns a b)) a b:=(mem_nextN HD.out hle a b).mpr ((HBIT.out b hb64.1).mp hb64.2)
       have hbN:b<ns.length:=(nextN_ints HD.out HDA.out).2 b ((mem_nextN HD.out hle a b).mpr ((HBIT.out b hb64.1).mp hb64.2))
       have hb61:b<61:=by omega
       obtain ⟨b0,u,hb0,-,hbb,hx,hc⟩:=(RowI.intsV HROW.out).elem (k:=j) (by rw [HLI.out,← HBL.out];simpa using hjl)
       subst hb0
       have hub:u=(b:Int):=by
        rw [HLI.out,← HBL.out,List.getElem?_map,hb] at hx
        simpa using hx.symm
       subst hub
       have cb:=HM.out.kn.cell hb61
       have bi0:(0:Int)≤(b:Int):=by omega
       have bi1:(b:Int)<61:=by omega
       have ji0:(0:Int)≤(j:Int):=by omega
       have ji1:(j:Int)<(bl.length:Int):=by omega
       have hjoin:=join_any (kn' b) z (HAT.out.lt b) hz64
       have HB:=Lib.hid hb
       have HEDGE:=Lib.hid hedge
       clear hb hbm hx hedge
       have hmf:∀ (fn:Fn) (first cap:Array Value) (w:World),(Instr.makeFunc fn first cap).run Tryz.prog w=.ok (.func fn first cap) w:=fun _ _ _ _=>rfl
       go_wp2_with fail
       go_region_held3 (fun w'=>Below wr.heap.size wr w'∧w'.cell? ⟨w.heap.size+1,b,none⟩=some (.int .u64 (kn' b:Int)))
        (first | exact ⟨(Below.refl wr.heap.size wr).drew,cb⟩ | exact held_1 hbn (And.left ‹Below wr.heap.size wr _∧_›) rfl (HM.out.kn.lt) cb)
        (first | (go_at_call 165;refine (hjoin _).mono ?_;rintro E w' ⟨rfl,hbn⟩))
       obtain ⟨hbl,cb2⟩:=‹Below wr.heap.size wr _∧_›
       have HM2:=Lib.hid (HM.out.keep hbl)
       have HROW2:=Lib.hid (RowI.below HROW.out hbl)
       have cs2:=HM2.out.kn.soft b
       have hjl64:=jn_lt true (HAT.out.lt b) hz64
       obtain ⟨J,hJ⟩:∃ J,J=jn true (kn' b) z:=⟨_,rfl⟩
       rw [← hJ] at hjl64 ⊢
       clear hbl cb hjoin haj hmj hmf
       by_cases hsame:J=kn' b
       ·have hne:((J:Int) != (kn' b:Int))=false:=by rw [hsame];simp
        have HJ:=Lib.hid (hJ.symm.trans hsame)
        clear hJ hsame
        go_wp2_with fail
        refine ⟨⟨j+1,y',kn',rfl,by simp,by omega,hy',hyn',?_,HM2,HROW2,HS0⟩,?_⟩
        ·refine Lib.hid (HAT.out.same HJ.out (fun m hm=>?_))
         obtain ⟨i,hi,him⟩:=hm
         by_cases hij:i=j
         ·subst hij
          rw [HB.out] at him
          exact .inr (Option.some.inj him).symm
         ·exact .inl ⟨i,by omega,him⟩
        ·simp only [intOf]
         omega
       ·have hne:((J:Int) != (kn' b:Int))=true:=by
         rw [bne_iff_ne]
         intro h9
         exact hsame (by omega)
        have HJ:=Lib.hid hJ
        have HNE:=Lib.hid hsame
        have HM3:=Lib.hid (HM2.out.put (i:=b) (v:=J) hb61)
        have HROW3:Hid (RowI (_:World) w4.heap.size (.slice (some b0) bl.length cr) (intsOf (ah a))):=RowI.keep HROW2.out (w':=(World.setCell _ ⟨w.heap.size+1,b,none⟩ (.int .u64 (J:Int)))) fun g hg'=>heap_setCell_other _ _ _ _ (by have:=RowI.lt HROW2.out g hg';simp;omega)
        have hwith:=with_any y' b hy' (by omega)
        clear hJ hsame
        go_wp2_with fail
        refine (hwith _).mono ?_
        rintro E w7 ⟨rfl,hb7⟩
        have HM4':=Lib.hid (HM3.out.keep hb7)
        have HROW4:=Lib.hid (RowI.below HROW3.out hb7)
        clear hwith hb7 HM3 HROW3
        go_wp2_with fail
        have hp2:2 ^ b<2 ^ 64:=Nat.pow_lt_pow_right (by decide) (by omega)
        have hor:y'|||2 ^ b<2 ^ 64:=Nat.or_lt_two_pow (by omega) hp2
        have hWW:∀ k,(y'|||2 ^ b).testBit k=true↔y'.testBit k=true∨k=b:=by
         intro k
         rw [Nat.testBit_or,Bool.or_eq_true,Nat.testBit_two_pow]
         simp only [decide_eq_true_eq]
         exact or_congr Iff.rfl eq_comm
        refine ⟨⟨j+1,y'|||2 ^ b,setAt kn' b J,rfl,by simp,by omega,by omega,?_,?_,HM4',HROW4,?_⟩,?_⟩
        ·refine Lib.hid (fun k hk hkb=>?_)
         rcases (hWW k).mp hkb with h9 | h9
         ·exact hyn'.out k hk h9
         ·rw [h9];exact hbN
        ·have h9:=HAT.out.more HEDGE.out (W':=fun k=>(y'|||2 ^ b).testBit k=true) (D':=fun m=>∃ i,i<j+1∧bl[i]?=some m) hWW (fun m hm=>by
          obtain ⟨i,hi,him⟩:=hm
          by_cases hij:i=j
          ·subst hij
           rw [HB.out] at him
           exact .inr (Option.some.inj him).symm
          ·exact .inl ⟨i,by omega,him⟩)
         rw [← HJ.out] at h9
         exact Lib.hid h9
        ·have h9:sumTo (fun i=>wt true (setAt kn' b J i)) ns.length<sumTo (fun i=>wt true (kn' i)) ns.length:=by
          refine sumTo_less hbN ?_ (fun i hi=>?_)
          ·unfold setAt
           rw [if_pos rfl,HJ.out]
           exact wt_jn true (HAT.out.lt b) hz64 (by rw [← HJ.out];exact HNE.out)
          ·unfold setAt
           rw [if_neg hi]
         refine Lib.hid (.inl ?_)
         rcases HS0.out with h8 | ⟨h8,_⟩
         ·omega
         ·omega
        ·simp only [intOf]
         omega
      ·have hjl2:j=bl.length:=by omega
       clear haj hmj
       go_wp2_with fail
       have e1:sumTo (fun i=>wt true (knW wr (w.heap.size+1) i)) ns.length=sumTo (fun i=>wt true (kn' i)) ns.length:=sumTo_congr fun i hi=>by rw [HM.out.kn.read (by omega)]
       have e0:=sumTo_congr (f:=fun i=>wt true (knW _ (w.heap.size+1) i)) (g:=fun i=>wt true (kn i)) (n:=ns.length) fun i hi=>by rw [HS.out.kn.read (by omega)]
       refine ⟨⟨y',kn',rfl,hy',hyn',Lib.hid (HAT.out.done fun m hm=>?_),HM⟩,?_⟩
       ·have hmb:m∈bl:=by
         rw [HBL.out,mem_bitsOf]
         have h9:=(mem_nextN HD.out hle a m).mp hm
         have h8:=h9.lt HD.out hle
         exact ⟨by omega,(HBIT.out m (by omega)).mpr h9⟩
        obtain ⟨i,hi,him⟩:=List.mem_iff_getElem.mp hmb
        exact ⟨i,by omega,by rw [List.getElem?_eq_getElem hi,him]⟩
       ·rw [e1,e0]
        simp only [intOf,Int.toNat_natCast]
        rcases HS0.out with h8 | ⟨h8,h9⟩
        ·omega
        ·omega
end Go.Proofs.YtedkkphogeealaaGreatDoor.flowAll
