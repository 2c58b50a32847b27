/- The union of sets for each variable: what is least. -/
import Derived.Test.YtedkkphogeealaaGreatDoorPPerG
import Derived.Test.YtedkkphogeealaaGreatDoorPMem
import Derived.Deep.RegionHeld3
namespace Go.Proofs.YtedkkphogeealaaGreatDoor.flowLent
open Go.RowKit Go.Deep
set_option linter.unusedVariables false
set_option maxHeartbeats 1000000
theorem ahead_el (v:Value) (w:World):(nilAhead 368 155 v "loop.example/borrowcheck/impl.least").run Tryz.prog w=.ok (some false) w:=by kernel_rfl
theorem at_el (v:Value) (w:World):(method 368 155 v "loop.example/borrowcheck/impl.least").run Tryz.prog w=.ok (160,v) w:=by kernel_rfl
theorem ahead_ej (v:Value) (w:World):(nilAhead 368 155 v "loop.example/borrowcheck/impl.join").run Tryz.prog w=.ok (some false) w:=by kernel_rfl
theorem at_ej (v:Value) (w:World):(method 368 155 v "loop.example/borrowcheck/impl.join").run Tryz.prog w=.ok (159,v) w:=by kernel_rfl
theorem eachLeast_any (w:World):Calls Tryz.prog 160 #[.agg #[]] w fun E w'=>E=.returned (.agg #[.int .u64 0,.int .u64 0,.int .u64 0,.int .u64 0,.int .u64 0,.int .u64 0])∧Below w.heap.size w w':=by
 have hb0:=(Below.refl w.heap.size w).alloc (Nat.le_refl _) (.cells #[] 155)
 go_enter Tryz.func160,Tryz.ntmps160
 go_wp2_with fail
 have hz0:(w.alloc (.cells #[] 155)).heap.size=w.heap.size+1:=by simp
 have hr:=heap_alloc_new (w.alloc (.cells #[] 155)) (.cells #[.int .u64 0,.int .u64 0,.int .u64 0,.int .u64 0,.int .u64 0,.int .u64 0] 91)
 rw [hz0] at hr
 refine bodyPost_ret (v:=.agg #[.int .u64 0,.int .u64 0,.int .u64 0,.int .u64 0,.int .u64 0,.int .u64 0]) ?_ rfl ⟨rfl,hb0.alloc (by rw [hz0];omega) _⟩
 exact results_cell rfl Tryz.prog _ _ (w.heap.size+1) _ rfl (load_per hr rfl)
end Go.Proofs.YtedkkphogeealaaGreatDoor.flowLent
namespace Go.Proofs.YtedkkphogeealaaGreatDoor.flowLent
open Go.RowKit Go.Deep
set_option linter.unusedVariables false
set_option maxRecDepth 100000
set_option maxHeartbeats 4000000
theorem four_per (w:World) (o:Obj) (x y z:Nat→Nat):let W:=(((w.alloc o).alloc (.cells (perC x).toArray 91)).alloc (.cells (perC y).toArray 91)).alloc (.cells (perC z).toArray 91)
  Below w.heap.size w W∧W.heap.size=w.heap.size+4∧PerAt W (w.heap.size+1) x∧PerAt W (w.heap.size+2) y∧PerAt W (w.heap.size+3) z:=by
 intro W
 have b1:=(Below.refl w.heap.size w).alloc (Nat.le_refl _) o
 have b2:=b1.alloc (by simp) (.cells (perC x).toArray 91)
 have b3:=b2.alloc (by simp;omega) (.cells (perC y).toArray 91)
 have b4:=b3.alloc (by simp;omega) (.cells (perC z).toArray 91)
 have p1:=PerAt.new (w.alloc o) x
 have p2:=PerAt.new ((w.alloc o).alloc (.cells (perC x).toArray 91)) y
 have p3:=PerAt.new (((w.alloc o).alloc (.cells (perC x).toArray 91)).alloc (.cells (perC y).toArray 91)) z
 have k1:=(p1.keep ((Below.refl _ _).alloc (Nat.le_refl _) (.cells (perC y).toArray 91))).keep ((Below.refl _ _).alloc (Nat.le_refl _) (.cells (perC z).toArray 91))
 have k2:=p2.keep ((Below.refl _ _).alloc (Nat.le_refl _) (.cells (perC z).toArray 91))
 refine ⟨b4,by simp [W],?_,?_,?_⟩
 ·simpa using k1
 ·simpa using k2
 ·simpa using p3
theorem eachJoin_any (x y:Nat→Nat) (hx:∀ v,x v<2305843009213693952) (hy:∀ v,y v<2305843009213693952) (w:World) :
  Calls Tryz.prog 159 #[.agg #[],.agg (perC x).toArray,.agg (perC y).toArray] w fun E w'=>E=.returned (.agg (perC (fun v=>x v|||y v)).toArray)∧Below w.heap.size w w':=by
 have h4:=four_per w (.cells #[] 155) x y (fun _=>0)
 go_enter Tryz.func159,Tryz.ntmps159
 go_wp2_with fail
 obtain ⟨W0,hW0⟩:∃ W0,W0=(((w.alloc (.cells #[] 155)).alloc (.cells (perC x).toArray 91)).alloc (.cells (perC y).toArray 91)).alloc (.cells #[.int .u64 0,.int .u64 0,.int .u64 0,.int .u64 0,.int .u64 0,.int .u64 0] 91):=⟨_,rfl⟩
 have h5:Below w.heap.size w W0∧W0.heap.size=w.heap.size+4∧PerAt W0 (w.heap.size+1) x∧PerAt W0 (w.heap.size+2) y∧PerAt W0 (w.heap.size+3) (fun _=>0):=by rw [hW0];exact h4
 rw [← hW0]
 obtain ⟨hb,hz,ha,hb2,hc⟩:=h5
 have HA:Hid (PerAt W0 (w.heap.size+1) (fun v=>if v<0 then x v|||y v else x v)):=ha.congr fun v _=>by rw [if_neg (by omega)]
 have HB:=Lib.hid hb2
 have HC:=Lib.hid hc
 clear h4 hW0 ha hb2 hc hz
 go_loopw [8] (fun i wr=>∃ k:Nat,i=.int .i64 k∧k≤6∧Hid (PerAt wr (w.heap.size+1) (fun v=>if v<k then x v|||y v else x v))∧Hid (PerAt wr (w.heap.size+2) y)∧Hid (PerAt wr (w.heap.size+3) (fun _=>0))∧Below w.heap.size w wr) (fun i _=>6-(intOf i).toNat)
 case atStart=>exact ⟨0,rfl,by omega,HA,HB,HC,hb⟩
 case round =>
  clear HA HB HC hb
  obtain ⟨k,rfl,hk,HA,HB,HC,hb⟩:=hrel
  by_cases hlt:k<6
  ·have ca:=HA.out.cell hlt
   rw [if_neg (Nat.lt_irrefl k)] at ca
   have cb:=HB.out.cell hlt
   have hor:=bits_or_u64_nat (x k) (y k) (by have:=hx k;omega) (by have:=hy k;omega)
   have ki0:(0:Int)≤(k:Int):=by omega
   have ki1:(k:Int)<6:=by omega
   go_wp2_with fail
   go_still_tail 8,(by kernel_rfl)
   change wpList _ _ _ _ _ wr.drew
   have HA2:Hid (PerAt wr.drew (w.heap.size+1) (fun v=>if v<k then x v|||y v else x v)):=HA.out.same rfl
   have HB2:Hid (PerAt wr.drew (w.heap.size+2) y):=HB.out.same rfl
   have HC2:Hid (PerAt wr.drew (w.heap.size+3) (fun _=>0)):=HC.out.same rfl
   have hbd:=hb.drew
   clear ca cb HA HB HC hb
   generalize wr.drew=w2 at *
   have ca:=HA2.out.cell hlt
   have sa:=HA2.out.soft k
   have hp:Hid (PerAt (w2.setCell ⟨w.heap.size+1,k,none⟩ (.int .u64 ((x k|||y k:Nat):Int))) (w.heap.size+1) (fun v=>if v<k+1 then x v|||y v else x v)):=(HA2.out.put (v:=x k|||y k) hlt).congr fun v _=>by
    show setAt (fun v=>if v<k then x v|||y v else x v) k (x k|||y k) v=if v<k+1 then x v|||y v else x v
    unfold setAt
    by_cases hvk:v=k
    ·subst hvk;rw [if_pos rfl,if_pos (by omega)]
    ·rw [if_neg hvk]
     show (if v<k then x v|||y v else x v)=_
     by_cases h9:v<k
     ·rw [if_pos h9,if_pos (by omega)]
     ·rw [if_neg h9,if_neg (by omega)]
   have hp2:Hid (PerAt (w2.setCell ⟨w.heap.size+1,k,none⟩ (.int .u64 ((x k|||y k:Nat):Int))) (w.heap.size+2) y):=HB2.out.same (heap_setCell_other _ _ _ _ (by simp))
   have hp3:Hid (PerAt (w2.setCell ⟨w.heap.size+1,k,none⟩ (.int .u64 ((x k|||y k:Nat):Int))) (w.heap.size+3) (fun _=>0)):=HC2.out.same (heap_setCell_other _ _ _ _ (by simp))
   have hb3:Below w.heap.size w (w2.setCell ⟨w.heap.size+1,k,none⟩ (.int .u64 ((x k|||y k:Nat):Int))):=below_set hbd (by omega)
   clear HA2 HB2 HC2 hbd
   go_wp2_with fail
   refine ⟨⟨k+1,by simp,by omega,hp,hp2,hp3,hb3⟩,?_⟩
   simp only [intOf]
   omega
  ·have hk6:k=6:=by omega
   have kd:decide ((k:Int)<6)=false:=decide_eq_false (by omega)
   rw [hk6] at HA
   have hr:=HA.out.range
   have ht:=HC.out.there
   have hcl:=HC.out.lt
   have hall:=HC.out.all (fun v=>if v<6 then x v|||y v else x v)
   have hbs:=below_setCells (o:=0) (vs:=perC (fun v=>if v<6 then x v|||y v else x v)) (b:=w.heap.size+3) hb (by omega) (by omega)
   obtain ⟨cs,r1,r2,r3⟩:=hall
   have HR1:=Lib.hid r1
   have HR2:=Lib.hid r2
   have HR3:=Lib.hid r3
   have HRR:=Lib.hid hr
   have HTT:=Lib.hid ht
   have HBS:=Lib.hid hbs
   have hiV:(Tryz.prog.info? 91).map (·.size)=some 6:=by kernel_rfl
   have HIV:=Lib.hid hiV
   clear hr ht r1 r2 r3 hbs hiV HA HB HC hk6 hlt hk hb
   go_wp2_with (first
    | refine wpList_load_mid rfl 91 _ rfl (w.heap.size+1) 0 rfl (perC (fun v=>if v<6 then x v|||y v else x v)) _ HRR.out Tryz.underlying91 rfl HIV.out ?_
    | refine wpList_store_mid rfl 91 _ _ rfl (w.heap.size+3) 0 (perC (fun v=>if v<6 then x v|||y v else x v)).toArray rfl rfl HTT.out HIV.out (perC_one _) ?_)
   refine bodyPost_ret (v:=.agg (perC (fun v=>x v|||y v)).toArray) ?_ rfl ⟨rfl,HBS.out⟩
   have e:(perC (fun v=>x v|||y v)).toArray=cs:=by
    apply Array.ext_getElem?
    intro i
    by_cases hi:i<6
    ·rw [HR3.out i hi,if_pos hi]
     simpa using perC_get (fun v=>x v|||y v) hi
    ·have e1:cs[i]?=none:=Array.getElem?_eq_none (by rw [HR2.out];omega)
     have e2:(perC (fun v=>x v|||y v)).toArray[i]?=none:=Array.getElem?_eq_none (by show 6≤i;omega)
     rw [e1,e2]
   rw [e]
   exact results_cell rfl Tryz.prog _ _ (w.heap.size+3) _ rfl (load_per HR1.out HR2.out)
end Go.Proofs.YtedkkphogeealaaGreatDoor.flowLent
