/- What a point answers to the questions about cells,setters and numbers,by the program. -/
import Derived.Test.YtofcdecpipgmjaaGreatDoorRTrA
import Derived.Test.YtofcdecpipgmjaaGreatDoorRMem
import Derived.StillTailTactics
import Derived.Deep.DeepCutAuto
import Derived.Test.YtofcdecpipgmjaaGreatDoorRLjG
import Derived.Test.YtofcdecpipgmjaaGreatDoorRPerG
import Derived.Test.YtofcdecpipgmjaaGreatDoorRFloG
import Derived.Test.YtofcdecpipgmjaaGreatDoorRBits
import Derived.Test.YtofcdecpipgmjaaGreatDoorRDwA
import Derived.Deep.RegionHeld3
import Derived.Test.YtofcdecpipgmjaaGreatDoorRGrX
import Derived.Test.YtofcdecpipgmjaaGreatDoorRTrP
import Derived.Test.YtofcdecpipgmjaaGreatDoorRBase
namespace Go.Proofs.YtofcdecpipgmjaaGreatDoor.tr
open Go.RowKit Go.Deep
set_option linter.unusedVariables false
def qT (q:Nat):TypeId:=if q=0 then 60 else if q=1 then 103 else 111
def qF (q:Nat):FuncId:=if q=0 then 149 else if q=1 then 152 else 153
theorem ahead_q (q:Nat) (v:Value) (w:World):(nilAhead 348 (qT q) v "loop.example/borrowcheck/impl.answer").run Tryz.prog w=.ok (some false) w:=by
 unfold qT
 split
 ·kernel_rfl
 ·split
  ·kernel_rfl
  ·kernel_rfl
theorem at_q (q:Nat) (v:Value) (w:World):(method 348 (qT q) v "loop.example/borrowcheck/impl.answer").run Tryz.prog w=.ok (qF q,v) w:=by
 unfold qT qF
 split
 ·kernel_rfl
 ·split
  ·kernel_rfl
  ·kernel_rfl
theorem boxesC (w:World) (cs:List Value) (x:Nat→Nat) (W:World) (hW:((w.alloc (.cells #[] 60)).alloc (.cells cs.toArray 80)).alloc (.cells (perC x).toArray 57)=W) :
  Below w.heap.size w W∧W.heap.size=w.heap.size+3∧W.heap[w.heap.size+1]?=some (.cells cs.toArray 80 (0,0))∧PerAt W (w.heap.size+1+1) x:=by
 subst hW
 have b1:=(Below.refl w.heap.size w).alloc (Nat.le_refl _) (.cells #[] 60)
 have b2:=b1.alloc (by simp) (.cells cs.toArray 80)
 have b3:=b2.alloc (by simp;omega) (.cells (perC x).toArray 57)
 have n1:=heap_alloc_new (w.alloc (.cells #[] 60)) (.cells cs.toArray 80)
 have n2:=PerAt.new ((w.alloc (.cells #[] 60)).alloc (.cells cs.toArray 80)) x
 have k1:=(((Below.refl _ _).alloc (Nat.le_refl _) (.cells (perC x).toArray 57):Below ((w.alloc (.cells #[] 60)).alloc (.cells cs.toArray 80)).heap.size _ _).block _ (heap_lt n1)).trans n1
 refine ⟨b3,by simp,?_,?_⟩
 ·rw [show (w.alloc (.cells #[] 60)).heap.size=w.heap.size+1 from by simp] at k1
  exact k1
 ·rw [show ((w.alloc (.cells #[] 60)).alloc (.cells cs.toArray 80)).heap.size=w.heap.size+1+1 from by simp] at n2
  exact n2
theorem boxesS (w:World) (cs:List Value) (x:Nat→Nat) (W:World) (hW:((w.alloc (.cells #[] 103)).alloc (.cells cs.toArray 80)).alloc (.cells (perC x).toArray 57)=W) :
  Below w.heap.size w W∧W.heap.size=w.heap.size+3∧W.heap[w.heap.size+1]?=some (.cells cs.toArray 80 (0,0))∧PerAt W (w.heap.size+1+1) x:=by
 subst hW
 have b1:=(Below.refl w.heap.size w).alloc (Nat.le_refl _) (.cells #[] 103)
 have b2:=b1.alloc (by simp) (.cells cs.toArray 80)
 have b3:=b2.alloc (by simp;omega) (.cells (perC x).toArray 57)
 have n1:=heap_alloc_new (w.alloc (.cells #[] 103)) (.cells cs.toArray 80)
 have n2:=PerAt.new ((w.alloc (.cells #[] 103)).alloc (.cells cs.toArray 80)) x
 have k1:=(((Below.refl _ _).alloc (Nat.le_refl _) (.cells (perC x).toArray 57):Below ((w.alloc (.cells #[] 103)).alloc (.cells cs.toArray 80)).heap.size _ _).block _ (heap_lt n1)).trans n1
 refine ⟨b3,by simp,?_,?_⟩
 ·rw [show (w.alloc (.cells #[] 103)).heap.size=w.heap.size+1 from by simp] at k1
  exact k1
 ·rw [show ((w.alloc (.cells #[] 103)).alloc (.cells cs.toArray 80)).heap.size=w.heap.size+1+1 from by simp] at n2
  exact n2
theorem boxesN (w:World) (cs:List Value) (x:Nat→Nat) (W:World) (hW:((w.alloc (.cells #[] 111)).alloc (.cells cs.toArray 80)).alloc (.cells (perC x).toArray 57)=W) :
  Below w.heap.size w W∧W.heap.size=w.heap.size+3∧W.heap[w.heap.size+1]?=some (.cells cs.toArray 80 (0,0))∧PerAt W (w.heap.size+1+1) x:=by
 subst hW
 have b1:=(Below.refl w.heap.size w).alloc (Nat.le_refl _) (.cells #[] 111)
 have b2:=b1.alloc (by simp) (.cells cs.toArray 80)
 have b3:=b2.alloc (by simp;omega) (.cells (perC x).toArray 57)
 have n1:=heap_alloc_new (w.alloc (.cells #[] 111)) (.cells cs.toArray 80)
 have n2:=PerAt.new ((w.alloc (.cells #[] 111)).alloc (.cells cs.toArray 80)) x
 have k1:=(((Below.refl _ _).alloc (Nat.le_refl _) (.cells (perC x).toArray 57):Below ((w.alloc (.cells #[] 111)).alloc (.cells cs.toArray 80)).heap.size _ _).block _ (heap_lt n1)).trans n1
 refine ⟨b3,by simp,?_,?_⟩
 ·rw [show (w.alloc (.cells #[] 111)).heap.size=w.heap.size+1 from by simp] at k1
  exact k1
 ·rw [show ((w.alloc (.cells #[] 111)).alloc (.cells cs.toArray 80)).heap.size=w.heap.size+1+1 from by simp] at n2
  exact n2
set_option maxRecDepth 100000 in
set_option maxHeartbeats 2000000 in
theorem cells_any (a:Nat) (d:Nd) (x:Nat→Nat) (p0 p1 nx:Int) (w:World) (ha:a<61) (hy:0≤d.y∧d.y≤5) (hx:∀ v,x v<2305843009213693952) :
  Calls Tryz.prog 149 #[.agg #[],.int .i64 a,.agg ([.int .i64 d.op,.int .i64 d.x,.int .i64 d.y,.int .i64 d.n,.int .i64 p0,.int .i64 p1,.int .i64 nx]:List Value).toArray,.agg (perC x).toArray] w fun E w'=>E=.returned (.int .u64 (valZ 0 d a x:Nat))∧Below w.heap.size w w':=by
 obtain ⟨Y,hY⟩:∃ Y:Nat,d.y=(Y:Int):=⟨d.y.toNat,by omega⟩
 obtain ⟨op,hop⟩:∃ op,op=d.op:=⟨_,rfl⟩
 have HOP:=Lib.hid hop
 have HY:=Lib.hid hY
 have hY6:Y<6:=by omega
 clear hop hY
 go_enter Tryz.func149,Tryz.ntmps149
 go_upto_region 1 with fail
 generalize hW:((w.alloc (.cells #[] 60)).alloc _).alloc (.cells (perC x).toArray 57)=W
 have h3:=boxesC w ([.int .i64 d.op,.int .i64 d.x,.int .i64 d.y,.int .i64 d.n,.int .i64 p0,.int .i64 p1,.int .i64 nx]:List Value) x W hW
 clear hW
 obtain ⟨hb,hz,hn,hp⟩:=h3
 have c0:W.cell? ⟨w.heap.size+1,0,none⟩=some (.int .i64 op):=by rw [HOP.out];exact (cB hn 0).trans rfl
 have c2:W.cell? ⟨w.heap.size+1,2,none⟩=some (.int .i64 (Y:Int)):=by rw [← HY.out];exact (cB hn 2).trans rfl
 have c3:W.cell? ⟨w.heap.size+1,3,none⟩=some (.int .i64 d.n):=(cB hn 3).trans rfl
 have cy:=hp.cell hY6
 have HB:=Lib.hid hb
 have HZ:=Lib.hid hz
 have yi0:(0:Int)≤(Y:Int):=by omega
 have yi1:(Y:Int)<6:=by omega
 have hpow:2 ^ a<18446744073709551616:=Nat.lt_trans (Nat.pow_lt_pow_right (by decide) ha:2 ^ a<2 ^ 61) (by decide)
 have hv:∀ z:Nat,z=valZ 0 d a x→Ending.returned (Value.int .u64 (z:Int))=.returned (.int .u64 (valZ 0 d a x:Nat)):=fun z h=>by rw [h]
 have HV:=Lib.hid hv
 clear hn hp hb hz hv hpow
 by_cases h2:op=2
 ·subst h2
  have hw:=with_any 0 a (by decide) (by omega) W
  go_wp2_with fail
  refine hw.mono ?_
  rintro E w2 ⟨rfl,hb2⟩
  have HB2:=Lib.hid (HB.out.trans (hb2.mono (by have:=HZ.out;omega)))
  clear hw hb2
  go_wp2_with fail
  go_ret
  exact ⟨HV.out _ (by unfold valZ;rw [if_pos rfl,if_pos HOP.out.symm]),HB2.out⟩
 ·have e2:(op==2)=false:=by simp [h2]
  have d2:decide (op=2)=false:=decide_eq_false h2
  have hn2:¬ d.op=2:=fun e=>h2 (HOP.out.trans e)
  have HN2:=Lib.hid hn2
  clear hn2
  by_cases h345:op=3∨op=4∨op=5
  ·have H345:Hid (d.op=3∨d.op=4∨d.op=5):=by rw [← HOP.out];exact h345
   obtain ⟨z,hz⟩:∃ z,z=x Y:=⟨_,rfl⟩
   rw [← hz] at cy
   have HZX:=Lib.hid hz
   clear hz
   rcases h345 with rfl | rfl | rfl
   all_goals
    go_wp2_with fail
    go_ret
    exact ⟨HV.out _ (by unfold valZ;rw [if_pos rfl,if_neg HN2.out,if_pos H345.out,HZX.out,HY.out,Int.toNat_natCast]),by first | exact HB.out | exact HB.out.drew⟩
  ·have H345:Hid (¬ (d.op=3∨d.op=4∨d.op=5)):=by rw [← HOP.out];exact h345
   have e3:(op==3)=false:=by simp;omega
   have e4:(op==4)=false:=by simp;omega
   have e5:(op==5)=false:=by simp;omega
   have d3:decide (op=3)=false:=decide_eq_false (by omega)
   have d4:decide (op=4)=false:=decide_eq_false (by omega)
   have d5:decide (op=5)=false:=decide_eq_false (by omega)
   go_wp2_with fail
   go_ret
   exact ⟨HV.out _ (by unfold valZ;rw [if_pos rfl,if_neg HN2.out,if_neg H345.out]),by first | exact HB.out | exact HB.out.drew⟩
set_option maxRecDepth 100000 in
set_option maxHeartbeats 2000000 in
theorem setters_any (a:Nat) (d:Nd) (x:Nat→Nat) (p0 p1 nx:Int) (w:World) (ha:a<61) (hy:0≤d.y∧d.y≤5) (hx:∀ v,x v<2305843009213693952) :
  Calls Tryz.prog 152 #[.agg #[],.int .i64 a,.agg ([.int .i64 d.op,.int .i64 d.x,.int .i64 d.y,.int .i64 d.n,.int .i64 p0,.int .i64 p1,.int .i64 nx]:List Value).toArray,.agg (perC x).toArray] w fun E w'=>E=.returned (.int .u64 (valZ 1 d a x:Nat))∧Below w.heap.size w w':=by
 obtain ⟨Y,hY⟩:∃ Y:Nat,d.y=(Y:Int):=⟨d.y.toNat,by omega⟩
 obtain ⟨op,hop⟩:∃ op,op=d.op:=⟨_,rfl⟩
 have HOP:=Lib.hid hop
 have HY:=Lib.hid hY
 have hY6:Y<6:=by omega
 clear hop hY
 go_enter Tryz.func152,Tryz.ntmps152
 go_upto_region 1 with fail
 generalize hW:((w.alloc (.cells #[] 103)).alloc _).alloc (.cells (perC x).toArray 57)=W
 have h3:=boxesS w ([.int .i64 d.op,.int .i64 d.x,.int .i64 d.y,.int .i64 d.n,.int .i64 p0,.int .i64 p1,.int .i64 nx]:List Value) x W hW
 clear hW
 obtain ⟨hb,hz,hn,hp⟩:=h3
 have c0:W.cell? ⟨w.heap.size+1,0,none⟩=some (.int .i64 op):=by rw [HOP.out];exact (cB hn 0).trans rfl
 have c2:W.cell? ⟨w.heap.size+1,2,none⟩=some (.int .i64 (Y:Int)):=by rw [← HY.out];exact (cB hn 2).trans rfl
 have c3:W.cell? ⟨w.heap.size+1,3,none⟩=some (.int .i64 d.n):=(cB hn 3).trans rfl
 have cy:=hp.cell hY6
 have HB:=Lib.hid hb
 have HZ:=Lib.hid hz
 have yi0:(0:Int)≤(Y:Int):=by omega
 have yi1:(Y:Int)<6:=by omega
 have hpow:2 ^ a<18446744073709551616:=Nat.lt_trans (Nat.pow_lt_pow_right (by decide) ha:2 ^ a<2 ^ 61) (by decide)
 have hv:∀ z:Nat,z=valZ 1 d a x→Ending.returned (Value.int .u64 (z:Int))=.returned (.int .u64 (valZ 1 d a x:Nat)):=fun z h=>by rw [h]
 have HV:=Lib.hid hv
 clear hn hp hb hz hv hpow
 have hw:=with_any 0 a (by decide) (by omega) W
 go_wp2_with fail
 refine hw.mono ?_
 rintro E w2 ⟨rfl,hb2⟩
 have HB2:=Lib.hid (HB.out.trans (hb2.mono (by have:=HZ.out;omega)))
 clear hw hb2
 go_wp2_with fail
 go_ret
 exact ⟨HV.out _ (by unfold valZ;rw [if_neg (by decide),if_pos rfl]),HB2.out⟩
set_option maxRecDepth 100000 in
set_option maxHeartbeats 2000000 in
theorem numbers_any (a:Nat) (d:Nd) (x:Nat→Nat) (p0 p1 nx:Int) (w:World) (ha:a<61) (hy:0≤d.y∧d.y≤5) (hn:d.op=1→0≤d.n∧d.n≤9) (hx:∀ v,x v<2305843009213693952) :
  Calls Tryz.prog 153 #[.agg #[],.int .i64 a,.agg ([.int .i64 d.op,.int .i64 d.x,.int .i64 d.y,.int .i64 d.n,.int .i64 p0,.int .i64 p1,.int .i64 nx]:List Value).toArray,.agg (perC x).toArray] w fun E w'=>E=.returned (.int .u64 (valZ 2 d a x:Nat))∧Below w.heap.size w w':=by
 obtain ⟨Y,hY⟩:∃ Y:Nat,d.y=(Y:Int):=⟨d.y.toNat,by omega⟩
 obtain ⟨op,hop⟩:∃ op,op=d.op:=⟨_,rfl⟩
 have HOP:=Lib.hid hop
 have HY:=Lib.hid hY
 have hY6:Y<6:=by omega
 clear hop hY
 go_enter Tryz.func153,Tryz.ntmps153
 go_upto_region 1 with fail
 generalize hW:((w.alloc (.cells #[] 111)).alloc _).alloc (.cells (perC x).toArray 57)=W
 have h3:=boxesN w ([.int .i64 d.op,.int .i64 d.x,.int .i64 d.y,.int .i64 d.n,.int .i64 p0,.int .i64 p1,.int .i64 nx]:List Value) x W hW
 clear hW
 obtain ⟨hb,hz,hn,hp⟩:=h3
 have c0:W.cell? ⟨w.heap.size+1,0,none⟩=some (.int .i64 op):=by rw [HOP.out];exact (cB hn 0).trans rfl
 have c2:W.cell? ⟨w.heap.size+1,2,none⟩=some (.int .i64 (Y:Int)):=by rw [← HY.out];exact (cB hn 2).trans rfl
 have c3:W.cell? ⟨w.heap.size+1,3,none⟩=some (.int .i64 d.n):=(cB hn 3).trans rfl
 have cy:=hp.cell hY6
 have HB:=Lib.hid hb
 have HZ:=Lib.hid hz
 have yi0:(0:Int)≤(Y:Int):=by omega
 have yi1:(Y:Int)<6:=by omega
 have hpow:2 ^ a<18446744073709551616:=Nat.lt_trans (Nat.pow_lt_pow_right (by decide) ha:2 ^ a<2 ^ 61) (by decide)
 have hv:∀ z:Nat,z=valZ 2 d a x→Ending.returned (Value.int .u64 (z:Int))=.returned (.int .u64 (valZ 2 d a x:Nat)):=fun z h=>by rw [h]
 have HV:=Lib.hid hv
 clear hn hp hb hz hv hpow
 have HNN:=Lib.hid hn
 clear hn
 by_cases h1:op=1
 ·subst h1
  have hn:=HNN.out HOP.out.symm
  obtain ⟨M,hM⟩:∃ M:Nat,d.n=(M:Int):=⟨d.n.toNat,by omega⟩
  have HM:=Lib.hid hM
  rw [hM] at c3 hn
  clear hM
  have hw:=with_any 0 M (by decide) (by omega) W
  go_wp2_with fail
  refine hw.mono ?_
  rintro E w2 ⟨rfl,hb2⟩
  have HB2:=Lib.hid (HB.out.trans (hb2.mono (by have:=HZ.out;omega)))
  clear hw hb2
  go_wp2_with fail
  go_ret
  exact ⟨HV.out _ (by unfold valZ;rw [if_neg (by decide),if_neg (by decide),if_pos HOP.out.symm,HM.out,Int.toNat_natCast]),HB2.out⟩
 ·have e1:(op==1)=false:=by simp [h1]
  have d1:decide (op=1)=false:=decide_eq_false h1
  have HN1:Hid (¬ d.op=1):=fun e=>h1 (HOP.out.trans e)
  by_cases h3:op=3
  ·obtain ⟨z,hz⟩:∃ z,z=x Y:=⟨_,rfl⟩
   rw [← hz] at cy
   have HZX:=Lib.hid hz
   clear hz
   subst h3
   go_wp2_with fail
   go_ret
   exact ⟨HV.out _ (by unfold valZ;rw [if_neg (by decide),if_neg (by decide),if_neg HN1.out,if_pos HOP.out.symm,HZX.out,HY.out,Int.toNat_natCast]),by first | exact HB.out | exact HB.out.drew⟩
  ·have e3:(op==3)=false:=by simp [h3]
   have d3:decide (op=3)=false:=decide_eq_false h3
   have HN3:Hid (¬ d.op=3):=fun e=>h3 (HOP.out.trans e)
   by_cases h6:op=6
   ·subst h6
    go_wp2_with fail
    go_ret
    exact ⟨HV.out _ (by unfold valZ;rw [if_neg (by decide),if_neg (by decide),if_neg HN1.out,if_neg HN3.out,if_pos HOP.out.symm]),by first | exact HB.out | exact HB.out.drew⟩
   ·have e6:(op==6)=false:=by simp [h6]
    have d6:decide (op=6)=false:=decide_eq_false h6
    have HN6:Hid (¬ d.op=6):=fun e=>h6 (HOP.out.trans e)
    go_wp2_with fail
    go_ret
    exact ⟨HV.out _ (by unfold valZ;rw [if_neg (by decide),if_neg (by decide),if_neg HN1.out,if_neg HN3.out,if_neg HN6.out]),by first | exact HB.out | exact HB.out.drew⟩
theorem answer_any (q:Nat) (hq:q<3) (a:Nat) (d:Nd) (x:Nat→Nat) (p0 p1 nx:Int) (w:World) (ha:a<61) (hy:0≤d.y∧d.y≤5) (hn:d.op=1→0≤d.n∧d.n≤9) (hx:∀ v,x v<2305843009213693952) :
  Calls Tryz.prog (qF q) #[.agg #[],.int .i64 a,.agg ([.int .i64 d.op,.int .i64 d.x,.int .i64 d.y,.int .i64 d.n,.int .i64 p0,.int .i64 p1,.int .i64 nx]:List Value).toArray,.agg (perC x).toArray] w fun E w'=>E=.returned (.int .u64 (valZ q d a x:Nat))∧Below w.heap.size w w':=by
 match q,hq with
 | 0,_=>exact cells_any a d x p0 p1 nx w ha hy hx
 | 1,_=>exact setters_any a d x p0 p1 nx w ha hy hx
 | 2,_=>exact numbers_any a d x p0 p1 nx w ha hy hn hx
end Go.Proofs.YtofcdecpipgmjaaGreatDoor.tr
namespace Go.Proofs.YtofcdecpipgmjaaGreatDoor.tr
open Go.RowKit Go.Deep
set_option linter.unusedVariables false
structure FloL (w:World) (kn:Nat→Nat→Nat) (wr:World):Prop where
 kn:LKn 122 wr (w.heap.size+1+1) kn
 res:∃ cs,wr.heap[w.heap.size+1]?=some (.cells cs 122 (0,0))∧cs.size=366
 beg:wr.heap[w.heap.size]?=some (.cells (perC fun _=>0).toArray 57 (0,0))
 below:Below w.heap.size w wr
theorem FloL.keep {w a b:World} {kn:Nat→Nat→Nat} (h:FloL w kn a) (hb:Below a.heap.size a b):FloL w kn b:=by
 obtain ⟨cs,r1,r2⟩:=h.res
 exact ⟨h.kn.keep hb,⟨cs,(hb.block _ (heap_lt r1)).trans r1,r2⟩,(hb.block _ (heap_lt h.beg)).trans h.beg,h.below.trans (hb.mono h.below.size)⟩
theorem FloL.drew {w a:World} {kn:Nat→Nat→Nat} (h:FloL w kn a):FloL w kn a.drew:=⟨h.kn,h.res,h.beg,h.below.drew⟩
theorem FloL.put {w a:World} {kn:Nat→Nat→Nat} (h:FloL w kn a) {m:Nat} (hm:m<61) (x:Nat→Nat):FloL w (setP kn m x) (a.setCells (w.heap.size+1+1) (m*6) (perC x)):=by
 obtain ⟨cs,r1,r2⟩:=h.res
 have hl:=h.kn.lt
 exact ⟨h.kn.put hm x,⟨cs,(World.heap_setCells_other _ _ _ _ (by omega) (by omega)).trans r1,r2⟩,(World.heap_setCells_other _ _ _ _ (by omega) (by omega)).trans h.beg,below_setCells h.below (by omega) (by omega)⟩
theorem zero_all:Tryz.zeroCells122=Array.replicate 366 (.int .u64 0):=by kernel_rfl
theorem noLent_kn (w:World):FloL w (fun _ _=>0) (((w.alloc (.cells #[.int .u64 0,.int .u64 0,.int .u64 0,.int .u64 0,.int .u64 0,.int .u64 0] 57)).alloc (.cells Tryz.zeroCells122 122)).alloc (.cells Tryz.zeroCells122 122)):=by
 have b1:=(Below.refl w.heap.size w).alloc (Nat.le_refl _) (.cells #[.int .u64 0,.int .u64 0,.int .u64 0,.int .u64 0,.int .u64 0,.int .u64 0] 57)
 have b2:=b1.alloc (by simp) (.cells Tryz.zeroCells122 122)
 have b3:=b2.alloc (by simp;omega) (.cells Tryz.zeroCells122 122)
 have n1:=heap_alloc_new w (.cells #[.int .u64 0,.int .u64 0,.int .u64 0,.int .u64 0,.int .u64 0,.int .u64 0] 57)
 have n2:=heap_alloc_new (w.alloc (.cells #[.int .u64 0,.int .u64 0,.int .u64 0,.int .u64 0,.int .u64 0,.int .u64 0] 57)) (.cells Tryz.zeroCells122 122)
 have n3:=heap_alloc_new ((w.alloc (.cells #[.int .u64 0,.int .u64 0,.int .u64 0,.int .u64 0,.int .u64 0,.int .u64 0] 57)).alloc (.cells Tryz.zeroCells122 122)) (.cells Tryz.zeroCells122 122)
 have k:∀ (W:World) (o:Obj),Below W.heap.size W (W.alloc o):=fun W o=>(Below.refl _ _).alloc (Nat.le_refl _) o
 have hs:(Tryz.zeroCells122).size=366:=by rw [zero_all];simp
 have m1:=((k _ (.cells Tryz.zeroCells122 122)).block _ (heap_lt n1)).trans n1
 have m1:=((k _ (.cells Tryz.zeroCells122 122)).block _ (heap_lt m1)).trans m1
 have m2:=((k _ (.cells Tryz.zeroCells122 122)).block _ (heap_lt n2)).trans n2
 have e2:(w.alloc (.cells #[.int .u64 0,.int .u64 0,.int .u64 0,.int .u64 0,.int .u64 0,.int .u64 0] 57)).heap.size=w.heap.size+1:=by simp
 have e3:((w.alloc (.cells #[.int .u64 0,.int .u64 0,.int .u64 0,.int .u64 0,.int .u64 0,.int .u64 0] 57)).alloc (.cells Tryz.zeroCells122 122)).heap.size=w.heap.size+1+1:=by simp
 rw [e2] at m2
 rw [e3] at n3
 refine ⟨⟨_,n3,hs,fun m hm v hv=>?_⟩,⟨_,m2,hs⟩,m1,b3⟩
 rw [zero_all,Array.getElem?_replicate,if_pos (by omega)]
 rfl
theorem rowL_range {W:World} {g:Nat} {x:Nat→Nat} (h:W.heap[g]?=some (.cells (perC x).toArray 57 (0,0))):W.rangeAt g 0 (perC x):=by
 intro j v hv
 have hj:j<6:=(List.getElem?_eq_some_iff.mp hv).1
 rw [Nat.zero_add,cB h]
 simpa using hv
theorem setP_zero (m:Nat):setP (fun _ _=>0) m (fun _=>0)=fun _ _=>0:=by
 funext j v
 unfold setP
 split <;> rfl
theorem flo_start (q:Nat) (ts:List Int) (ns:List Nd):LIn (eN ns) (genT q ns) (handT q ts ns) ns.length (fun _ _=>0) (fun k=>(firstSet ns.length).testBit k=true) :=
 LIn.start fun k hk=>by
  rw [flowSome.firstSet_bit]
  exact decide_eq_true hk
def PassAt (q:Nat) (ts:List Int) (ns:List Nd) (bf bq:Nat) (w:World):Prop :=
 ∀ (W:World) (a:Nat) (d:Nd) (x:Nat→Nat),Below w.heap.size w W→ns[a]?=some d→(∀ v,x v<2305843009213693952) →
  Calls Tryz.prog 99 #[.int .i64 a,.agg (perC x).toArray,.pointer (some ⟨bf,0,none⟩),.pointer (some ⟨bq,0,none⟩)] W fun E w'=>∃ z:Nat→Nat,E=.returned (.agg (perC z).toArray)∧(∀ v,z v<2305843009213693952)∧(∀ v,v<6→∀ l,(bitR z v l↔Beh (genT q ns) (handT q ts ns) a (bitR x) v l))∧Below W.heap.size W w'
theorem least6_any (w:World):Calls Tryz.prog 157 #[.agg #[]] w fun E w'=>E=.returned (.agg (perC (fun _=>0)).toArray)∧Below w.heap.size w w' :=
 (flowLent.eachLeast_any w).mono fun E w' h=>⟨h.1.trans rfl,h.2⟩
def Post (q:Nat) (ts:List Int) (ns:List Nd) (w:World) (E:Ending) (w':World):Prop:=∃ (cs:Array Value) (kn:Nat→Nat→Nat),E=.returned (.agg cs)∧cs.size=366∧LRows cs 0 kn∧LIn (eN ns) (genT q ns) (handT q ts ns) ns.length kn (fun _=>False)∧Below w.heap.size w w'
set_option maxRecDepth 100000 in
set_option maxHeartbeats 8000000 in
theorem walk (q:Nat) (ts:List Int) (ns:List Nd) (z C F hi:Nat) (A:Option Addr) (c:Nat) (ah bk:Nat→Nat) (bf bq:Nat) (w:World) (h:FlowsIn ts ns C F hi A c ah bk w) (hD:PtsOk z ns)
  (hPass:PassAt q ts ns bf bq w) (hTab:TabAt 0 Lib.deBruijn64tab w) (hg:0<w.heap.size) :
  Calls Tryz.prog 98 #[.pointer (some ⟨F,246,none⟩),.agg #[.int .u64 0,.int .u64 0,.int .u64 0,.int .u64 0,.int .u64 0,.int .u64 0],.iface 154 (.agg #[]),.func (.func 99) #[] #[.pointer (some ⟨bf,0,none⟩),.pointer (some ⟨bq,0,none⟩)]] w (Post q ts ns w):=by
 have hst:=noLent_kn w
 have hal:=flowLent.ahead_el
 have hml:=flowLent.at_el
 have hn1:1≤ns.length:=by have:=hD.1;omega
 have hle:=h.gr.le
 have HW:=Lib.hid h
 have HD:=Lib.hid hD
 have HPASS:=Lib.hid hPass
 have HTAB:=Lib.hid hTab
 have hFl:F<w.heap.size:=by have:=h.lt;omega
 clear h hD hPass hTab
 go_enter Tryz.func98,Tryz.ntmps98
 go_wp2_with fail
 generalize hw0:((w.alloc (.cells #[.int .u64 0,.int .u64 0,.int .u64 0,.int .u64 0,.int .u64 0,.int .u64 0] 57)).alloc (.cells Tryz.zeroCells122 122)).alloc (.cells Tryz.zeroCells122 122)=w0 at hst ⊢
 clear hw0
 have HST:=Lib.hid hst
 clear hst
 go_loopw [10,17] (fun _ i wr=>∃ k:Nat,i=.int .i64 k∧k≤61∧Hid (FloL w (fun _ _=>0) wr)) (fun _ i _=>61-(intOf i).toNat)
 case atStart=>exact ⟨0,rfl,Nat.zero_le _,HST⟩
 case round =>
  clear HST
  obtain ⟨k,rfl,hk,HS⟩:=hrel
  by_cases hlt:k<61
  ·have ki0:(0:Int)≤(k:Int):=by omega
   have ki1:(k:Int)<61:=by omega
   go_wp2_with fail
   refine (least6_any _).mono ?_
   rintro E w2 ⟨rfl,hb2⟩
   have HS2:=Lib.hid (HS.out.keep hb2)
   have HT1:=Lib.hid (HS2.out.kn.there hlt)
   have HS3:=Lib.hid (HS2.out.put (m:=k) hlt (fun _=>0))
   rw [setP_zero] at HS3
   clear hb2 HS HS2
   have hiP:(Tryz.prog.info? 57).map (·.size)=some 6:=by kernel_rfl
   go_wp2_with (first | ((with_reducible show wpList _ _ _ _ _ _);refine wpList_store_mid rfl 57 _ _ rfl (w.heap.size+1+1) (k*6) (perC (fun _=>0)).toArray rfl rfl ?_ hiP (perC_one _) ?_;exact HT1.out))
   refine ⟨⟨k+1,by simp,by omega,HS3⟩,?_⟩
   simp only [intOf]
   omega
  ·have hk61:k=61:=by omega
   have kd:decide ((k:Int)<61)=false:=decide_eq_false (by omega)
   clear hk61 hlt hk
   clear hal hml
   have hfl:=HW.out.keep (b:=wr) HS.out.below
   obtain ⟨cs,r1,r2,r3⟩:=hfl.row
   obtain ⟨f0,hf0⟩:∃ f0:Nat,f0=0:=⟨_,rfl⟩
   have hcr:=r3.1
   rw [show CoursIn cs 246 (0) ns.length ah=CoursIn cs 246 f0 ns.length ah from by rw [hf0]] at hcr
   have g1:wr.cell? ⟨F,246,none⟩=some (.int .i64 (f0:Int)):=(cB r1 _).trans hcr.1
   have g2:wr.cell? ⟨F,247,none⟩=some (.int .u64 ((firstSet ns.length:Nat):Int)):=(cB r1 _).trans hcr.2.1
   have hf61:f0<61:=by omega
   have fi0:(0:Int)≤(f0:Int):=by omega
   have fi1:(f0:Int)<61:=by omega
   have HFL0:=Lib.hid (flo_start q ts ns)
   have g1':∀ w':World,w'.heap[F]?=wr.heap[F]?→w'.cell? ⟨F,246,none⟩=some (.int .i64 (f0:Int)):=fun w' h=>(World.cell?_of_block (a:=⟨F,246,none⟩) h).trans g1
   have g2':∀ w':World,w'.heap[F]?=wr.heap[F]?→w'.cell? ⟨F,247,none⟩=some (.int .u64 ((firstSet ns.length:Nat):Int)):=fun w' h=>(World.cell?_of_block (a:=⟨F,247,none⟩) h).trans g2
   have G1:=Lib.hid g1'
   have G2:=Lib.hid g2'
   have hS7:(fun w'=>FloL w (fun _ _=>0) w'∧w'.heap[F]?=wr.heap[F]?) wr.drew:=⟨HS.out.drew,rfl⟩
   clear hfl r1 r2 r3 hcr HS g1 g2 g1' g2'
   clear hf0
   go_upto_region 7 with fail
   refine wp_region_held_drew (S:=fun w'=>FloL w (fun _ _=>0) w'∧w'.heap[F]?=wr.heap[F]?) (by kernel_rfl) hS7 (fun hHeld=>?_)
   clear hS7
   generalize hwd:wr.drew=wd at *
   clear hwd
   refine wpAnyH_take (i:=0) (oi:=⟨_,_,_,_,_,_⟩) (v:=.pointer (some ⟨F,246,none⟩)) rfl (by kernel_rfl) (by kernel_rfl) (by kernel_rfl) (fun _ _ _ h=>h) (Or.inl ⟨by rfl,fun w hSw=>by go_simp⟩) hHeld ?_
   try simp only [Act.put,sA,sB,sC]
   refine wpAnyH_take (i:=1) (oi:=⟨_,_,_,_,_,_⟩) (v:=.pointer (some ⟨F,246,none⟩)) rfl (by kernel_rfl) (by kernel_rfl) (by kernel_rfl) (fun _ _ _ h=>h) (Or.inl ⟨by rfl,fun w hSw=>by go_simp⟩) hHeld ?_
   try simp only [Act.put,sA,sB,sC]
   refine wpAnyH_take (i:=2) (oi:=⟨_,_,_,_,_,_⟩) (v:=.pointer (some ⟨F,246,none⟩)) rfl (by kernel_rfl) (by kernel_rfl) (by kernel_rfl) (fun _ _ _ h=>h) (Or.inl ⟨by rfl,fun w hSw=>by go_simp⟩) hHeld ?_
   try simp only [Act.put,sA,sB,sC]
   refine wpAnyH_take (i:=3) (oi:=⟨_,_,_,_,_,_⟩) (v:=.int .i64 (f0:Int)) rfl (by kernel_rfl) (by kernel_rfl) (by kernel_rfl) (fun _ _ _ h=>h) (Or.inl ⟨by rfl,fun w9 hSw=>by have h9:=G1.out w9 hSw.2;go_simp⟩) hHeld ?_
   try simp only [Act.put,sA,sB,sC]
   refine wpAnyH_take (i:=4) (oi:=⟨_,_,_,_,_,_⟩) (v:=.agg (perC (fun _=>0)).toArray) rfl (by kernel_rfl) (by kernel_rfl) (by kernel_rfl) (fun _ _ _ h=>h) (yieldsIf_load_mid (by rfl) _ _ rfl w.heap.size 0 rfl (perC (fun _=>0)) _ (fun w' h=>rowL_range h.1.beg) Tryz.underlying57 rfl (by kernel_rfl)) hHeld ?_
   try simp only [Act.put,sA,sB,sC]
   refine wpAnyH_take (i:=5) (oi:=⟨_,_,_,_,_,_⟩) (v:=.pointer (some ⟨(w.heap.size+1+1),f0*6,none⟩)) rfl (by kernel_rfl) (by kernel_rfl) (by kernel_rfl) (fun _ _ _ h=>h) (Or.inl ⟨by rfl,fun w hSw=>by go_simp⟩) hHeld ?_
   try simp only [Act.put,sA,sB,sC]
   refine wpAnyH_ready (rs:=[6]) (by kernel_rfl) (by simp) ?_
   refine AllReadyH.cons (o:=⟨_,_,_,_,_,_⟩) rfl (fun K hK=>?_) AllReadyH.nil
   rw [if_pos (by rfl)]
   refine wp_store_mid _ _ _ rfl (w.heap.size+1+1) (f0*6) (perC (fun _=>0)).toArray rfl rfl (hHeld.1.kn.there hf61) (by kernel_rfl) (perC_one _) ?_
   simp only [Act.put]
   have hp7:=hHeld.1.put (m:=f0) hf61 (fun _=>0)
   rw [setP_zero] at hp7
   refine hK.out _ _ ⟨hp7,(World.heap_setCells_other _ _ _ _ (by have:=hHeld.1.below.size;omega) (by omega)).trans hHeld.2⟩ (fun hHeld=>?_)
   clear hK K hp7
   refine wpAnyH_done (by kernel_rfl) ?_ _
   have g2:=G2.out _ hHeld.2
   have HS4:=Lib.hid hHeld.1
   clear hHeld G1 G2
   generalize World.setCells _ _ _ _=wB at *
   go_wp2_with fail
   clear fi0 fi1 hf61 g2
   go_loopw [11] (fun wk wr=>∃ (y:Nat) (kn:Nat→Nat→Nat),wk=.int .u64 y∧y<18446744073709551616∧Hid (∀ k,k<64→y.testBit k=true→k<ns.length)∧Hid (LIn (eN ns) (genT q ns) (handT q ts ns) ns.length kn (fun k=>y.testBit k=true))∧Hid (FloL w kn wr)) (fun wk wr=>(intOf wk).toNat+18446744073709551616*sumTo (fun m=>wtP (lkW wr (w.heap.size+1+1) m)) ns.length)
   case atStart=>exact ⟨firstSet ns.length,_,rfl,flowSome.firstSet_lt _ hle,fun k _ hk=>by rw [flowSome.firstSet_bit] at hk;exact of_decide_eq_true hk,HFL0,HS4⟩
   case round =>
    clear HFL0 HS4
    obtain ⟨y,kn,rfl,hy,hyn,HF,HS⟩:=hrel
    by_cases hy0:y=0
    ·subst hy0
     obtain ⟨csK,k1,k2,k3⟩:=HS.out.kn
     obtain ⟨csR,q1,q2⟩:=HS.out.res
     have hu:=Tryz.underlying122
     have hsz:(Tryz.prog.info? 122).map (·.size)=some 366:=by kernel_rfl
     have hrg:=range_row k1
     have hth:wr.there (w.heap.size+1) 0 366:=there_row q1 q2
     have hone:=lrows_one k2 k3
     have hlk:csK.toList.length=366:=by simpa using k2
     have hil:(Tryz.prog.info? 122).map (·.size)=some csK.toList.length:=by rw [hsz,hlk]
     have his:(Tryz.prog.info? 122).map (·.size)=some csK.size:=by rw [hsz,k2]
     have hth2:wr.there (w.heap.size+1) 0 csK.size:=by rw [k2];exact hth
     have hFIN:Post q ts ns w (.returned (.agg csK)) (wr.setCells (w.heap.size+1) 0 csK.toList):=by
      refine ⟨csK,kn,rfl,k2,k3,⟨HF.out.lt,HF.out.sound,fun k hk _=>HF.out.next k hk (by simp)⟩,below_setCells HS.out.below (by omega) HS.out.below.size⟩
     have hout:=heap_setCells csK.toList 0 wr csR q1 (by rw [hlk,q2];exact Nat.le_refl _)
     rw [setN_all csR csK (by rw [q2,k2])] at hout
     have HFIN:=Lib.hid hFIN
     have HOUT:=Lib.hid hout
     clear hFIN hout hsz k3 HF HS hyn
     go_wp2_with (first
      | ((with_reducible show wpList _ _ _ _ _ _);refine wpList_load_mid rfl 122 _ rfl (w.heap.size+1+1) 0 rfl csK.toList _ ?_ hu rfl hil ?_;exact hrg)
      | ((with_reducible show wpList _ _ _ _ _ _);refine wpList_store_mid rfl 122 _ _ rfl (w.heap.size+1) 0 csK rfl rfl ?_ his hone ?_;exact hth2))
     refine bodyPost_ret (v:=.agg csK) ?_ rfl HFIN.out
     exact flowSome.results_one_row rfl Tryz.prog _ _ (w.heap.size+1) csK rfl (run_loadVar_row _ _ _ _ csK (0,0) _ HOUT.out hu rfl his)
    ·have hyne:((y:Int) != 0)=true:=by simp;omega
     have HTr:=Lib.hid (tab_below HTAB.out hg HS.out.below)
     have hlow:=lowest_any y hy hy0 wr HTr.out
     have hwo:=without_any y hy hy0 wr
     obtain ⟨⟨ha64,hay⟩,hsb1,hsb2⟩:=flowSome.step_bits hy0 hy
     have hy1lt:y&&&(y-1)<18446744073709551616:=Nat.lt_of_le_of_lt Nat.and_le_left hy
     have hy1y:=and_pred_lt y hy0
     generalize Lib.ctz 64 y=a at *
     have han:a<ns.length:=hyn.out a ha64 hay
     have hwo2:Hid (∀ k,k<64→(y&&&(y-1)).testBit k=true→k<ns.length):=fun k hk hb=>hyn.out k hk (hsb2 k hb)
     obtain ⟨d,hd⟩:∃ d,ns[a]?=some d:=⟨ns[a],List.getElem?_eq_getElem han⟩
     have hfl:=HW.out.keep (b:=wr) HS.out.below
     have hFr:F<wr.heap.size:=by have:=HS.out.below.size;omega
     have ha61:a<61:=by omega
     have hpass:=HPASS.out wr a d (kn a) HS.out.below hd (fun v=>HF.out.lt a v)
     have HRA:=Lib.hid (HS.out.kn.range ha61)
     have ai0:(0:Int)≤(a:Int):=by omega
     have ai1:(a:Int)<61:=by omega
     have hsbit:=fun b (hb:b<64)=>hfl.sets.ah a b (by omega) hb
     have hslt:=hfl.sets.ahLt a
     obtain ⟨cs,r1,r2,r3⟩:=hfl.row
     have hca:∀ W:World,Below wr.heap.size wr W→W.cell? ⟨F,246+2+a,none⟩=some (.int .u64 (ah a:Int)):=fun W hW=>(hW.cell (by have:=HS.out.below.size;simp;omega)).trans ((cB r1 _).trans (r3.1.2.2 a ha61))
     have HSB1:=Lib.hid hsb1
     have HSB2:=Lib.hid hsb2
     have HBIT:=Lib.hid hsbit
     have HCA:=Lib.hid hca
     have HDA:=Lib.hid hd
     have hiP7:(Tryz.prog.info? 57).map (·.size)=some (perC (kn a)).length:=by kernel_rfl
     clear hd hfl r1 r2 r3 hsb1 hsb2 hsbit hca hay
     go_wp2_with fail
     refine hlow.mono ?_
     rintro E w3 ⟨rfl,hw3⟩
     subst hw3
     clear hlow
     go_wp2_with fail
     refine hwo.mono ?_
     rintro E w3 ⟨rfl,hw3⟩
     subst hw3
     clear hwo
     go_wp2_with (first | ((with_reducible show wpList _ _ _ _ _ _);refine wpList_load_mid rfl 57 _ rfl (w.heap.size+1+1) (a*6) rfl (perC (kn a)) _ ?_ Tryz.underlying57 rfl hiP7 ?_;exact HRA.out))
     refine hpass.mono ?_
     rintro E w4 ⟨z,rfl,hz61,hzi,hb4⟩
     have HM4:=Lib.hid (HS.out.keep hb4)
     have HAT:=Lib.hid (HF.out.take han hz61 hzi HSB1.out)
     have HZ61:=Lib.hid hz61
     have hbh:=(Below.refl w4.heap.size w4).alloc (Nat.le_refl _) (.cells #[.int .u64 0,.int .u64 0,.int .u64 0,.int .u64 0,.int .u64 0,.int .u64 0] 57)
     have hnew:=heap_alloc_new w4 (.cells #[.int .u64 0,.int .u64 0,.int .u64 0,.int .u64 0,.int .u64 0,.int .u64 0] 57)
     have hth4:Hid ((w4.alloc (.cells #[.int .u64 0,.int .u64 0,.int .u64 0,.int .u64 0,.int .u64 0,.int .u64 0] 57)).there w4.heap.size 0 6):=row_there hnew rfl
     have hbeh:Hid (((w4.alloc (.cells #[.int .u64 0,.int .u64 0,.int .u64 0,.int .u64 0,.int .u64 0,.int .u64 0] 57)).setCells w4.heap.size 0 (perC z)).heap[w4.heap.size]?=some (.cells (perC z).toArray 57 (0,0))):=row_set (perC z) hnew rfl
     have hb4b:=below_setCells (b:=w4.heap.size) (o:=0) (vs:=perC z) hbh (Nat.le_refl _) (by simp)
     have HB4B:=Lib.hid hb4b
     have HB4:=Lib.hid hb4
     have HW4:=Lib.hid hb4.size
     have hKB4:=HM4.out.kn.lt
     have hiP8:(Tryz.prog.info? 57).map (·.size)=some 6:=by kernel_rfl
     clear hpass hzi hb4 hz61 HRA hbh hnew hb4b
     go_upto_region 13 with (first | ((with_reducible show wpList _ _ _ _ _ _);refine wpList_store_mid rfl 57 _ _ rfl w4.heap.size 0 (perC z).toArray rfl rfl ?_ hiP8 (perC_one _) ?_;exact hth4.out))
     have hbW:Below w.heap.size w ((w4.alloc (.cells #[.int .u64 0,.int .u64 0,.int .u64 0,.int .u64 0,.int .u64 0,.int .u64 0] 57)).setCells w4.heap.size 0 (perC z)):=HM4.out.below.trans (HB4B.out.mono HM4.out.below.size)
     have HM4b:=Lib.hid (HM4.out.keep HB4B.out)
     have hca4:=HCA.out _ (HB4.out.trans (HB4B.out.mono HW4.out))
     have hzB0:w4.heap.size<((w4.alloc (.cells #[.int .u64 0,.int .u64 0,.int .u64 0,.int .u64 0,.int .u64 0,.int .u64 0] 57)).setCells w4.heap.size 0 (perC z)).heap.size:=by rw [size_setCells];simp
     have hzB:=Lib.hid hzB0
     clear hzB0
     clear HM4 HB4B HB4 HW4 hth4
     generalize w4.heap.size=BH at *
     generalize (w4.alloc (.cells #[.int .u64 0,.int .u64 0,.int .u64 0,.int .u64 0,.int .u64 0,.int .u64 0] 57)).setCells BH 0 (perC z)=wB4 at *
     have hls:=setList_any (ah a) hslt wB4 (tab_below HTAB.out hg hbW) (by have:=hbW.size;omega)
     clear hbW
     go_wp2_with fail
     refine hls.mono ?_
     rintro E w5 ⟨v,rfl,hrow,hb5⟩
     have HM5:=Lib.hid (HM4b.out.keep hb5)
     have hK4:=HM4b.out.kn.lt
     have HBE5:Hid (w5.heap[BH]?=some (.cells (perC z).toArray 57 (0,0))):=(hb5.block BH hzB.out).trans hbeh.out
     obtain ⟨Ar,cr,hvs⟩:=hrow.slice
     subst hvs
     have HROW:=Lib.hid hrow
     have hlen64:=intsOf_length (ah a)
     clear hls hrow hb5 hca4 HM4b hbeh
     have HLI:=Lib.hid (flowSome.intsOf_bits (ah a))
     obtain ⟨bl,hbl⟩:∃ bl,bl=bitsOf (ah a):=⟨_,rfl⟩
     have HBL:=Lib.hid hbl
     have hll:(intsOf (ah a)).length=bl.length:=by rw [hbl];simp [intsOf]
     obtain ⟨y1,hy1⟩:∃ y1,y1=y&&&(y-1):=⟨_,rfl⟩
     have HY1:=Lib.hid hy1
     rw [← hy1] at HAT hwo2 hy1lt hy1y ⊢
     have HROW2:Hid (RowI w5 wB4.heap.size (.slice Ar bl.length cr) (intsOf (ah a))):=by
      have:=HROW.out
      rw [hll] at this
      exact this
     rw [hll]
     rw [hll] at hlen64
     have HAT2:=Lib.hid (HAT.out.less (D':=fun m=>∃ i,i<0∧bl[i]?=some m) (fun m hm=>by obtain ⟨i,hi,_⟩:=hm;exact absurd hi (Nat.not_lt_zero _)))
     clear hbl hy1 hll HAT HROW
     go_wp2_with fail
     go_loopw [11,55] (fun wk i wr=>∃ (j y':Nat) (kn':Nat→Nat→Nat),wk=.int .u64 y'∧i=.int .i64 j∧j≤bl.length∧y'<18446744073709551616∧Hid (∀ k,k<64→y'.testBit k=true→k<ns.length)∧Hid (LAt (eN ns) (genT q ns) (handT q ts ns) ns.length kn' (fun k=>y'.testBit k=true) a (kn a) z (fun m=>∃ i,i<j∧bl[i]?=some m))∧Hid (FloL w kn' wr)∧Hid (wr.heap[BH]?=some (.cells (perC z).toArray 57 (0,0)))∧Hid (RowI wr wB4.heap.size (.slice Ar bl.length cr) (intsOf (ah a)))∧Hid (sumTo (fun i=>wtP (kn' i)) ns.length<sumTo (fun i=>wtP (kn i)) ns.length∨(sumTo (fun i=>wtP (kn' i)) ns.length=sumTo (fun i=>wtP (kn i)) ns.length∧y'=y1))) (fun _ i _=>bl.length-(intOf i).toNat)
     case atStart=>exact ⟨0,y1,kn,rfl,rfl,Nat.zero_le _,hy1lt,hwo2,HAT2,HM5,HBE5,HROW2,Lib.hid (.inr ⟨rfl,rfl⟩)⟩
     case round =>
      clear HAT2 HM5 HROW2 hwo2 HBE5
      obtain ⟨j,y',kn',rfl,rfl,hj,hy',hyn',HAT,HM,HBE,HROW,HS0⟩:=hrel
      have haj:=flowLent.ahead_ej
      have hmj:=flowLent.at_ej
      by_cases hjl:j<bl.length
      ·obtain ⟨b,hb⟩:∃ b,bl[j]?=some b:=⟨bl[j],List.getElem?_eq_getElem hjl⟩
       have hbm:b∈bitsOf (ah a):=by rw [← HBL.out];exact List.mem_of_getElem? hb
       have hb64:=(mem_bitsOf _ _).mp hbm
       have hedge:((fun a b=>eN ns a b)) a b:=(mem_nextN HD.out hle a b).mpr ((HBIT.out b hb64.1).mp hb64.2)
       have hbN:b<ns.length:=(nextN_ints HD.out HDA.out).2 b ((mem_nextN HD.out hle a b).mpr ((HBIT.out b hb64.1).mp hb64.2))
       have hb61:b<61:=by omega
       obtain ⟨b0,u,hb0,-,hbb,hx,hc⟩:=(RowI.intsV HROW.out).elem (k:=j) (by rw [HLI.out,← HBL.out];simpa using hjl)
       subst hb0
       have hub:u=(b:Int):=by
        rw [HLI.out,← HBL.out,List.getElem?_map,hb] at hx
        simpa using hx.symm
       subst hub
       have bi0:(0:Int)≤(b:Int):=by omega
       have bi1:(b:Int)<61:=by omega
       have ji0:(0:Int)≤(j:Int):=by omega
       have ji1:(j:Int)<(bl.length:Int):=by omega
       have HKL:Hid ((w.heap.size+1+1)<wr.heap.size):=HM.out.kn.lt
       have HBL2:Hid (BH<wr.heap.size):=heap_lt HBE.out
       have hkd:Hid (w.heap.size≤wr.heap.size):=HM.out.below.size
       have HB:=Lib.hid hb
       have HEDGE:=Lib.hid hedge
       have HRB:=Lib.hid (HM.out.kn.range hb61)
       clear hb hbm hx hedge
       have hmf:∀ (fn:Fn) (first cap:Array Value) (w:World),(Instr.makeFunc fn first cap).run Tryz.prog w=.ok (.func fn first cap) w:=fun _ _ _ _=>rfl
       go_upto_region 16 with fail
       go_cut [16] (fun s16 wx=>∃ bJ:Nat,s16=.pointer (some ⟨bJ,0,none⟩)∧wx.heap[bJ]?=some (.cells (perC (fun v=>kn' b v|||z v)).toArray 57 (0,0))∧wr.heap.size≤bJ∧Below wr.heap.size wr wx)
       case first =>
        refine wp_region_held_drew (S:=fun w'=>Below wr.heap.size wr w'∧w'.rangeAt (w.heap.size+1+1) (b*6) (perC (kn' b))∧w'.heap[BH]?=some (.cells (perC z).toArray 57 (0,0))) (by kernel_rfl) ⟨(Below.refl _ _).drew,HRB.out,HBE.out⟩ (fun hHeld=>?_)
        have hLE:wr.heap.size≤wr.drew.heap.size:=Nat.le_refl _
        generalize hwd:wr.drew=wd at *
        clear hwd
        refine wpAnyH_take (i:=0) (oi:=⟨_,_,_,_,_,_⟩) (v:=.iface 154 (.agg #[])) rfl (by kernel_rfl) (by kernel_rfl) (by kernel_rfl) (fun _ _ _ h=>h) (Or.inl ⟨by rfl,fun w hSw=>by go_simp⟩) hHeld ?_
        try simp only [Act.put,sA,sB,sC]
        refine wpAnyH_take (i:=1) (oi:=⟨_,_,_,_,_,_⟩) (v:=.int .i64 (b:Int)) rfl (by kernel_rfl) (by kernel_rfl) (by kernel_rfl) (fun _ _ _ h=>h) (Or.inl ⟨by rfl,fun w hSw=>by go_simp⟩) hHeld ?_
        try simp only [Act.put,sA,sB,sC]
        refine wpAnyH_take (i:=2) (oi:=⟨_,_,_,_,_,_⟩) (v:=.pointer (some ⟨(w.heap.size+1+1),b*6,none⟩)) rfl (by kernel_rfl) (by kernel_rfl) (by kernel_rfl) (fun _ _ _ h=>h) (Or.inl ⟨by rfl,fun w hSw=>by go_simp⟩) hHeld ?_
        try simp only [Act.put,sA,sB,sC]
        refine wpAnyH_take (i:=3) (oi:=⟨_,_,_,_,_,_⟩) (v:=(.agg (perC (kn' b)).toArray)) rfl (by kernel_rfl) (by kernel_rfl) (by kernel_rfl) (fun _ _ _ h=>h) (yieldsIf_load_mid (by rfl) _ _ rfl (w.heap.size+1+1) (b*6) rfl (perC (kn' b)) _ (fun w' h=>h.2.1) Tryz.underlying57 rfl (by kernel_rfl)) hHeld ?_
        try simp only [Act.put,sA,sB,sC]
        refine wpAnyH_take (i:=4) (oi:=⟨_,_,_,_,_,_⟩) (v:=(.agg (perC z).toArray)) rfl (by kernel_rfl) (by kernel_rfl) (by kernel_rfl) (fun _ _ _ h=>h) (yieldsIf_load_mid (by rfl) _ _ rfl BH 0 rfl (perC z) _ (fun w' h=>rowL_range h.2.2) Tryz.underlying57 rfl (by kernel_rfl)) hHeld ?_
        try simp only [Act.put,sA,sB,sC]
        refine wpAnyH_take (i:=5) (oi:=⟨_,_,_,_,_,_⟩) (v:=.func (Fn.method "loop.example/borrowcheck/impl.join") #[.iface 154 (.agg #[])] #[]) rfl (by kernel_rfl) (by kernel_rfl) (by kernel_rfl) (fun _ _ _ h=>h) (Or.inl ⟨by rfl,fun w hSw=>by go_simp⟩) hHeld ?_
        try simp only [Act.put,sA,sB,sC]
        refine wpAnyH_take (i:=6) (oi:=⟨_,_,_,_,_,_⟩) (v:=.func (Fn.method "loop.example/borrowcheck/impl.join") #[.iface 154 (.agg #[])] #[]) rfl (by kernel_rfl) (by kernel_rfl) (by kernel_rfl) (fun _ _ _ h=>h) (Or.inl ⟨by rfl,fun w hSw=>by go_simp⟩) hHeld ?_
        try simp only [Act.put,sA,sB,sC]
        refine wpAnyH_take (i:=7) (oi:=⟨_,_,_,_,_,_⟩) (v:=.iface 154 (.agg #[])) rfl (by kernel_rfl) (by kernel_rfl) (by kernel_rfl) (fun _ _ _ h=>h) (Or.inl ⟨by rfl,fun w hSw=>by go_simp⟩) hHeld ?_
        try simp only [Act.put,sA,sB,sC]
        refine wpAnyH_ready (rs:=[8,9]) (by kernel_rfl) (by simp) ?_
        refine AllReadyH.cons (o:=⟨_,_,_,_,_,_⟩) rfl (fun K hK=>?_) ?_
        ·skip
         go_simp
         refine (flowLent.eachJoin_any (kn' b) z (fun v=>HAT.out.lt b v) HZ61.out _).mono ?_
         rintro E wq1 ⟨rfl,hbq⟩
         refine hK.out _ _ ⟨hHeld.1.trans (hbq.mono hHeld.1.size),fun j v hv=>(hbq.cell (by have:=hHeld.1.size;have:=HKL.out;simp;omega)).trans (hHeld.2.1 j v hv),(hbq.block BH (heap_lt hHeld.2.2)).trans hHeld.2.2⟩ (fun hHeld=>?_)
         replace hLE:=Nat.le_trans hLE hbq.size
         clear hK K hbq
         refine wpAnyH_ready (rs:=[9]) (by kernel_rfl) (by simp) ?_
         refine AllReadyH.cons (o:=⟨_,_,_,_,_,_⟩) rfl (fun K hK=>?_) AllReadyH.nil
         go_simp
         have hJ:=heap_alloc_new wq1 (.cells #[.int .u64 0,.int .u64 0,.int .u64 0,.int .u64 0,.int .u64 0,.int .u64 0] 57)
         have hJB:wr.heap.size≤wq1.heap.size:=hLE
         have hba:=(Below.refl wq1.heap.size wq1).alloc (Nat.le_refl _) (.cells #[.int .u64 0,.int .u64 0,.int .u64 0,.int .u64 0,.int .u64 0,.int .u64 0] 57)
         refine hK.out _ _ ⟨hHeld.1.trans (hba.mono hHeld.1.size),fun j v hv=>(hba.cell (by have:=hHeld.1.size;have:=HKL.out;simp;omega)).trans (hHeld.2.1 j v hv),(hba.block BH (heap_lt hHeld.2.2)).trans hHeld.2.2⟩ (fun hHeld=>?_)
         replace hLE:=Nat.le_trans hLE hba.size
         generalize wq1.alloc (.cells #[.int .u64 0,.int .u64 0,.int .u64 0,.int .u64 0,.int .u64 0,.int .u64 0] 57)=wq2 at *
         replace hJ:=hJ
         clear hK K hba
         refine wpAnyH_ready (rs:=[10]) (by kernel_rfl) (by simp) ?_
         refine AllReadyH.cons (o:=⟨_,_,_,_,_,_⟩) rfl (fun K hK=>?_) AllReadyH.nil
         rw [if_pos (by rfl)]
         refine wp_store_mid _ _ _ rfl (wq1.heap.size) 0 (perC (fun v=>kn' b v|||z v)).toArray rfl rfl (row_there hJ rfl) (by kernel_rfl) (perC_one _) ?_
         simp only [Act.put]
         have hfin:=Lib.hid (row_set (perC (fun v=>kn' b v|||z v)) hJ rfl)
         have hKB:=HKL.out
         refine hK.out _ _ ⟨below_setCells hHeld.1 hJB hHeld.1.size,fun j v hv=>(World.cell?_of_block (a:=⟨(w.heap.size+1+1),b*6+j,none⟩) (heap_setCells_ne wq2 (wq1.heap.size) (w.heap.size+1+1) 0 _ (by omega) (by omega))).trans (hHeld.2.1 j v hv),(heap_setCells_ne wq2 (wq1.heap.size) BH 0 _ (by have:=HBL2.out;omega) (heap_lt hHeld.2.2)).trans hHeld.2.2⟩ (fun hHeld=>?_)
         clear hK K
         refine wpAnyH_done (by kernel_rfl) ?_ _
         go_wp2_with fail
         go_meet
         exact ⟨wq1.heap.size,rfl,hfin.out,hJB,hHeld.1⟩
        refine AllReadyH.cons (o:=⟨_,_,_,_,_,_⟩) rfl (fun K hK=>?_) AllReadyH.nil
        go_simp
        have hJ:=heap_alloc_new wd (.cells #[.int .u64 0,.int .u64 0,.int .u64 0,.int .u64 0,.int .u64 0,.int .u64 0] 57)
        have hJB:wr.heap.size≤wd.heap.size:=hLE
        have hba:=(Below.refl wd.heap.size wd).alloc (Nat.le_refl _) (.cells #[.int .u64 0,.int .u64 0,.int .u64 0,.int .u64 0,.int .u64 0,.int .u64 0] 57)
        refine hK.out _ _ ⟨hHeld.1.trans (hba.mono hHeld.1.size),fun j v hv=>(hba.cell (by have:=hHeld.1.size;have:=HKL.out;simp;omega)).trans (hHeld.2.1 j v hv),(hba.block BH (heap_lt hHeld.2.2)).trans hHeld.2.2⟩ (fun hHeld=>?_)
        replace hLE:=Nat.le_trans hLE hba.size
        generalize wd.alloc (.cells #[.int .u64 0,.int .u64 0,.int .u64 0,.int .u64 0,.int .u64 0,.int .u64 0] 57)=wq1 at *
        replace hJ:=hJ
        clear hK K hba
        refine wpAnyH_ready (rs:=[8]) (by kernel_rfl) (by simp) ?_
        refine AllReadyH.cons (o:=⟨_,_,_,_,_,_⟩) rfl (fun K hK=>?_) AllReadyH.nil
        go_simp
        refine (flowLent.eachJoin_any (kn' b) z (fun v=>HAT.out.lt b v) HZ61.out _).mono ?_
        rintro E wq2 ⟨rfl,hbq⟩
        refine hK.out _ _ ⟨hHeld.1.trans (hbq.mono hHeld.1.size),fun j v hv=>(hbq.cell (by have:=hHeld.1.size;have:=HKL.out;simp;omega)).trans (hHeld.2.1 j v hv),(hbq.block BH (heap_lt hHeld.2.2)).trans hHeld.2.2⟩ (fun hHeld=>?_)
        replace hJ:=(hbq.block _ (heap_lt hJ)).trans hJ
        replace hLE:=Nat.le_trans hLE hbq.size
        clear hK K hbq
        refine wpAnyH_ready (rs:=[10]) (by kernel_rfl) (by simp) ?_
        refine AllReadyH.cons (o:=⟨_,_,_,_,_,_⟩) rfl (fun K hK=>?_) AllReadyH.nil
        rw [if_pos (by rfl)]
        refine wp_store_mid _ _ _ rfl (wd.heap.size) 0 (perC (fun v=>kn' b v|||z v)).toArray rfl rfl (row_there hJ rfl) (by kernel_rfl) (perC_one _) ?_
        simp only [Act.put]
        have hfin:=Lib.hid (row_set (perC (fun v=>kn' b v|||z v)) hJ rfl)
        have hKB:=HKL.out
        refine hK.out _ _ ⟨below_setCells hHeld.1 hJB hHeld.1.size,fun j v hv=>(World.cell?_of_block (a:=⟨(w.heap.size+1+1),b*6+j,none⟩) (heap_setCells_ne wq2 (wd.heap.size) (w.heap.size+1+1) 0 _ (by omega) (by omega))).trans (hHeld.2.1 j v hv),(heap_setCells_ne wq2 (wd.heap.size) BH 0 _ (by have:=HBL2.out;omega) (heap_lt hHeld.2.2)).trans hHeld.2.2⟩ (fun hHeld=>?_)
        clear hK K
        refine wpAnyH_done (by kernel_rfl) ?_ _
        go_wp2_with fail
        go_meet
        exact ⟨wd.heap.size,rfl,hfin.out,hJB,hHeld.1⟩
       case rest =>
        obtain ⟨bJ,rfl,hJr,hJl,hbc⟩:=hcut
        have hcs:=hbc.size
        have HM2:=Lib.hid (HM.out.keep hbc)
        have HBE2:Hid (wc.heap[BH]?=some (.cells (perC z).toArray 57 (0,0))):=(hbc.block BH HBL2.out).trans HBE.out
        have HROW2:=Lib.hid (RowI.below HROW.out hbc)
        have HJR:=Lib.hid hJr
        have HCS:Hid (wr.heap.size≤wc.heap.size):=hcs
        clear hbc hJr HM HBE HROW hcs HRB hmf
        go_upto_region 17 with fail
        have hS17:(fun w'=>w'.heap[bJ]?=some (.cells (perC (fun v=>kn' b v|||z v)).toArray 57 (0,0))∧w'.rangeAt (w.heap.size+1+1) (b*6) (perC (kn' b))) wc.drew:=⟨HJR.out,HM2.out.kn.range hb61⟩
        refine wp_region_held_drew (S:=fun w'=>w'.heap[bJ]?=some (.cells (perC (fun v=>kn' b v|||z v)).toArray 57 (0,0))∧w'.rangeAt (w.heap.size+1+1) (b*6) (perC (kn' b))) (by kernel_rfl) hS17 (fun hHeld=>?_)
        clear hS17
        replace HM2:=Lib.hid HM2.out.drew
        replace HBE2:Hid (wc.drew.heap[BH]?=some (.cells (perC z).toArray 57 (0,0))):=HBE2.out
        replace HROW2:Hid (RowI wc.drew wB4.heap.size (.slice (some b0) bl.length cr) (intsOf (ah a))):=RowI.keep HROW2.out fun _ _=>rfl
        replace HJR:Hid (wc.drew.heap[bJ]?=some (.cells (perC (fun v=>kn' b v|||z v)).toArray 57 (0,0))):=HJR.out
        generalize hwd:wc.drew=wd at *
        clear hwd
        refine wpAnyH_take (i:=0) (oi:=⟨_,_,_,_,_,_⟩) (v:=(.agg (perC (fun v=>kn' b v|||z v)).toArray)) rfl (by kernel_rfl) (by kernel_rfl) (by kernel_rfl) (fun _ _ _ h=>h) (yieldsIf_load_mid (by rfl) _ _ rfl bJ 0 rfl (perC (fun v=>kn' b v|||z v)) _ (fun w' h=>rowL_range h.1) Tryz.underlying57 rfl (by kernel_rfl)) hHeld ?_
        try simp only [Act.put,sA,sB,sC]
        refine wpAnyH_take (i:=1) (oi:=⟨_,_,_,_,_,_⟩) (v:=.int .i64 (b:Int)) rfl (by kernel_rfl) (by kernel_rfl) (by kernel_rfl) (fun _ _ _ h=>h) (Or.inl ⟨by rfl,fun w hSw=>by go_simp⟩) hHeld ?_
        try simp only [Act.put,sA,sB,sC]
        refine wpAnyH_take (i:=2) (oi:=⟨_,_,_,_,_,_⟩) (v:=.pointer (some ⟨(w.heap.size+1+1),b*6,none⟩)) rfl (by kernel_rfl) (by kernel_rfl) (by kernel_rfl) (fun _ _ _ h=>h) (Or.inl ⟨by rfl,fun w hSw=>by go_simp⟩) hHeld ?_
        try simp only [Act.put,sA,sB,sC]
        refine wpAnyH_take (i:=3) (oi:=⟨_,_,_,_,_,_⟩) (v:=(.agg (perC (kn' b)).toArray)) rfl (by kernel_rfl) (by kernel_rfl) (by kernel_rfl) (fun _ _ _ h=>h) (yieldsIf_load_mid (by rfl) _ _ rfl (w.heap.size+1+1) (b*6) rfl (perC (kn' b)) _ (fun w' h=>h.2) Tryz.underlying57 rfl (by kernel_rfl)) hHeld ?_
        try simp only [Act.put,sA,sB,sC]
        refine wpAnyH_take (i:=4) (oi:=⟨_,_,_,_,_,_⟩) (v:=(.bool (!(eq6 (fun v=>kn' b v|||z v) (kn' b))))) rfl (by kernel_rfl) (by kernel_rfl) (by kernel_rfl) (fun _ _ _ h=>h) (Or.inl ⟨by rfl,fun w9 hSw=>exec_neq _ _ _ _ _ rfl _ _ rfl rfl w9⟩) hHeld ?_
        try simp only [Act.put,sA,sB,sC]
        refine wpAnyH_done (by kernel_rfl) ?_ _
        clear hHeld
        by_cases hsame:eq6 (fun v=>kn' b v|||z v) (kn' b)=true
        ·rw [hsame]
         have hsv:=(eq6_iff _ _).mp hsame
         have HSV:=Lib.hid hsv
         clear hsame hsv
         go_wp2_with fail
         refine ⟨⟨j+1,y',kn',rfl,by simp,by omega,hy',hyn',?_,HM2,HBE2,HROW2,HS0⟩,?_⟩
         ·refine Lib.hid (HAT.out.same (fun v hv=>HSV.out v hv) (fun m hm=>?_))
          obtain ⟨i,hi,him⟩:=hm
          by_cases hij:i=j
          ·subst hij
           rw [HB.out] at him
           exact .inr (Option.some.inj him).symm
          ·exact .inl ⟨i,by omega,him⟩
         ·simp only [intOf]
          omega
        ·have hne:eq6 (fun v=>kn' b v|||z v) (kn' b)=false:=by simpa using hsame
         rw [hne]
         go_upto_region 18 with fail
         have HT2:=Lib.hid (HM2.out.kn.there hb61)
         have HRJ:=Lib.hid (rowL_range HJR.out)
         have hiJ:Hid ((Tryz.prog.info? 57).map (·.size)=some 6):=by exact (show (Tryz.prog.info? 57).map (·.size)=some 6 from by kernel_rfl)
         go_upto_region 19 with (first
          | ((with_reducible show wpList _ _ _ _ _ _);refine wpList_load_mid rfl 57 _ rfl bJ 0 rfl (perC (fun v=>kn' b v|||z v)) _ ?_ Tryz.underlying57 rfl hiJ.out ?_;exact HRJ.out)
          | ((with_reducible show wpList _ _ _ _ _ _);refine wpList_store_mid rfl 57 _ _ rfl (w.heap.size+1+1) (b*6) (perC (fun v=>kn' b v|||z v)).toArray rfl rfl ?_ hiJ.out (perC_one _) ?_;exact HT2.out))
         have hex:∃ v,v<6∧(kn' b v|||z v)≠kn' b v:=Classical.byContradiction fun h9=>hsame ((eq6_iff _ _).mpr fun v hv=>Classical.byContradiction fun h8=>h9 ⟨v,hv,h8⟩)
         have HEX:=Lib.hid hex
         have hbl7:=HM2.out.kn.lt
         have HM3:=Lib.hid (HM2.out.put (m:=b) hb61 (fun v=>kn' b v|||z v))
         have hput:∀ g,g≠(w.heap.size+1+1)→g<wd.heap.size→(wd.setCells (w.heap.size+1+1) (b*6) (perC (fun v=>kn' b v|||z v))).heap[g]?=wd.heap[g]?:=fun g h9 h8=>heap_setCells_ne _ _ _ _ _ h9 h8
         have HBE3:Hid ((wd.setCells (w.heap.size+1+1) (b*6) (perC (fun v=>kn' b v|||z v))).heap[BH]?=some (.cells (perC z).toArray 57 (0,0))):=(hput BH (by omega) (heap_lt HBE2.out)).trans HBE2.out
         have HROW3:Hid (RowI (wd.setCells (w.heap.size+1+1) (b*6) (perC (fun v=>kn' b v|||z v))) wB4.heap.size (.slice (some b0) bl.length cr) (intsOf (ah a))):=RowI.keep HROW2.out fun g hg'=>hput g (by have:=(RowI.lt HROW2.out g hg').1;omega) (RowI.lt HROW2.out g hg').2
         clear hex hne hsame HM2 HBE2 HROW2 hput
         generalize wd.setCells (w.heap.size+1+1) (b*6) (perC (fun v=>kn' b v|||z v))=w8 at *
         go_wp2_with fail
         have hwith:=with_any y' b hy' (by omega)
         refine (hwith _).mono ?_
         rintro E w7 ⟨rfl,hb7⟩
         have HM4':=Lib.hid (HM3.out.keep hb7)
         have HBE4:Hid (w7.heap[BH]?=some (.cells (perC z).toArray 57 (0,0))):=(hb7.block BH (heap_lt HBE3.out)).trans HBE3.out
         have HROW4:=Lib.hid (RowI.below HROW3.out hb7)
         clear hwith hb7 HM3 HROW3 HBE3 HT2 HRJ
         go_wp2_with fail
         have hp2:2 ^ b<2 ^ 64:=Nat.pow_lt_pow_right (by decide) (by omega)
         have hor:y'|||2 ^ b<2 ^ 64:=Nat.or_lt_two_pow (by omega) hp2
         have hWW:∀ k,(y'|||2 ^ b).testBit k=true↔y'.testBit k=true∨k=b:=by
          intro k
          rw [Nat.testBit_or,Bool.or_eq_true,Nat.testBit_two_pow]
          simp only [decide_eq_true_eq]
          exact or_congr Iff.rfl eq_comm
         refine ⟨⟨j+1,y'|||2 ^ b,setP kn' b (fun v=>kn' b v|||z v),rfl,by simp,by omega,by omega,?_,?_,HM4',HBE4,HROW4,?_⟩,?_⟩
         ·refine Lib.hid (fun k hk hkb=>?_)
          rcases (hWW k).mp hkb with h9 | h9
          ·exact hyn'.out k hk h9
          ·rw [h9];exact hbN
         ·exact Lib.hid (HAT.out.more HEDGE.out (z:=(fun v=>kn' b v|||z v)) (fun v=>rfl) (W':=fun k=>(y'|||2 ^ b).testBit k=true) (D':=fun m=>∃ i,i<j+1∧bl[i]?=some m) hWW (fun m hm=>by
           obtain ⟨i,hi,him⟩:=hm
           by_cases hij:i=j
           ·subst hij
            rw [HB.out] at him
            exact .inr (Option.some.inj him).symm
           ·exact .inl ⟨i,by omega,him⟩))
         ·have h9:=wtP_set (kn:=kn') (n:=ns.length) (y:=z) (z:=(fun v=>kn' b v|||z v)) hbN (fun v=>HAT.out.lt b v) (fun v=>rfl) HEX.out
          refine Lib.hid (.inl ?_)
          rcases HS0.out with h8 | ⟨h8,_⟩
          ·omega
          ·omega
         ·simp only [intOf]
          omega
      ·have hjl2:j=bl.length:=by omega
       clear haj hmj
       go_wp2_with fail
       have e1:=HM.out.kn.measure hle
       have e0:=HS.out.kn.measure hle
       refine ⟨⟨y',kn',rfl,hy',hyn',Lib.hid (HAT.out.done fun m hm=>?_),HM⟩,?_⟩
       ·have hmb:m∈bl:=by
         rw [HBL.out,mem_bitsOf]
         have h9:=(mem_nextN HD.out hle a m).mp hm
         have h8:=h9.lt HD.out hle
         exact ⟨by omega,(HBIT.out m (by omega)).mpr h9⟩
        obtain ⟨i,hi,him⟩:=List.mem_iff_getElem.mp hmb
        exact ⟨i,by omega,by rw [List.getElem?_eq_getElem hi,him]⟩
       ·rw [e1,e0]
        simp only [intOf,Int.toNat_natCast]
        rcases HS0.out with h8 | ⟨h8,h9⟩
        ·omega
        ·omega
end Go.Proofs.YtofcdecpipgmjaaGreatDoor.tr
namespace Go.Proofs.YtofcdecpipgmjaaGreatDoor.tr
open Go.RowKit Go.Deep
set_option linter.unusedVariables false
def fillZ (bl:List Nat) (j c:Nat) (x:Nat→Nat) (v:Nat):Nat:=if v∈bl.take j then c else x v
theorem fillZ_zero (bl:List Nat) (c:Nat) (x:Nat→Nat) (v:Nat):fillZ bl 0 c x v=x v:=by
 unfold fillZ
 simp
theorem fillZ_next {bl:List Nat} {j b:Nat} (hb:bl[j]?=some b) (c:Nat) (x:Nat→Nat) (v:Nat):setAt (fillZ bl j c x) b c v=fillZ bl (j+1) c x v:=by
 have hj:=(List.getElem?_eq_some_iff.mp hb).1
 have e:bl.take (j+1)=bl.take j++[b]:=by
  rw [List.take_add_one,hb]
  rfl
 unfold setAt fillZ
 rw [e]
 simp only [List.mem_append,List.mem_cons,List.not_mem_nil,or_false]
 by_cases h:v=b
 ·rw [if_pos h,if_pos (.inr h)]
 ·rw [if_neg h]
  by_cases h2:v∈bl.take j
  ·rw [if_pos h2,if_pos (.inl h2)]
  ·rw [if_neg h2,if_neg (by rintro (h9 | h9);exact h2 h9;exact h h9)]
theorem fillZ_all (U c:Nat) (x:Nat→Nat) {v:Nat} (hv:v<6):fillZ (bitsOf U) (bitsOf U).length c x v=if U.testBit v then c else x v:=by
 unfold fillZ
 rw [List.take_length]
 have e:v∈bitsOf U↔U.testBit v=true:=by rw [mem_bitsOf];exact ⟨fun h=>h.2,fun h=>⟨by omega,h⟩⟩
 simp only [e]
def efC (ts:List Int) (d:Nd):List Value:=[.int .u64 ((effD ts d).r:Int),.int .u64 ((effD ts d).t:Int),.int .u64 ((effD ts d).c:Int),.int .u64 ((effD ts d).s:Int)]
structure PassS (w:World) (B2 B3:Nat) (ts:List Int) (d:Nd) (x y:Nat→Nat) (wr:World):Prop where
 be:PerAt wr w.heap.size x
 re:PerAt wr (w.heap.size+1) (fun _=>0)
 ef:wr.heap[B2]?=some (.cells (efC ts d).toArray 92 (0,0))
 bh:PerAt wr B3 y
 below:Below w.heap.size w wr
 ne:w.heap.size+1<B2∧B2<B3
section
variable {w a b:World} {B2 B3:Nat} {ts:List Int} {d:Nd} {x y:Nat→Nat}
theorem PassS.keep (h:PassS w B2 B3 ts d x y a) (hb:Below a.heap.size a b):PassS w B2 B3 ts d x y b :=
 ⟨h.be.keep hb,h.re.keep hb,(hb.block _ (heap_lt h.ef)).trans h.ef,h.bh.keep hb,h.below.trans (hb.mono h.below.size),h.ne⟩
theorem PassS.drew (h:PassS w B2 B3 ts d x y a):PassS w B2 B3 ts d x y a.drew:=h.keep (Below.refl _ _).drew
theorem PassS.put (h:PassS w B2 B3 ts d x y a) {i v:Nat} (hi:i<6):PassS w B2 B3 ts d x (setAt y i v) (a.setCell ⟨B3,i,none⟩ (.int .u64 (v:Int))):=by
 have hn:=h.ne
 exact ⟨h.be.same (heap_setCell_other _ _ _ _ (by show w.heap.size≠B3;omega)),h.re.same (heap_setCell_other _ _ _ _ (by show w.heap.size+1≠B3;omega)),(heap_setCell_other _ _ _ _ (by show B2≠B3;omega)).trans h.ef,h.bh.put hi,below_set h.below (by omega),h.ne⟩
theorem PassS.congr {z:Nat→Nat} (h:PassS w B2 B3 ts d x y a) (e:∀ v,v<6→y v=z v):PassS w B2 B3 ts d x z a:=⟨h.be,h.re,h.ef,h.bh.congr e,h.below,h.ne⟩
theorem PassS.old (h:PassS w B2 B3 ts d x y a) {k:Nat} {o:Obj} (hk:w.heap[k]?=some o):a.heap[k]?=some o:=(h.below.block k (heap_lt hk)).trans hk
end
set_option maxRecDepth 100000 in
set_option maxHeartbeats 8000000 in
theorem pass_any (q:Nat) (hq:q<3) (ts:List Int) (ns:List Nd) (C F hi:Nat) (A:Option Addr) (c:Nat) (ah bk:Nat→Nat) (bf bq k:Nat) (x:Nat→Nat) (d:Nd) (w:World) (h:FlowsIn ts ns C F hi A c ah bk w) (hA:AllTyped ts ns) (hd:ns[k]?=some d)
  (hf:w.heap[bf]?=some (.cells #[.pointer (some ⟨F,0,none⟩)] 85 (0,0))) (hqb:w.heap[bq]?=some (.cells #[.iface (qT q) (.agg #[])] 121 (0,0)))
  (hTab:TabAt 0 Lib.deBruijn64tab w) (hg:0<w.heap.size) (hx:∀ v,x v<2305843009213693952) :
  Calls Tryz.prog 99 #[.int .i64 k,.agg (perC x).toArray,.pointer (some ⟨bf,0,none⟩),.pointer (some ⟨bq,0,none⟩)] w fun E w'=>E=.returned (.agg (perC (trZ q ts d k x)).toArray)∧Below w.heap.size w w':=by
 have hkn:=(List.getElem?_eq_some_iff.mp hd).1
 have hle:=h.gr.le
 have hk61:k<61:=by omega
 have he:=effD_ok hA.1 (hA.2 k d hd)
 have ki0:(0:Int)≤(k:Int):=by omega
 have ki1:(k:Int)<61:=by omega
 have hnum:=fun h9=>num_ok hA hd h9
 have HNUM:=Lib.hid hnum
 have HL:=Lib.hid h
 have HTAB:=Lib.hid hTab
 have HDK:=Lib.hid hd
 have HE:=Lib.hid he
 have HX:=Lib.hid hx
 have HF:=Lib.hid hf
 have HQB:=Lib.hid hqb
 have hb0:=((Below.refl w.heap.size w).alloc (Nat.le_refl _) (.cells (perC x).toArray 57)).alloc (by simp) (.cells #[.int .u64 0,.int .u64 0,.int .u64 0,.int .u64 0,.int .u64 0,.int .u64 0] 57)
 have hp0:=PerAt.new w x
 have hp1:PerAt ((w.alloc (.cells (perC x).toArray 57)).alloc (.cells #[.int .u64 0,.int .u64 0,.int .u64 0,.int .u64 0,.int .u64 0,.int .u64 0] 57)) w.heap.size x:=hp0.keep ((Below.refl _ _).alloc (Nat.le_refl _) _)
 have hp6:PerAt ((w.alloc (.cells (perC x).toArray 57)).alloc (.cells #[.int .u64 0,.int .u64 0,.int .u64 0,.int .u64 0,.int .u64 0,.int .u64 0] 57)) (w.alloc (.cells (perC x).toArray 57)).heap.size (fun _=>0):=PerAt.new (w.alloc (.cells (perC x).toArray 57)) (fun _=>0)
 have hz1:(w.alloc (.cells (perC x).toArray 57)).heap.size=w.heap.size+1:=by simp
 have hz2:((w.alloc (.cells (perC x).toArray 57)).alloc (.cells #[.int .u64 0,.int .u64 0,.int .u64 0,.int .u64 0,.int .u64 0,.int .u64 0] 57)).heap.size=w.heap.size+2:=by simp
 rw [hz1] at hp6
 clear h hTab hA hd he hp0 hz1 hnum hx hf hqb
 go_enter Tryz.func99,Tryz.ntmps99
 go_upto_region 1 with fail
 generalize (w.alloc (.cells (perC x).toArray 57)).alloc (.cells #[.int .u64 0,.int .u64 0,.int .u64 0,.int .u64 0,.int .u64 0,.int .u64 0] 57)=w1 at *
 have cf:w1.cell? ⟨bf,0,none⟩=some (.pointer (some ⟨F,0,none⟩)):=(cB ((hb0.block bf (heap_lt HF.out)).trans HF.out) 0).trans rfl
 have HR1:=Lib.hid ((HL.out.keep hb0).effRange HDK.out)
 have hn2:=heap_alloc_new w1 (.cells #[.int .u64 0,.int .u64 0,.int .u64 0,.int .u64 0] 92)
 have hba:=(Below.refl w1.heap.size w1).alloc (Nat.le_refl _) (.cells #[.int .u64 0,.int .u64 0,.int .u64 0,.int .u64 0] 92)
 have hz3:(w1.alloc (.cells #[.int .u64 0,.int .u64 0,.int .u64 0,.int .u64 0] 92)).heap.size=w1.heap.size+1:=by simp
 have HT2:Hid ((w1.alloc (.cells #[.int .u64 0,.int .u64 0,.int .u64 0,.int .u64 0] 92)).there w1.heap.size 0 4):=row_there hn2 rfl
 have hbs:=below_setCells (b:=w1.heap.size) (o:=0) (vs:=efC ts d) hba (Nat.le_refl _) (by omega)
 have HE2:Hid (((w1.alloc (.cells #[.int .u64 0,.int .u64 0,.int .u64 0,.int .u64 0] 92)).setCells w1.heap.size 0 (efC ts d)).heap[w1.heap.size]?=some (.cells (efC ts d).toArray 92 (0,0))):=row_set (efC ts d) hn2 rfl
 have HZ3:Hid (((w1.alloc (.cells #[.int .u64 0,.int .u64 0,.int .u64 0,.int .u64 0] 92)).setCells w1.heap.size 0 (efC ts d)).heap.size=w1.heap.size+1):=by rw [size_setCells];exact hz3
 have HP1:=Lib.hid (hp1.keep hbs)
 have HP6:=Lib.hid (hp6.keep hbs)
 have HB:=Lib.hid (hb0.trans (hbs.mono (by omega)))
 have HZ2:=Lib.hid hz2
 have hi4:Hid ((Tryz.prog.info? 92).map (·.size)=some 4):=by exact (show (Tryz.prog.info? 92).map (·.size)=some 4 from by kernel_rfl)
 have h14:Hid ((efC ts d).toArray.all (·.oneCell')=true):=by exact (show (efC ts d).toArray.all (·.oneCell')=true from by simp [efC,Value.oneCell'])
 clear hb0 hp1 hp6 hz2 hn2 hba hz3 hbs
 go_upto_region 2 with (first
  | ((with_reducible show wpList _ _ _ _ _ _);refine wpList_load_mid rfl 92 _ rfl F (2+k*4) rfl (efC ts d) _ ?_ Tryz.underlying92 rfl hi4.out ?_;exact HR1.out)
  | ((with_reducible show wpList _ _ _ _ _ _);refine wpList_store_mid rfl 92 _ _ rfl w1.heap.size 0 (efC ts d).toArray rfl rfl ?_ hi4.out h14.out ?_;exact HT2.out))
 obtain ⟨B2,hB2⟩:∃ B2,B2=w1.heap.size:=⟨_,rfl⟩
 rw [← hB2] at HT2 HE2 HZ3 HP1 HP6 HB HZ2 ⊢
 generalize (w1.alloc (.cells #[.int .u64 0,.int .u64 0,.int .u64 0,.int .u64 0] 92)).setCells B2 0 _=w2 at *
 have hn3:=heap_alloc_new w2 (.cells #[.int .u64 0,.int .u64 0,.int .u64 0,.int .u64 0,.int .u64 0,.int .u64 0] 57)
 have hba:=(Below.refl w2.heap.size w2).alloc (Nat.le_refl _) (.cells #[.int .u64 0,.int .u64 0,.int .u64 0,.int .u64 0,.int .u64 0,.int .u64 0] 57)
 have hz3:(w2.alloc (.cells #[.int .u64 0,.int .u64 0,.int .u64 0,.int .u64 0,.int .u64 0,.int .u64 0] 57)).heap.size=w2.heap.size+1:=by simp
 have hbs:=below_setCells (b:=w2.heap.size) (o:=0) (vs:=perC x) hba (Nat.le_refl _) (by omega)
 have HT3:Hid ((w2.alloc (.cells #[.int .u64 0,.int .u64 0,.int .u64 0,.int .u64 0,.int .u64 0,.int .u64 0] 57)).there w2.heap.size 0 6):=row_there hn3 rfl
 have HRB:=Lib.hid HP1.out.range
 have hp3:PerAt ((w2.alloc (.cells #[.int .u64 0,.int .u64 0,.int .u64 0,.int .u64 0,.int .u64 0,.int .u64 0] 57)).setCells w2.heap.size 0 (perC x)) w2.heap.size x:=PerAt.all (PerAt.new w2 (fun _=>0)) x
 have HS0:Hid (PassS w B2 w2.heap.size ts d x x ((w2.alloc (.cells #[.int .u64 0,.int .u64 0,.int .u64 0,.int .u64 0,.int .u64 0,.int .u64 0] 57)).setCells w2.heap.size 0 (perC x))):=Lib.hid ⟨HP1.out.keep hbs,HP6.out.keep hbs,(hbs.block _ (heap_lt HE2.out)).trans HE2.out,hp3,HB.out.trans (hbs.mono HB.out.size),by have h1:=HZ2.out;have h2:=HZ3.out;omega⟩
 have HZ9:Hid (((w2.alloc (.cells #[.int .u64 0,.int .u64 0,.int .u64 0,.int .u64 0,.int .u64 0,.int .u64 0] 57)).setCells w2.heap.size 0 (perC x)).heap.size=w2.heap.size+1):=by rw [size_setCells];exact hz3
 have hiV:Hid ((Tryz.prog.info? 57).map (·.size)=some 6):=by exact (show (Tryz.prog.info? 57).map (·.size)=some 6 from by kernel_rfl)
 clear hn3 hba hz3 hbs hp3 HP1 HP6 HE2 HB HT2 HR1 hi4 h14 cf HZ2 HZ3 hB2
 go_upto_region 3 with (first
  | ((with_reducible show wpList _ _ _ _ _ _);refine wpList_load_mid rfl 57 _ rfl w.heap.size 0 rfl (perC x) _ ?_ Tryz.underlying57 rfl hiV.out ?_;exact HRB.out)
  | ((with_reducible show wpList _ _ _ _ _ _);refine wpList_store_mid rfl 57 _ _ rfl w2.heap.size 0 (perC x).toArray rfl rfl ?_ hiV.out (perC_one _) ?_;exact HT3.out))
 obtain ⟨B3,hB3⟩:∃ B3,B3=w2.heap.size:=⟨_,rfl⟩
 rw [← hB3] at HT3 HS0 HZ9 ⊢
 generalize (w2.alloc (.cells #[.int .u64 0,.int .u64 0,.int .u64 0,.int .u64 0,.int .u64 0,.int .u64 0] 57)).setCells B3 0 _=w3 at *
 clear hB3 HT3 HRB
 have hsz3:=HS0.out.below.size
 have htl:=HE.out.tlt
 have hsl:=HE.out.slt
 have ct:w3.cell? ⟨B2,1,none⟩=some (.int .u64 ((effD ts d).t:Int)):=(cB HS0.out.ef 1).trans rfl
 obtain ⟨Ut,hUt⟩:∃ U,U=(effD ts d).t:=⟨_,rfl⟩
 rw [← hUt] at ct htl
 have HUt:=Lib.hid hUt
 have hlst:=setList_any Ut (by omega) w3 (tab_below HTAB.out hg HS0.out.below) (by have:=HS0.out.below.size;omega)
 clear hUt
 go_wp2_with fail
 refine hlst.mono ?_
 rintro E w5t ⟨v,rfl,hrow,hb5⟩
 obtain ⟨Art,crt,hvs⟩:=hrow.slice
 subst hvs
 obtain ⟨blt,hbl⟩:∃ bl,bl=bitsOf Ut:=⟨_,rfl⟩
 have hll:(intsOf Ut).length=blt.length:=by rw [hbl];simp [intsOf]
 have hlen64t:=intsOf_length Ut
 have HROWt:Hid (RowI w5t w3.heap.size (.slice Art blt.length crt) (intsOf Ut)):=by rw [← hll];exact hrow
 rw [hll] at hlen64t
 have HBLt:=Lib.hid hbl
 have HLIt:Hid (intsOf Ut=blt.map (fun (k:Nat)=>(k:Int))):=by rw [hbl];rfl
 have HB3t:Hid (B3<w3.heap.size):=Lib.hid HS0.out.bh.lt
 have HSt:Hid (PassS w B2 B3 ts d x (fillZ blt 0 0 x) w5t):=Lib.hid ((HS0.out.keep hb5).congr fun v _=>by rw [fillZ_zero])
 rw [hll]
 clear hrow hb5 hll hbl ct hlst HS0
 go_wp2_with fail
 go_loopw [24] (fun i wr=>∃ j:Nat,i=.int .i64 j∧j≤blt.length∧Hid (PassS w B2 B3 ts d x (fillZ blt j 0 x) wr)∧Hid (RowI wr w3.heap.size (.slice Art blt.length crt) (intsOf Ut))) (fun i _=>blt.length-(intOf i).toNat)
 case atStart=>exact ⟨0,rfl,Nat.zero_le _,HSt,HROWt⟩
 case round =>
  clear HSt HROWt
  obtain ⟨jt,rfl,hjt,HSt,HROWt⟩:=hrel
  by_cases hjl:jt<blt.length
  ·obtain ⟨b,hb⟩:∃ b,blt[jt]?=some b:=⟨blt[jt],List.getElem?_eq_getElem hjl⟩
   have hbm:b∈bitsOf Ut:=by rw [← HBLt.out];exact List.mem_of_getElem? hb
   have hbt:=((mem_bitsOf _ _).mp hbm).2
   have hb6:b<6:=by
    rcases Nat.lt_or_ge b 6 with h8 | h8
    ·exact h8
    ·have h9:=hbt
     rw [Nat.testBit_lt_two_pow (Nat.lt_of_lt_of_le htl (Nat.pow_le_pow_right (by decide) h8:2 ^ 6≤2 ^ b))] at h9
     cases h9
   obtain ⟨b0,u,hb0,-,hbb,hxx,hc⟩:=(RowI.intsV HROWt.out).elem (k:=jt) (by rw [HLIt.out];simpa using hjl)
   subst hb0
   have hub:u=(b:Int):=by
    rw [HLIt.out,List.getElem?_map,hb] at hxx
    simpa using hxx.symm
   subst hub
   have bi0:(0:Int)≤(b:Int):=by omega
   have bi1:(b:Int)<6:=by omega
   have ji0:(0:Int)≤(jt:Int):=by omega
   have ji1:(jt:Int)<(blt.length:Int):=by omega
   have c9:=HSt.out.bh.cell hb6
   have s9:=HSt.out.bh.soft b
   have HN:Hid (PassS w B2 B3 ts d x (fillZ blt (jt+1) 0 x) (wr.setCell ⟨B3,b,none⟩ (.int .u64 ((0:Nat):Int)))):=Lib.hid ((HSt.out.put (v:=0) hb6).congr fun v _=>fillZ_next hb 0 x v)
   have HROW':Hid (RowI (wr.setCell ⟨B3,b,none⟩ (.int .u64 ((0:Nat):Int))) w3.heap.size (.slice (some b0) blt.length crt) (intsOf Ut)):=RowI.keep HROWt.out fun g hg'=>heap_setCell_other _ _ _ _ (by have:=(RowI.lt HROWt.out g hg').1;have:=HB3t.out;show g≠B3;omega)
   clear hb hbm hxx hbt HSt HROWt
   go_wp2_with fail
   refine ⟨⟨jt+1,by simp,by omega,HN,HROW'⟩,?_⟩
   simp only [intOf]
   omega
  ·have hjn:jt=blt.length:=by omega
   have jdt:decide (jt<blt.length)=false:=decide_eq_false hjl
   replace HSt:=Lib.hid (HSt.out.congr (z:=fun v=>if Ut.testBit v then 0 else (x) v) fun v hv=>by rw [hjn,HBLt.out];exact fillZ_all _ _ _ hv)
   clear hjn
   obtain ⟨wt,rfl⟩:∃ z,z=wr:=⟨_,rfl⟩
   have cs:wt.cell? ⟨B2,3,none⟩=some (.int .u64 ((effD ts d).s:Int)):=(cB HSt.out.ef 3).trans rfl
   obtain ⟨Us,hUs⟩:∃ U,U=(effD ts d).s:=⟨_,rfl⟩
   rw [← hUs] at cs hsl
   have HUs:=Lib.hid hUs
   have hlss:=setList_any Us (by omega) wt (tab_below HTAB.out hg HSt.out.below) (by have:=HSt.out.below.size;omega)
   clear hUs
   go_wp2_with fail
   refine hlss.mono ?_
   rintro E w5s ⟨v,rfl,hrow,hb5⟩
   obtain ⟨Ars,crs,hvs⟩:=hrow.slice
   subst hvs
   obtain ⟨bls,hbl⟩:∃ bl,bl=bitsOf Us:=⟨_,rfl⟩
   have hll:(intsOf Us).length=bls.length:=by rw [hbl];simp [intsOf]
   have hlen64s:=intsOf_length Us
   have HROWs:Hid (RowI w5s wt.heap.size (.slice Ars bls.length crs) (intsOf Us)):=by rw [← hll];exact hrow
   rw [hll] at hlen64s
   have HBLs:=Lib.hid hbl
   have HLIs:Hid (intsOf Us=bls.map (fun (k:Nat)=>(k:Int))):=by rw [hbl];rfl
   have HB3s:Hid (B3<wt.heap.size):=Lib.hid HSt.out.bh.lt
   have HSs:Hid (PassS w B2 B3 ts d x (fillZ bls 0 (valZ q d k x) fun v=>if Ut.testBit v then 0 else x v) w5s):=Lib.hid ((HSt.out.keep hb5).congr fun v _=>by rw [fillZ_zero])
   rw [hll]
   clear hrow hb5 hll hbl cs hlss HSt
   go_wp2_with fail
   go_loopw [35] (fun i wr=>∃ j:Nat,i=.int .i64 j∧j≤bls.length∧Hid (PassS w B2 B3 ts d x (fillZ bls j (valZ q d k x) fun v=>if Ut.testBit v then 0 else x v) wr)∧Hid (RowI wr wt.heap.size (.slice Ars bls.length crs) (intsOf Us))) (fun i _=>bls.length-(intOf i).toNat)
   case atStart=>exact ⟨0,rfl,Nat.zero_le _,HSs,HROWs⟩
   case round =>
    clear HSs HROWs
    obtain ⟨js,rfl,hjs,HSs,HROWs⟩:=hrel
    by_cases hjl:js<bls.length
    ·obtain ⟨b,hb⟩:∃ b,bls[js]?=some b:=⟨bls[js],List.getElem?_eq_getElem hjl⟩
     have hbm:b∈bitsOf Us:=by rw [← HBLs.out];exact List.mem_of_getElem? hb
     have hbt:=((mem_bitsOf _ _).mp hbm).2
     have hb6:b<6:=by
      rcases Nat.lt_or_ge b 6 with h8 | h8
      ·exact h8
      ·have h9:=hbt
       rw [Nat.testBit_lt_two_pow (Nat.lt_of_lt_of_le hsl (Nat.pow_le_pow_right (by decide) h8:2 ^ 6≤2 ^ b))] at h9
       cases h9
     obtain ⟨b0,u,hb0,-,hbb,hxx,hc⟩:=(RowI.intsV HROWs.out).elem (k:=js) (by rw [HLIs.out];simpa using hjl)
     subst hb0
     have hub:u=(b:Int):=by
      rw [HLIs.out,List.getElem?_map,hb] at hxx
      simpa using hxx.symm
     subst hub
     have bi0:(0:Int)≤(b:Int):=by omega
     have bi1:(b:Int)<6:=by omega
     have ji0:(0:Int)≤(js:Int):=by omega
     have ji1:(js:Int)<(bls.length:Int):=by omega
     have HSET:Hid (setI d=(b:Int)):=(HE.out.sets b (by omega)).mp (by rw [← HUs.out];exact hbt)
     have HBB:=Lib.hid hb
     have HC:=Lib.hid hc
     clear hb hbm hxx hbt
     go_upto_region 11 with fail
     have hS11:(fun w9=>∃ y,PassS w B2 B3 ts d x y w9) wr.drew:=⟨_,HSs.out.drew⟩
     refine wp_region_held_drew (S:=(fun w9=>∃ y,PassS w B2 B3 ts d x y w9)) (by kernel_rfl) hS11 (fun hHeld=>?_)
     replace HSs:=Lib.hid HSs.out.drew
     replace HROWs:Hid (RowI wr.drew wt.heap.size (.slice (some b0) bls.length crs) (intsOf Us)):=RowI.keep HROWs.out fun _ _=>rfl
     clear hS11
     generalize hwd:wr.drew=wd at *
     clear hwd
     obtain ⟨QT,hQT⟩:∃ QT,QT=qT q:=⟨_,rfl⟩
     obtain ⟨QF,hQF⟩:∃ QF,QF=qF q:=⟨_,rfl⟩
     have hal:=ahead_q q
     have hml:=at_q q
     have hans0:=fun p0 p1 W=>answer_any q hq k d x p0 p1 d.next.length W hk61 ⟨HE.out.xy.2.2.1,HE.out.xy.2.2.2⟩ HNUM.out HX.out
     have HQB2:=HQB.out
     rw [← hQT] at hal hml HQB2
     rw [← hQF] at hml hans0
     replace HQB2:=Lib.hid HQB2
     have HANS:=Lib.hid hans0
     have HQF:Hid (QF=149∨QF=152∨QF=153):=Lib.hid (by rw [hQF];unfold qF;split;exact .inl rfl;split;exact .inr (.inl rfl);exact .inr (.inr rfl))
     clear hans0 hQT hQF
     obtain ⟨p0,p1,hrN⟩:=HL.out.gr.ndRange HDK.out
     have HRN:=Lib.hid hrN
     clear hrN
     have HCLT:Hid (C<w.heap.size∧F<w.heap.size):=Lib.hid (by have:=HL.out.lt;omega)
     refine wpAnyH_take (i:=0) (oi:=⟨_,_,_,_,_,_⟩) (v:=.int .i64 (b:Int)) rfl (by kernel_rfl) (by kernel_rfl) (by kernel_rfl) (fun _ _ _ h=>h) (Or.inl ⟨by rfl,fun w hSw=>by go_simp⟩) hHeld ?_
     try simp only [Act.put,sA,sB,sC]
     refine wpAnyH_take (i:=1) (oi:=⟨_,_,_,_,_,_⟩) (v:=.iface QT (.agg #[])) rfl (by kernel_rfl) (by kernel_rfl) (by kernel_rfl) (fun _ _ _ h=>h) (Or.inl ⟨by rfl,fun w9 hSw=>by obtain ⟨y9,h8⟩:=hSw;have h9:=(cB (h8.old HQB2.out) 0).trans rfl;go_simp⟩) hHeld ?_
     try simp only [Act.put,sA,sB,sC]
     refine wpAnyH_take (i:=2) (oi:=⟨_,_,_,_,_,_⟩) (v:=.int .i64 (k:Int)) rfl (by kernel_rfl) (by kernel_rfl) (by kernel_rfl) (fun _ _ _ h=>h) (Or.inl ⟨by rfl,fun w hSw=>by go_simp⟩) hHeld ?_
     try simp only [Act.put,sA,sB,sC]
     refine wpAnyH_take (i:=3) (oi:=⟨_,_,_,_,_,_⟩) (v:=.pointer (some ⟨F,0,none⟩)) rfl (by kernel_rfl) (by kernel_rfl) (by kernel_rfl) (fun _ _ _ h=>h) (Or.inl ⟨by rfl,fun w9 hSw=>by obtain ⟨y9,h8⟩:=hSw;have h9:=(cB (h8.old HF.out) 0).trans rfl;go_simp⟩) hHeld ?_
     try simp only [Act.put,sA,sB,sC]
     refine wpAnyH_take (i:=4) (oi:=⟨_,_,_,_,_,_⟩) (v:=.pointer (some ⟨F,0,none⟩)) rfl (by kernel_rfl) (by kernel_rfl) (by kernel_rfl) (fun _ _ _ h=>h) (Or.inl ⟨by rfl,fun w hSw=>by go_simp⟩) hHeld ?_
     try simp only [Act.put,sA,sB,sC]
     refine wpAnyH_take (i:=5) (oi:=⟨_,_,_,_,_,_⟩) (v:=.pointer (some ⟨F,0,none⟩)) rfl (by kernel_rfl) (by kernel_rfl) (by kernel_rfl) (fun _ _ _ h=>h) (Or.inl ⟨by rfl,fun w hSw=>by go_simp⟩) hHeld ?_
     try simp only [Act.put,sA,sB,sC]
     refine wpAnyH_take (i:=6) (oi:=⟨_,_,_,_,_,_⟩) (v:=.pointer (some ⟨C,0,none⟩)) rfl (by kernel_rfl) (by kernel_rfl) (by kernel_rfl) (fun _ _ _ h=>h) (Or.inl ⟨by rfl,fun w9 hSw=>by obtain ⟨y9,h8⟩:=hSw;have h9:=(HL.out.keep h8.below).grCell;go_simp⟩) hHeld ?_
     try simp only [Act.put,sA,sB,sC]
     refine wpAnyH_take (i:=7) (oi:=⟨_,_,_,_,_,_⟩) (v:=.int .i64 (k:Int)) rfl (by kernel_rfl) (by kernel_rfl) (by kernel_rfl) (fun _ _ _ h=>h) (Or.inl ⟨by rfl,fun w hSw=>by go_simp⟩) hHeld ?_
     try simp only [Act.put,sA,sB,sC]
     refine wpAnyH_take (i:=8) (oi:=⟨_,_,_,_,_,_⟩) (v:=.pointer (some ⟨C,0,none⟩)) rfl (by kernel_rfl) (by kernel_rfl) (by kernel_rfl) (fun _ _ _ h=>h) (Or.inl ⟨by rfl,fun w hSw=>by go_simp⟩) hHeld ?_
     try simp only [Act.put,sA,sB,sC]
     refine wpAnyH_take (i:=9) (oi:=⟨_,_,_,_,_,_⟩) (v:=.pointer (some ⟨C,0,none⟩)) rfl (by kernel_rfl) (by kernel_rfl) (by kernel_rfl) (fun _ _ _ h=>h) (Or.inl ⟨by rfl,fun w hSw=>by go_simp⟩) hHeld ?_
     try simp only [Act.put,sA,sB,sC]
     refine wpAnyH_take (i:=10) (oi:=⟨_,_,_,_,_,_⟩) (v:=.pointer (some ⟨C,k*7,none⟩)) rfl (by kernel_rfl) (by kernel_rfl) (by kernel_rfl) (fun _ _ _ h=>h) (Or.inl ⟨by rfl,fun w hSw=>by go_simp⟩) hHeld ?_
     try simp only [Act.put,sA,sB,sC]
     refine wpAnyH_take (i:=11) (oi:=⟨_,_,_,_,_,_⟩) (v:=.agg ([.int .i64 d.op,.int .i64 d.x,.int .i64 d.y,.int .i64 d.n,.int .i64 p0,.int .i64 p1,.int .i64 d.next.length]:List Value).toArray) rfl (by kernel_rfl) (by kernel_rfl) (by kernel_rfl) (fun _ _ _ h=>h) (yieldsIf_load_mid (by rfl) _ _ rfl C (k*7) rfl ([.int .i64 d.op,.int .i64 d.x,.int .i64 d.y,.int .i64 d.n,.int .i64 p0,.int .i64 p1,.int .i64 d.next.length]:List Value) _ (fun w' h=>by obtain ⟨y9,h8⟩:=h;exact HRN.out w' (h8.below.block C HCLT.out.1)) Tryz.underlying80 rfl (by kernel_rfl)) hHeld ?_
     try simp only [Act.put,sA,sB,sC]
     refine wpAnyH_take (i:=12) (oi:=⟨_,_,_,_,_,_⟩) (v:=.agg (perC x).toArray) rfl (by kernel_rfl) (by kernel_rfl) (by kernel_rfl) (fun _ _ _ h=>h) (yieldsIf_load_mid (by rfl) _ _ rfl w.heap.size (0) rfl (perC x) _ (fun w' h=>by obtain ⟨y9,h8⟩:=h;exact h8.be.range) Tryz.underlying57 rfl (by kernel_rfl)) hHeld ?_
     try simp only [Act.put,sA,sB,sC]
     refine wpAnyH_take (i:=13) (oi:=⟨_,_,_,_,_,_⟩) (v:=.func (Fn.method "loop.example/borrowcheck/impl.answer") #[.iface QT (.agg #[])] #[]) rfl (by kernel_rfl) (by kernel_rfl) (by kernel_rfl) (fun _ _ _ h=>h) (Or.inl ⟨by rfl,fun w hSw=>by go_simp⟩) hHeld ?_
     try simp only [Act.put,sA,sB,sC]
     refine wpAnyH_take (i:=14) (oi:=⟨_,_,_,_,_,_⟩) (v:=.func (Fn.method "loop.example/borrowcheck/impl.answer") #[.iface QT (.agg #[])] #[]) rfl (by kernel_rfl) (by kernel_rfl) (by kernel_rfl) (fun _ _ _ h=>h) (Or.inl ⟨by rfl,fun w hSw=>by go_simp⟩) hHeld ?_
     try simp only [Act.put,sA,sB,sC]
     refine wpAnyH_take (i:=15) (oi:=⟨_,_,_,_,_,_⟩) (v:=.iface QT (.agg #[])) rfl (by kernel_rfl) (by kernel_rfl) (by kernel_rfl) (fun _ _ _ h=>h) (Or.inl ⟨by rfl,fun w hSw=>by go_simp⟩) hHeld ?_
     try simp only [Act.put,sA,sB,sC]
     refine wpAnyH_ready (rs:=[16]) (by kernel_rfl) (by simp) ?_
     refine AllReadyH.cons (o:=⟨_,_,_,_,_,_⟩) rfl (fun K hK=>?_) AllReadyH.nil
     have hans:=HANS.out p0 p1 wd
     have hqf:=HQF.out
     clear HQF HANS
     rcases hqf with rfl | rfl | rfl
     all_goals
      go_simp
      refine hans.mono ?_
      rintro E wq ⟨rfl,hbq⟩
      replace HSs:=Lib.hid (HSs.out.keep hbq)
      replace HROWs:=Lib.hid (RowI.below HROWs.out hbq)
      refine hK.out _ _ ⟨_,HSs.out⟩ (fun hHeld=>?_)
      clear hK K hans hbq hal hml
      refine wpAnyH_take (i:=17) (oi:=⟨_,_,_,_,_,_⟩) (v:=.pointer (some ⟨B3,b,none⟩)) rfl (by kernel_rfl) (by kernel_rfl) (by kernel_rfl) (fun _ _ _ h=>h) (Or.inl ⟨by rfl,fun w hSw=>by go_simp⟩) hHeld ?_
      try simp only [Act.put,sA,sB,sC]
      refine wpAnyH_ready (rs:=[18]) (by kernel_rfl) (by simp) ?_
      refine AllReadyH.cons (o:=⟨_,_,_,_,_,_⟩) rfl (fun K hK=>?_) AllReadyH.nil
      have c9:=HSs.out.bh.cell hb6
      have s9:=HSs.out.bh.soft b
      have HN:Hid (PassS w B2 B3 ts d x (fillZ bls (js+1) (valZ q d k x) (fun v=>if Ut.testBit v then 0 else x v)) (wq.setCell ⟨B3,b,none⟩ (.int .u64 ((valZ q d k x:Nat):Int)))):=Lib.hid ((HSs.out.put (v:=valZ q d k x) hb6).congr fun v _=>fillZ_next HBB.out _ _ v)
      have HROW':Hid (RowI (wq.setCell ⟨B3,b,none⟩ (.int .u64 ((valZ q d k x:Nat):Int))) wt.heap.size (.slice (some b0) bls.length crs) (intsOf Us)):=RowI.keep HROWs.out fun g hg'=>heap_setCell_other _ _ _ _ (by have:=(RowI.lt HROWs.out g hg').1;have:=HB3s.out;show g≠B3;omega)
      go_simp
      refine hK.out _ _ ⟨_,HN.out⟩ (fun hHeld=>?_)
      clear hK K c9 s9 HSs HROWs
      refine wpAnyH_done (by kernel_rfl) ?_ _
      clear hHeld
      go_wp2_with fail
      refine ⟨⟨js+1,by simp,by omega,HN,HROW'⟩,?_⟩
      simp only [intOf]
      omega
    ·have hjn:js=bls.length:=by omega
     have jds:decide (js<bls.length)=false:=decide_eq_false hjl
     replace HSs:=Lib.hid (HSs.out.congr (z:=fun v=>if Us.testBit v then (valZ q d k x) else (fun v=>if Ut.testBit v then 0 else x v) v) fun v hv=>by rw [hjn,HBLs.out];exact fillZ_all _ _ _ hv)
     clear hjn
     have HFIN:Hid (∀ v,v<6→(if Us.testBit v then valZ q d k x else (fun v=>if Ut.testBit v then 0 else x v) v)=trZ q ts d k x v):=fun v hv=>by
      have e1:=HE.out.sets v (by omega)
      have e2:=HE.out.takes v (by omega)
      rw [← HUs.out] at e1
      rw [← HUt.out] at e2
      show (if Us.testBit v then valZ q d k x else if Ut.testBit v then 0 else x v)=_
      unfold trZ
      by_cases h1:setI d=(v:Int)
      ·rw [if_pos h1,if_pos (e1.mpr h1)]
      ·rw [if_neg h1,if_neg (fun h=>h1 (e1.mp h))]
       by_cases h2:useI ts d (v:Int)=2
       ·rw [if_pos h2,if_pos (e2.mpr h2)]
       ·rw [if_neg h2,if_neg (fun h=>h2 (e2.mp h))]
     replace HSs:=Lib.hid (HSs.out.congr HFIN.out)
     have HRG:=Lib.hid HSs.out.bh.range
     have HTH:=Lib.hid HSs.out.re.there
     have HOUT:=Lib.hid (HSs.out.re.allRow (trZ q ts d k x))
     have HBO:=Lib.hid (below_setCells (b:=w.heap.size+1) (o:=0) (vs:=perC (trZ q ts d k x)) HSs.out.below (by omega) HSs.out.below.size)
     clear HSs HROWs HFIN
     go_wp2_with (first
      | ((with_reducible show wpList _ _ _ _ _ _);refine wpList_load_mid rfl 57 _ rfl B3 0 rfl (perC (trZ q ts d k x)) _ ?_ Tryz.underlying57 rfl hiV.out ?_;exact HRG.out)
      | ((with_reducible show wpList _ _ _ _ _ _);refine wpList_store_mid rfl 57 _ _ rfl (w.heap.size+1) 0 (perC (trZ q ts d k x)).toArray rfl rfl ?_ hiV.out (perC_one _) ?_;exact HTH.out))
     refine bodyPost_ret (v:=.agg (perC (trZ q ts d k x)).toArray) ?_ rfl ⟨rfl,HBO.out⟩
     exact results_cell rfl Tryz.prog _ _ (w.heap.size+1) _ rfl (load_per HOUT.out rfl)
end Go.Proofs.YtofcdecpipgmjaaGreatDoor.tr
namespace Go.Proofs.YtofcdecpipgmjaaGreatDoor.tr
open Go.RowKit Go.Deep
set_option linter.unusedVariables false
theorem isVar6_any (v:Int) (w:World):Calls Tryz.prog 70 #[.int .i64 v] w fun e w'=>e=.returned (.bool (decide (0≤v∧v≤5)))∧w=w':=by
 by_cases h1:0≤v
 ·by_cases h2:v≤5
  ·have e1:decide (0≤v∧v≤5)=true:=decide_eq_true ⟨h1,h2⟩
   rw [e1]
   have h3:v<6:=by omega
   go_enter Tryz.func70,Tryz.ntmps70
   go_wp2_with fail
   go_ret
   exact ⟨rfl,rfl⟩
  ·have e1:decide (0≤v∧v≤5)=false:=decide_eq_false fun h=>h2 h.2
   rw [e1]
   go_enter Tryz.func70,Tryz.ntmps70
   go_wp2_with fail
   go_ret
   exact ⟨ret_bool (decide_eq_false (by omega)),rfl⟩
 ·have e1:decide (0≤v∧v≤5)=false:=decide_eq_false fun h=>h1 h.1
  rw [e1]
  have h3:v<0:=by omega
  go_enter Tryz.func70,Tryz.ntmps70
  go_wp2_with fail
  go_ret
  exact ⟨rfl,rfl⟩
def ofZ (x:Nat→Nat) (v:Int):Nat:=if 0≤v∧v≤5 then x v.toNat else 0
theorem of_any (x:Nat→Nat) (v:Int) (w:World):Calls Tryz.prog 40 #[.agg (perC x).toArray,.int .i64 v] w fun E w'=>E=.returned (.int .u64 (ofZ x v:Nat))∧Below w.heap.size w w':=by
 have hb0:=(Below.refl w.heap.size w).alloc (Nat.le_refl _) (.cells (perC x).toArray 57)
 have hp:=PerAt.new w x
 have hiv:=fun W=>isVar6_any v W
 by_cases hv:0≤v∧v≤5
 ·obtain ⟨u,rfl⟩:∃ u:Nat,v=(u:Int):=⟨v.toNat,by omega⟩
  have hu6:u<6:=by omega
  have e:ofZ x (u:Int)=x u:=by unfold ofZ;rw [if_pos hv,Int.toNat_natCast]
  rw [e]
  have cu:=hp.cell hu6
  have ui0:(0:Int)≤(u:Int):=by omega
  have ui1:(u:Int)<6:=by omega
  rw [decide_eq_true hv] at hiv
  have HB:=Lib.hid hb0
  clear hp e hv hb0
  go_enter Tryz.func40,Tryz.ntmps40
  go_wp2_with fail
  refine (hiv _).mono ?_
  rintro E w1 ⟨rfl,rfl⟩
  clear hiv
  go_wp2_with fail
  go_ret
  exact ⟨rfl,by first | exact HB.out | exact HB.out.drew⟩
 ·have e:ofZ x v=0:=by unfold ofZ;rw [if_neg hv]
  rw [e]
  rw [decide_eq_false hv] at hiv
  have HB:=Lib.hid hb0
  clear hp e hv hb0
  go_enter Tryz.func40,Tryz.ntmps40
  go_wp2_with fail
  refine (hiv _).mono ?_
  rintro E w1 ⟨rfl,rfl⟩
  clear hiv
  go_wp2_with fail
  go_ret
  exact ⟨rfl,by first | exact HB.out | exact HB.out.drew⟩
set_option maxRecDepth 100000 in
set_option maxHeartbeats 4000000 in
theorem traced_any (q:Nat) (hq:q<3) (ts:List Int) (ns:List Nd) (z C F hi:Nat) (A:Option Addr) (c:Nat) (ah bk:Nat→Nat) (w:World) (h:FlowsIn ts ns C F hi A c ah bk w) (hD:PtsOk z ns) (hA:AllTyped ts ns)
  (hTab:TabAt 0 Lib.deBruijn64tab w) (hg:0<w.heap.size) :
  Calls Tryz.prog 69 #[.pointer (some ⟨F,0,none⟩),.iface (qT q) (.agg #[])] w (Post q ts ns w):=by
 obtain ⟨W,hW⟩:∃ W,W=((w.alloc (.cells #[.pointer (some ⟨F,0,none⟩)] 85)).alloc (.cells #[.iface (qT q) (.agg #[])] 121)).alloc (.cells Tryz.zeroCells122 122):=⟨_,rfl⟩
 have b1:=(Below.refl w.heap.size w).alloc (Nat.le_refl _) (.cells #[.pointer (some ⟨F,0,none⟩)] 85)
 have b2:=b1.alloc (by simp) (.cells #[.iface (qT q) (.agg #[])] 121)
 have b3:=b2.alloc (by simp;omega) (.cells Tryz.zeroCells122 122)
 have n1:=heap_alloc_new w (.cells #[.pointer (some ⟨F,0,none⟩)] 85)
 have n2:=heap_alloc_new (w.alloc (.cells #[.pointer (some ⟨F,0,none⟩)] 85)) (.cells #[.iface (qT q) (.agg #[])] 121)
 have n3:=heap_alloc_new ((w.alloc (.cells #[.pointer (some ⟨F,0,none⟩)] 85)).alloc (.cells #[.iface (qT q) (.agg #[])] 121)) (.cells Tryz.zeroCells122 122)
 have kk:∀ (W:World) (o:Obj),Below W.heap.size W (W.alloc o):=fun W o=>(Below.refl _ _).alloc (Nat.le_refl _) o
 have e1:(w.alloc (.cells #[.pointer (some ⟨F,0,none⟩)] 85)).heap.size=w.heap.size+1:=by simp
 have e2:((w.alloc (.cells #[.pointer (some ⟨F,0,none⟩)] 85)).alloc (.cells #[.iface (qT q) (.agg #[])] 121)).heap.size=w.heap.size+1+1:=by simp
 have m1:=((kk _ (.cells Tryz.zeroCells122 122)).block _ (heap_lt (((kk _ (.cells #[.iface (qT q) (.agg #[])] 121)).block _ (heap_lt n1)).trans n1))).trans (((kk _ (.cells #[.iface (qT q) (.agg #[])] 121)).block _ (heap_lt n1)).trans n1)
 have m2:=((kk _ (.cells Tryz.zeroCells122 122)).block _ (heap_lt n2)).trans n2
 rw [e1] at m2
 rw [e2] at n3
 rw [← hW] at b3 m1 m2 n3
 have hs:(Tryz.zeroCells122).size=366:=by rw [zero_all];simp
 have hfl:=h.keep b3
 have htab:=tab_below hTab hg b3
 have hpass:PassAt q ts ns w.heap.size (w.heap.size+1) W:=fun W' a d x hb hd hx=>(pass_any q hq ts ns C F hi A c ah bk w.heap.size (w.heap.size+1) a x d W' (hfl.keep hb) hA hd ((hb.block _ (heap_lt m1)).trans m1) ((hb.block _ (heap_lt m2)).trans m2) (tab_below htab (by have:=b3.size;omega) hb) (by have:=b3.size;have:=hb.size;omega) hx).mono fun E w' h9 =>
  ⟨trZ q ts d a x,h9.1,fun v=>trZ_lt (fun h8=>(num_ok hA hd h8).2) (by have:=(List.getElem?_eq_some_iff.mp hd).1;have:=h.gr.le;omega) hx v,fun v hv l=>trZ_iff hq hA hd hv,h9.2⟩
 have hwalk:=walk q ts ns z C F hi A c ah bk w.heap.size (w.heap.size+1) W hfl hD hpass htab (by have:=b3.size;omega)
 have HWALK:=Lib.hid hwalk
 have HB3:=Lib.hid b3
 have HN3:=Lib.hid n3
 have HS:=Lib.hid hs
 clear b1 b2 b3 n1 n2 n3 kk e1 e2 m1 m2 hs hfl htab hpass hwalk h hD hA hTab
 have hu:=Tryz.underlying122
 go_enter Tryz.func69,Tryz.ntmps69
 go_wp2_with fail
 rw [← hW]
 have hwalk:=HWALK.out
 refine hwalk.mono ?_
 rintro E w5 ⟨csK,kn,rfl,k2,k3,k4,hb5⟩
 have q1:=(hb5.block _ (heap_lt HN3.out)).trans HN3.out
 have hth:w5.there (w.heap.size+1+1) 0 366:=there_row q1 HS.out
 have hone:=lrows_one k2 k3
 have hlk:csK.toList.length=366:=by simpa using k2
 have hsz:(Tryz.prog.info? 122).map (·.size)=some 366:=by kernel_rfl
 have his:(Tryz.prog.info? 122).map (·.size)=some csK.size:=by rw [hsz,k2]
 have hth2:w5.there (w.heap.size+1+1) 0 csK.size:=by rw [k2];exact hth
 have hbw:=HB3.out.trans (hb5.mono HB3.out.size)
 have hFIN:Post q ts ns w (.returned (.agg csK)) (w5.setCells (w.heap.size+1+1) 0 csK.toList):=⟨csK,kn,rfl,k2,k3,k4,below_setCells hbw (by omega) hbw.size⟩
 have hout:=heap_setCells csK.toList 0 w5 _ q1 (by rw [hlk,HS.out];exact Nat.le_refl _)
 rw [setN_all _ csK (by rw [HS.out,k2])] at hout
 have HFIN:=Lib.hid hFIN
 have HOUT:=Lib.hid hout
 clear hFIN hout hsz k3 k4 hbw hb5 q1 hth hwalk HWALK HB3
 go_wp2_with ((with_reducible show wpList _ _ _ _ _ _);refine wpList_store_mid rfl 122 _ _ rfl (w.heap.size+1+1) 0 csK rfl rfl ?_ his hone ?_;exact hth2)
 refine bodyPost_ret (v:=.agg csK) ?_ rfl HFIN.out
 exact flowSome.results_one_row rfl Tryz.prog _ _ (w.heap.size+1+1) csK rfl (run_loadVar_row _ _ _ _ csK (0,0) _ HOUT.out hu rfl his)
def TrAt (q:Nat) (ts:List Int) (ok:Bool) (s:Sts) (a:Int) (v l:Nat):Prop:=ok=true∧0≤a∧a<((progPts s).length:Int)∧TrB q ts (progPts s) a.toNat v l
def AnsPer (q:Nat) (ts:List Int) (s:Sts) (a:Int) (w:World) (E:Ending) (w':World):Prop :=
 ∃ x:Nat→Nat,E=.returned (.agg (perC x).toArray)∧(∀ v,x v<2305843009213693952)∧(∀ v,v<6→∀ l,(bitR x v l↔TrAt q ts (validB ts s) s a v l))∧Below w.heap.size w w'
theorem nothing_at {q:Nat} {ts:List Int} {ok:Bool} {s:Sts} {a:Int} (h:¬ (ok=true∧0≤a∧a<((progPts s).length:Int))) (v l:Nat):bitR (fun _=>0) v l↔TrAt q ts ok s a v l :=
 ⟨fun h9=>by unfold bitR at h9;simp at h9,fun h9=>absurd ⟨h9.1,h9.2.1,h9.2.2.1⟩ h⟩
end Go.Proofs.YtofcdecpipgmjaaGreatDoor.tr
namespace Go.Proofs.YtofcdecpipgmjaaGreatDoor.tr
open Go.RowKit Go.Deep
set_option linter.unusedVariables false
theorem extract_per {cs:Array Value} {kn:Nat→Nat→Nat} (hz:cs.size=366) (h:LRows cs 0 kn) {k:Nat} (hk:k<61):cs.extract (k*6) (k*6+6)=(perC (kn k)).toArray:=by
 apply Array.ext_getElem?
 intro i
 rw [Array.getElem?_extract]
 by_cases hi:i<6
 ·rw [if_pos (by omega)]
  have h9:=h k hk i hi
  rw [Nat.zero_add] at h9
  rw [h9]
  simpa using (perC_get (kn k) hi).symm
 ·rw [if_neg (by omega)]
  exact (Array.getElem?_eq_none (by show 6≤i;omega)).symm
theorem index_per {cs:Array Value} {kn:Nat→Nat→Nat} (hz:cs.size=366) (h:LRows cs 0 kn) {k:Nat} (hk:k<61) (w:World):(Instr.index 122 (.agg cs) (.int .i64 (k:Int))).run Tryz.prog w=.ok (.agg (perC (kn k)).toArray) w:=by
 have hu:=Tryz.underlying122
 have hs:(sizeOf 57).run Tryz.prog w=.ok 6 w:=by kernel_rfl
 have hb:(0:Int)≤(k:Int)∧(k:Int)<61:=by omega
 simp [Instr.index,run_underlying hu,asIntOf,hs,hb,hk,Result.andThen,go_sem]
 exact extract_per hz h hk
set_option maxRecDepth 100000 in
set_option maxHeartbeats 4000000 in
theorem answersAt_any (q:Nat) (hq:q<3) (ts:List Int) (s:Sts) (At As:Option Addr) (ct cs:Nat) (a:Int) (w:World) (hT:IntsV w 0 w.heap.size ts At ct) (hR:RepV w 0 w.heap.size s As cs)
  (hTab:TabAt 0 Lib.deBruijn64tab w) (hg:0<w.heap.size) :
  Calls Tryz.prog 39 #[.agg #[.slice At ts.length ct,.slice As s.len cs],.int .i64 a,.iface (qT q) (.agg #[])] w (AnsPer q ts s a w):=by
 have hb0:=((Below.refl w.heap.size w).alloc (Nat.le_refl _) (.cells #[.slice At ts.length ct,.slice As s.len cs] 26)).alloc (by simp) (.cells #[.int .u64 0,.int .u64 0,.int .u64 0,.int .u64 0,.int .u64 0,.int .u64 0] 57)
 have hz0:((w.alloc (.cells #[.slice At ts.length ct,.slice As s.len cs] 26)).alloc (.cells #[.int .u64 0,.int .u64 0,.int .u64 0,.int .u64 0,.int .u64 0,.int .u64 0] 57)).heap.size=w.heap.size+1+1:=by simp
 have hz1:(w.alloc (.cells #[.slice At ts.length ct,.slice As s.len cs] 26)).heap.size=w.heap.size+1:=by simp
 have hre:PerAt ((w.alloc (.cells #[.slice At ts.length ct,.slice As s.len cs] 26)).alloc (.cells #[.int .u64 0,.int .u64 0,.int .u64 0,.int .u64 0,.int .u64 0,.int .u64 0] 57)) (w.alloc (.cells #[.slice At ts.length ct,.slice As s.len cs] 26)).heap.size (fun _=>0):=PerAt.new (w.alloc (.cells #[.slice At ts.length ct,.slice As s.len cs] 26)) (fun _=>0)
 rw [hz1] at hre
 have HZ:=Lib.hid hz0
 have HRE:=Lib.hid hre
 have hiV:Hid ((Tryz.prog.info? 57).map (·.size)=some 6):=by exact (show (Tryz.prog.info? 57).map (·.size)=some 6 from by kernel_rfl)
 have hzero:∀ W:World,Below w.heap.size w W→PerAt W (w.heap.size+1) (fun _=>0)→¬ (validB ts s=true∧0≤a∧a<((progPts s).length:Int))→AnsPer q ts s a w (.returned (.agg (perC (fun _=>0)).toArray)) (W.setCells (w.heap.size+1) 0 (perC (fun _=>0))):=fun W hW hP hn =>
  ⟨fun _=>0,rfl,fun _=>(by decide:(0:Nat)<2305843009213693952),fun v _ l=>nothing_at hn v l,below_setCells hW (by omega) hW.size⟩
 have HZERO:=Lib.hid hzero
 clear hre hz1 hzero
 cases hok:validB ts s
 ·have hS:=flowsOf_no ts s At As ct cs _ hok (hT.below hb0 (by simp;omega)) (hR.below hb0 (by simp;omega))
  have hno:¬ (validB ts s=true∧0≤a∧a<((progPts s).length:Int)):=fun h=>by rw [hok] at h;cases h.1
  have HNO:=Lib.hid hno
  clear hz0 hok hno
  go_enter Tryz.func39,Tryz.ntmps39
  go_wp2_with fail
  refine hS.mono ?_
  rintro E w1 ⟨rfl,hb1⟩
  have HR1:=Lib.hid (HRE.out.keep hb1)
  have hb:Below w.heap.size w w1:=hb0.trans (hb1.mono (by rw [HZ.out];omega))
  have HF:=Lib.hid (HZERO.out w1 hb HR1.out HNO.out)
  have HTH:=Lib.hid HR1.out.there
  have HOUT:=Lib.hid (HR1.out.allRow (fun _=>0))
  clear hb1 hS hb hb0
  go_wp2_with (((with_reducible show wpList _ _ _ _ _ _);refine wpList_store_mid rfl 57 _ _ rfl (w.heap.size+1) 0 (perC (fun _=>0)).toArray rfl rfl ?_ hiV.out (perC_one _) ?_;exact HTH.out))
  refine bodyPost_ret (v:=.agg (perC (fun _=>0)).toArray) ?_ rfl HF.out
  exact results_cell rfl Tryz.prog _ _ (w.heap.size+1) _ rfl (load_per HOUT.out rfl)
 ·have hS:=flowsOf_yes ts s At As ct cs _ hok (hT.below hb0 (by simp;omega)) (hR.below hb0 (by simp;omega))
  have hA:=progPts_allTyped hok
  have hD:=progPts_ok s (valid_ok hok).2.1
  by_cases hin:0≤a∧a<((progPts s).length:Int)
  ·obtain ⟨h0,h1⟩:=hin
   obtain ⟨k,rfl⟩:∃ k:Nat,a=(k:Int):=⟨a.toNat,by omega⟩
   have hmk:∀ v l,TrB q ts (progPts s) k v l↔TrAt q ts (validB ts s) s (k:Int) v l:=fun v l=>⟨fun h=>⟨hok,h0,h1,by rw [Int.toNat_natCast];exact h⟩,fun h=>by have h9:=h.2.2.2;rw [Int.toNat_natCast] at h9;exact h9⟩
   generalize progPts s=ds at hS h1 hA hD hmk
   generalize s.npts=zq at hD
   have hkl:k<ds.length:=by omega
   have HD:=Lib.hid hD
   have HA:=Lib.hid hA
   have HMK:=Lib.hid hmk
   clear hz0 hok hA hD hT hR hmk
   go_enter Tryz.func39,Tryz.ntmps39
   go_wp2_with fail
   refine hS.mono ?_
   rintro E w1 ⟨C,F,hi,A2,c2,ah,bk,rfl,hF,hfl,hb1⟩
   have HR1:=Lib.hid (HRE.out.keep hb1)
   have HB:=Lib.hid (hb0.trans (hb1.mono (by rw [HZ.out];omega)))
   have hgc:=hfl.grCell
   have hhas:=has_yes C k ds w1 hfl.gr hkl
   have HFL:=Lib.hid hfl
   have hk61:k<61:=by have:=hfl.gr.le;omega
   clear hfl hb1 hS hb0
   go_wp2_with fail
   refine hhas.mono ?_
   rintro E w2 ⟨rfl,hb2⟩
   have HFL2:=Lib.hid (HFL.out.keep hb2)
   have HB2:=Lib.hid (HB.out.trans (hb2.mono HB.out.size))
   have HR2:=Lib.hid (HR1.out.keep hb2)
   have htr:=traced_any q hq ts ds zq C F hi A2 c2 ah bk w2 HFL2.out HD.out HA.out (tab_below hTab hg HB2.out) (by have:=HB2.out.size;omega)
   clear hhas hb2 hgc HFL HB HR1
   go_wp2_with fail
   refine htr.mono ?_
   rintro E w5 ⟨csK,kn,rfl,k2,k3,k4,hb5⟩
   have HR5:=Lib.hid (HR2.out.keep hb5)
   have HB5:=Lib.hid (HB2.out.trans (hb5.mono HB2.out.size))
   have ki0:(0:Int)≤(k:Int):=by omega
   have ki1:(k:Int)<61:=by omega
   clear htr hb5
   have hix:=index_per k2 k3 hk61 w5
   obtain ⟨x,hx⟩:∃ x,x=kn k:=⟨_,rfl⟩
   rw [← hx] at hix
   have HTH:=Lib.hid HR5.out.there
   have HOUT:=Lib.hid (HR5.out.allRow x)
   have HF:Hid (AnsPer q ts s (k:Int) w (.returned (.agg (perC x).toArray)) (w5.setCells (w.heap.size+1) 0 (perC x))):=Lib.hid ⟨x,rfl,fun v=>by rw [hx];exact k4.lt k v,fun v hv l=>by rw [hx];exact (k4.last (fun _ h=>h) (fun a b he=>eN_lt he) (fun k v l h=>genT_place q ds k v l h) (fun k u v l h=>handT_place q ts ds k u v l h) hkl hv).trans (HMK.out v l),below_setCells HB5.out (by omega) HB5.out.size⟩
   clear hx k2 k3 k4 HR5 HB5
   go_wp2_with (first
    | ((with_reducible show wpList _ _ _ _ _ _);refine wpList_store_mid rfl 57 _ _ rfl (w.heap.size+1) 0 (perC x).toArray rfl rfl ?_ hiV.out (perC_one _) ?_;exact HTH.out))
   refine bodyPost_ret (v:=.agg (perC x).toArray) ?_ rfl HF.out
   exact results_cell rfl Tryz.prog _ _ (w.heap.size+1) _ rfl (load_per HOUT.out rfl)
  ·have hno:¬ (validB ts s=true∧0≤a∧a<((progPts s).length:Int)):=fun h=>hin h.2
   have hr:a<0∨((progPts s).length:Int)≤a:=by
    by_cases h0:a<0
    ·exact .inl h0
    ·rcases Int.lt_or_le a ((progPts s).length:Int) with h1 | h1
     ·exact absurd ⟨by omega,h1⟩ hin
     ·exact .inr h1
   have HNO:=Lib.hid hno
   generalize progPts s=ds at hS hr
   clear hz0 hok hin hA hD hT hR hno
   go_enter Tryz.func39,Tryz.ntmps39
   go_wp2_with fail
   refine hS.mono ?_
   rintro E w1 ⟨C,F,hi,A2,c2,ah,bk,rfl,hF,hfl,hb1⟩
   have HR1:=Lib.hid (HRE.out.keep hb1)
   have HB:=Lib.hid (hb0.trans (hb1.mono (by rw [HZ.out];omega)))
   have hgc:=hfl.grCell
   have hhas:=has_no C a ds w1 hfl.gr hr
   clear hfl hb1 hS hb0 hr
   go_wp2_with fail
   refine hhas.mono ?_
   rintro E w2 ⟨rfl,hb2⟩
   have HB2:=Lib.hid (HB.out.trans (hb2.mono HB.out.size))
   have HR2:=Lib.hid (HR1.out.keep hb2)
   have HF:=Lib.hid (HZERO.out w2 HB2.out HR2.out HNO.out)
   have HTH:=Lib.hid HR2.out.there
   have HOUT:=Lib.hid (HR2.out.allRow (fun _=>0))
   clear hhas hb2 hgc HB HR1
   go_wp2_with (((with_reducible show wpList _ _ _ _ _ _);refine wpList_store_mid rfl 57 _ _ rfl (w.heap.size+1) 0 (perC (fun _=>0)).toArray rfl rfl ?_ hiV.out (perC_one _) ?_;exact HTH.out))
   refine bodyPost_ret (v:=.agg (perC (fun _=>0)).toArray) ?_ rfl HF.out
   exact results_cell rfl Tryz.prog _ _ (w.heap.size+1) _ rfl (load_per HOUT.out rfl)
end Go.Proofs.YtofcdecpipgmjaaGreatDoor.tr
namespace Go.Proofs.YtofcdecpipgmjaaGreatDoor.tr
open Go.RowKit Go.Deep
set_option linter.unusedVariables false
def TrIn (q:Nat) (ts:List Int) (v:Int) (ns:List Nd) (k l:Nat):Prop:=0≤v∧v<6∧TrB q ts ns k v.toNat l
theorem trIn_lt {q:Nat} {ts:List Int} {v:Int} {ns:List Nd} {k l:Nat} (hA:AllTyped ts ns) (hle:ns.length≤61) (h:TrIn q ts v ns k l):l<64∧v<ts.length:=by
 have h9:=TrB.dom hA h.2.2
 have h8:=h9.2
 refine ⟨?_,by have:=h.1;omega⟩
 unfold szQ at h8
 split at h8
 ·omega
 ·split at h8 <;> omega
theorem nil_of {x:Nat} (h:∀ l,¬ x.testBit l=true):x=0:=Nat.eq_of_testBit_eq fun i=>by
 have:=h i
 simp only [Nat.zero_testBit]
 cases hx:x.testBit i
 ·rfl
 ·exact absurd hx this
theorem ans_of {q:Nat} {ts:List Int} {s:Sts} {a v:Int} {x:Nat→Nat} (hx:∀ u,u<6→∀ l,(bitR x u l↔TrAt q ts (validB ts s) s a u l)):AnsAt (TrIn q ts v) (validB ts s) s a (intsOf (ofZ x v)):=by
 have hbit:∀ l,(ofZ x v).testBit l=true↔0≤v∧v<6∧TrAt q ts (validB ts s) s a v.toNat l:=fun l=>by
  unfold ofZ
  by_cases hv:0≤v∧v≤5
  ·rw [if_pos hv]
   exact (hx v.toNat (by omega) l).trans ⟨fun h=>⟨hv.1,by omega,h⟩,fun h=>h.2.2⟩
  ·rw [if_neg hv]
   constructor
   ·intro h
    simp at h
   ·intro h
    exact absurd ⟨h.1,by omega⟩ hv
 by_cases hin:validB ts s=true∧0≤a∧a<((progPts s).length:Int)
 ·have hle:(progPts s).length≤61:=by
   have h8:=s.npts_le
   have h9:=valid_size hin.1
   rw [progPts_len]
   omega
  refine .inl ⟨hin.1,hin.2.1,hin.2.2,fun j=>(ofZ x v).testBit j,by unfold intsOf;rw [bitsOf_filter],fun l=>?_⟩
  constructor
  ·intro h
   have h9:=(hbit l).mp h.2
   exact ⟨h9.1,h9.2.1,h9.2.2.2.2.2⟩
  ·intro h
   exact ⟨(trIn_lt (progPts_allTyped hin.1) hle h).1,(hbit l).mpr ⟨h.1,h.2.1,hin.1,hin.2.1,hin.2.2,h.2.2⟩⟩
 ·refine .inr ⟨hin,?_⟩
  rw [nil_of (x:=ofZ x v) fun l h=>hin (by have h9:=((hbit l).mp h).2.2;exact ⟨h9.1,h9.2.1,h9.2.2.1⟩)]
  rfl
theorem ofZ_lt {x:Nat→Nat} (hx:∀ v,x v<2305843009213693952) (v:Int):ofZ x v<18446744073709551616:=by
 unfold ofZ
 split
 ·exact Nat.lt_trans (hx _) (by decide)
 ·decide
set_option maxRecDepth 100000 in
set_option maxHeartbeats 2000000 in
theorem implCellsOf_any (ts:List Int) (s:Sts) (At As:Option Addr) (ct cs:Nat) (a v:Int) (w:World) (hT:IntsV w 0 w.heap.size ts At ct) (hR:RepV w 0 w.heap.size s As cs) (hTab:TabAt 0 Lib.deBruijn64tab w) (hg:0<w.heap.size) :
  Calls Tryz.prog 13 #[.agg #[.slice At ts.length ct,.slice As s.len cs],.int .i64 a,.int .i64 v] w fun E w'=>∃ v' l,E=.returned v'∧RowI w' w.heap.size v' l∧AnsAt (TrIn 0 ts v) (validB ts s) s a l∧Below w.heap.size w w':=by
 have hb0:=(Below.refl w.heap.size w).alloc (Nat.le_refl _) (.cells #[.slice At ts.length ct,.slice As s.len cs] 26)
 have hz0:(w.alloc (.cells #[.slice At ts.length ct,.slice As s.len cs] 26)).heap.size=w.heap.size+1:=by simp
 have hat:Calls Tryz.prog 39 #[.agg #[.slice At ts.length ct,.slice As s.len cs],.int .i64 a,.iface 60 (.agg #[])] (w.alloc (.cells #[.slice At ts.length ct,.slice As s.len cs] 26)) (AnsPer 0 ts s a (w.alloc (.cells #[.slice At ts.length ct,.slice As s.len cs] 26))):=answersAt_any 0 (by decide) ts s At As ct cs a _ (hT.below hb0 (by simp)) (hR.below hb0 (by simp)) (tab_below hTab hg hb0) (by rw [hz0];omega)
 have HZ:=Lib.hid hz0
 clear hz0 hT hR
 go_enter Tryz.func13,Tryz.ntmps13
 go_wp2_with fail
 refine hat.mono ?_
 rintro E w1 ⟨x,rfl,hx,hbit,hb1⟩
 rw [HZ.out] at hb1
 have HB1:=Lib.hid (hb0.trans (hb1.mono (by omega)))
 have HANS:=Lib.hid (ans_of (v:=v) hbit)
 have hof:=of_any x v w1
 have HLT:=Lib.hid (ofZ_lt hx v)
 clear hat hb1 hb0 hbit hx
 obtain ⟨y,hy⟩:∃ y,y=ofZ x v:=⟨_,rfl⟩
 rw [← hy] at hof HANS HLT
 clear hy
 go_wp2_with fail
 refine hof.mono ?_
 rintro E w2 ⟨rfl,hb2⟩
 have HB2:=Lib.hid (HB1.out.trans (hb2.mono HB1.out.size))
 have hls:=setList_any y HLT.out w2 (tab_below hTab hg HB2.out) (by have:=HB2.out.size;omega)
 clear hof hb2 HB1
 go_wp2_with fail
 refine hls.mono ?_
 rintro E w5 ⟨v',rfl,hrow,hb5⟩
 have HROW:=Lib.hid (hrow.mono HB2.out.size)
 have HB5:=Lib.hid (HB2.out.trans (hb5.mono HB2.out.size))
 clear hls hrow hb5
 go_wp2_with fail
 go_ret
 exact ⟨v',intsOf y,rfl,HROW.out,HANS.out,HB5.out⟩
end Go.Proofs.YtofcdecpipgmjaaGreatDoor.tr
