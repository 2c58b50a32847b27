/- What a point does with variables,by the program. -/
import Derived.Test.YtedkkphogeealaaGreatDoorPKinds
import Derived.Test.YtedkkphogeealaaGreatDoorPBase
import Derived.Test.YtedkkphogeealaaGreatDoorPMem
import Derived.StillTailTactics
import Derived.Deep.RegionHeld3
import Derived.Test.YtedkkphogeealaaGreatDoorPStmtY
import Derived.Deep.Upon
namespace Go.Proofs.YtedkkphogeealaaGreatDoor
open Go.RowKit Go.Deep
set_option linter.unusedVariables false
set_option maxRecDepth 100000
set_option maxHeartbeats 8000000
def efV (e:Ef):Value:=.agg #[.int .u64 (e.r:Int),.int .u64 (e.t:Int),.int .u64 (e.c:Int),.int .u64 (e.s:Int)]
def ndV (d:Nd) (p0 p1 p2:Int):Value:=.agg #[.int .i64 d.op,.int .i64 d.x,.int .i64 d.y,.int .i64 d.n,.int .i64 p0,.int .i64 p1,.int .i64 p2]
theorem held_W {B K:Nat} {w1 wo w':World} {b0 b1 b2:Value} (hb:Below wo.heap.size wo w') (h:Below K w1 wo) (hK:K=w1.heap.size) (hB:B<w1.heap.size)
  (q0:w1.cell? ⟨B,0,none⟩=some b0) (q1:w1.cell? ⟨B,1,none⟩=some b1) (q2:w1.cell? ⟨B,2,none⟩=some b2) :
  Below K w1 w'∧w'.cell? ⟨B,0,none⟩=some b0∧w'.cell? ⟨B,1,none⟩=some b1∧w'.cell? ⟨B,2,none⟩=some b2:=by
 subst hK
 have hbb:Below w1.heap.size w1 w':=h.trans (hb.mono h.size)
 exact ⟨hbb,(hbb.cell hB).trans q0,(hbb.cell hB).trans q1,(hbb.cell hB).trans q2⟩
theorem two_new (w:World) (o1 o2:Obj):Below w.heap.size w ((w.alloc o1).alloc o2)∧((w.alloc o1).alloc o2).heap.size=w.heap.size+2∧((w.alloc o1).alloc o2).heap[w.heap.size]?=some o1∧((w.alloc o1).alloc o2).heap[w.heap.size+1]?=some o2:=by
 have hz:(w.alloc o1).heap.size=w.heap.size+1:=by simp
 refine ⟨((Below.refl w.heap.size w).alloc (Nat.le_refl _) o1).alloc (by simp) o2,by simp,?_,?_⟩
 ·exact (((Below.refl (w.heap.size+1) (w.alloc o1)).alloc (by omega) o2).block _ (by omega)).trans (heap_alloc_new w o1)
 ·have:=heap_alloc_new (w.alloc o1) o2
  rw [hz] at this
  exact this
theorem below_set {B b o:Nat} {w w':World} {v:Value} (h:Below B w w') (hb:B≤b):Below B w (w'.setCell ⟨b,o,none⟩ v) :=
 ⟨h.os,h.tape,h.output,by have:=h.size;simpa [World.setCell] using this,fun k hk=>(heap_setCell_other _ _ _ _ (by simp;omega)).trans (h.block k hk)⟩
theorem four_set {w:World} {b:Nat} {z0 z1 z2 z3 a0 a1 a2 a3:Value} {t:TypeId} (h:w.heap[b]?=some (.cells #[z0,z1,z2,z3] t (0,0))) :
  ((((w.setCell ⟨b,0,none⟩ a0).setCell ⟨b,1,none⟩ a1).setCell ⟨b,2,none⟩ a2).setCell ⟨b,3,none⟩ a3).cell? ⟨b,0,none⟩=some a0 ∧
  ((((w.setCell ⟨b,0,none⟩ a0).setCell ⟨b,1,none⟩ a1).setCell ⟨b,2,none⟩ a2).setCell ⟨b,3,none⟩ a3).cell? ⟨b,1,none⟩=some a1 ∧
  ((((w.setCell ⟨b,0,none⟩ a0).setCell ⟨b,1,none⟩ a1).setCell ⟨b,2,none⟩ a2).setCell ⟨b,3,none⟩ a3).cell? ⟨b,2,none⟩=some a2 ∧
  ((((w.setCell ⟨b,0,none⟩ a0).setCell ⟨b,1,none⟩ a1).setCell ⟨b,2,none⟩ a2).setCell ⟨b,3,none⟩ a3).cell? ⟨b,3,none⟩=some a3:=by
 have h1:=heap_setCell_same w b 0 _ t a0 h
 have h2:=heap_setCell_same _ b 1 _ t a1 h1
 have h3:=heap_setCell_same _ b 2 _ t a2 h2
 have h4:=heap_setCell_same _ b 3 _ t a3 h3
 exact ⟨(cB h4 0).trans rfl,(cB h4 1).trans rfl,(cB h4 2).trans rfl,(cB h4 3).trans rfl⟩
theorem with0_any (i:Nat) (hi:i<64) (w:World) :
  Calls Tryz.prog 114 #[.int .u64 0,.int .i64 i] w fun E w'=>E=.returned (.int .u64 ((2 ^ i:Nat):Int))∧Below w.heap.size w w':=by
 have h:=with_any 0 i (by decide) hi w
 rw [Nat.zero_or] at h
 exact h
theorem effectOf_any (ts:List Int) (A:Option Addr) (c:Nat) (op n p0 p1 p2:Int) (x y:Nat) (nx:List Int) (w:World) (hT:IntsV w 0 w.heap.size ts A c) (hx:x≤5) (hy:y≤5) :
  Calls Tryz.prog 111 #[.agg #[.int .i64 op,.int .i64 x,.int .i64 y,.int .i64 n,.int .i64 p0,.int .i64 p1,.int .i64 p2],.slice A ts.length c] w fun E w'=>E=.returned (efV (effD ts ⟨op,x,y,n,nx⟩))∧Below w.heap.size w w':=by
 obtain ⟨hb0,hz,hB1,hB2⟩:=two_new w (.cells #[.int .i64 op,.int .i64 x,.int .i64 y,.int .i64 n,.int .i64 p0,.int .i64 p1,.int .i64 p2] 130) (.cells #[.int .u64 0,.int .u64 0,.int .u64 0,.int .u64 0] 102)
 have hwx:=fun W=>with0_any x (by omega) W
 have hwy:=fun W=>with0_any y (by omega) W
 have hEf:efV (effD ts ⟨op,x,y,n,nx⟩)=efV (effD ts ⟨op,x,y,n,nx⟩):=rfl
 obtain ⟨X,hX⟩:∃ X,X=2 ^ x:=⟨_,rfl⟩
 obtain ⟨Y,hY⟩:∃ Y,Y=2 ^ y:=⟨_,rfl⟩
 rw [← hX] at hwx
 rw [← hY] at hwy
 have HX:=Lib.hid hX
 have HY:=Lib.hid hY
 clear hX hY hEf
 go_enter Tryz.func111,Tryz.ntmps111
 go_wp2_with fail
 generalize hw1:(w.alloc (.cells #[.int .i64 op,.int .i64 x,.int .i64 y,.int .i64 n,.int .i64 p0,.int .i64 p1,.int .i64 p2] 130)).alloc (.cells #[.int .u64 0,.int .u64 0,.int .u64 0,.int .u64 0] 102)=w1 at *
 clear hw1
 have q0:w1.cell? ⟨w.heap.size,0,none⟩=some (.int .i64 op):=(cB hB1 0).trans rfl
 have q1:w1.cell? ⟨w.heap.size,1,none⟩=some (.int .i64 x):=(cB hB1 1).trans rfl
 have q2:w1.cell? ⟨w.heap.size,2,none⟩=some (.int .i64 y):=(cB hB1 2).trans rfl
 have HB2:=Lib.hid hB2
 have hz1:w.heap.size<w1.heap.size:=by omega
 clear hB1 hB2
 go_region_held3 (fun w'=>Below w1.heap.size w1 w'∧w'.cell? ⟨w.heap.size,0,none⟩=some (.int .i64 op)∧w'.cell? ⟨w.heap.size,1,none⟩=some (.int .i64 x)∧w'.cell? ⟨w.heap.size,2,none⟩=some (.int .i64 y))
   (first | exact ⟨(Below.refl w1.heap.size w1).drew,q0,q1,q2⟩ | exact held_W hbn (And.left ‹Below w1.heap.size w1 _∧_›) rfl hz1 q0 q1 q2)
   (first | (go_at_call 114;refine (hwx _).mono ?_;rintro E w' ⟨rfl,hbn⟩) | (go_at_call 114;refine (hwy _).mono ?_;rintro E w' ⟨rfl,hbn⟩))
 obtain ⟨hb2,r0,r1,r2⟩:=‹Below w1.heap.size w1 w'∧_›
 have hb3:Below w.heap.size w w':=hb0.trans (hb2.mono (by omega))
 have hB3:=(hb2.block (w.heap.size+1) (by omega)).trans HB2.out
 have HB3:=Lib.hid hB3
 have e0:w'.cell? ⟨w.heap.size+1,0,none⟩=some (.int .u64 0):=(cB hB3 0).trans rfl
 have e1:w'.cell? ⟨w.heap.size+1,1,none⟩=some (.int .u64 0):=(cB hB3 1).trans rfl
 have e2:w'.cell? ⟨w.heap.size+1,2,none⟩=some (.int .u64 0):=(cB hB3 2).trans rfl
 have e3:w'.cell? ⟨w.heap.size+1,3,none⟩=some (.int .u64 0):=(cB hB3 3).trans rfl
 have f0:∀ j,w'.frozen? ⟨w.heap.size+1,j,none⟩=false:=fun j=>frozen_of_row _ _ _ _ _ hB3
 clear hB3 q0 q1 q2 hb2 hb0
 by_cases o1:op=1
 ·subst o1
  go_wp2_with fail
  obtain ⟨c0,c1,c2,c3⟩:=four_set (a0:=.int .u64 0) (a1:=.int .u64 0) (a2:=.int .u64 0) (a3:=.int .u64 (X:Int)) HB3.out
  refine bodyPost_ret (v:=.agg #[.int .u64 0,.int .u64 0,.int .u64 0,.int .u64 (X:Int)]) (by simp [results,Tryz.results111,go_sem,c0,c1,c2,c3]) rfl ⟨by rw [show effD ts ⟨1,x,y,n,nx⟩=⟨0,0,0,X⟩ from by simp [effD,HX.out]];rfl,below_set (below_set (below_set (below_set hb3 (by omega)) (by omega)) (by omega)) (by omega)⟩
 by_cases o2:op=2
 ·subst o2
  go_wp2_with fail
  obtain ⟨c0,c1,c2,c3⟩:=four_set (a0:=.int .u64 0) (a1:=.int .u64 0) (a2:=.int .u64 0) (a3:=.int .u64 (X:Int)) HB3.out
  refine bodyPost_ret (v:=.agg #[.int .u64 0,.int .u64 0,.int .u64 0,.int .u64 (X:Int)]) (by simp [results,Tryz.results111,go_sem,c0,c1,c2,c3]) rfl ⟨by rw [show effD ts ⟨2,x,y,n,nx⟩=⟨0,0,0,X⟩ from by simp [effD,HX.out]];rfl,below_set (below_set (below_set (below_set hb3 (by omega)) (by omega)) (by omega)) (by omega)⟩
 by_cases o3:op=3
 ·subst o3
  have hT3:IntsV w' 0 w'.heap.size ts A c:=hT.below hb3 hb3.size
  have ht:=typeOf_any ts A c y w' hT3
  go_wp2_with fail
  refine ht.mono ?_
  rintro E w5 ⟨rfl,rfl⟩
  go_wp2_with fail
  refine (writesCell_any _ _).mono ?_
  rintro E w5 ⟨rfl,rfl⟩
  by_cases hty:tyAt ts y=2∨tyAt ts y=4
  ·have hd:decide (tyAt ts y=2∨tyAt ts y=4)=true:=decide_eq_true hty
   have he:effD ts ⟨3,x,y,n,nx⟩=⟨0,Y,0,X⟩:=by simp [effD,HX.out,HY.out,hty]
   have HE:=Lib.hid he
   clear he hty ht
   go_wp2_with (simp only [hd])
   obtain ⟨c0,c1,c2,c3⟩:=four_set (a0:=.int .u64 0) (a1:=.int .u64 (Y:Int)) (a2:=.int .u64 0) (a3:=.int .u64 (X:Int)) HB3.out
   refine bodyPost_ret (v:=.agg #[.int .u64 0,.int .u64 (Y:Int),.int .u64 0,.int .u64 (X:Int)]) (by simp [results,Tryz.results111,go_sem,c0,c1,c2,c3]) rfl ⟨by rw [HE.out];rfl,below_set (below_set (below_set (below_set hb3 (by omega)) (by omega)) (by omega)) (by omega)⟩
  ·have hd:decide (tyAt ts y=2∨tyAt ts y=4)=false:=decide_eq_false hty
   have he:effD ts ⟨3,x,y,n,nx⟩=⟨Y,0,0,X⟩:=by simp [effD,HX.out,HY.out,hty]
   have HE:=Lib.hid he
   clear he hty ht
   go_wp2_with (simp only [hd])
   obtain ⟨c0,c1,c2,c3⟩:=four_set (a0:=.int .u64 (Y:Int)) (a1:=.int .u64 0) (a2:=.int .u64 0) (a3:=.int .u64 (X:Int)) HB3.out
   refine bodyPost_ret (v:=.agg #[.int .u64 (Y:Int),.int .u64 0,.int .u64 0,.int .u64 (X:Int)]) (by simp [results,Tryz.results111,go_sem,c0,c1,c2,c3]) rfl ⟨by rw [HE.out];rfl,below_set (below_set (below_set (below_set hb3 (by omega)) (by omega)) (by omega)) (by omega)⟩
 by_cases o4:op=4
 ·subst o4
  go_wp2_with fail
  obtain ⟨c0,c1,c2,c3⟩:=four_set (a0:=.int .u64 0) (a1:=.int .u64 0) (a2:=.int .u64 (Y:Int)) (a3:=.int .u64 (X:Int)) HB3.out
  refine bodyPost_ret (v:=.agg #[.int .u64 0,.int .u64 0,.int .u64 (Y:Int),.int .u64 (X:Int)]) (by simp [results,Tryz.results111,go_sem,c0,c1,c2,c3]) rfl ⟨by rw [show effD ts ⟨4,x,y,n,nx⟩=⟨0,0,Y,X⟩ from by simp [effD,HX.out,HY.out]];rfl,below_set (below_set (below_set (below_set hb3 (by omega)) (by omega)) (by omega)) (by omega)⟩
 by_cases o5:op=5
 ·subst o5
  go_wp2_with fail
  obtain ⟨c0,c1,c2,c3⟩:=four_set (a0:=.int .u64 0) (a1:=.int .u64 0) (a2:=.int .u64 (Y:Int)) (a3:=.int .u64 (X:Int)) HB3.out
  refine bodyPost_ret (v:=.agg #[.int .u64 0,.int .u64 0,.int .u64 (Y:Int),.int .u64 (X:Int)]) (by simp [results,Tryz.results111,go_sem,c0,c1,c2,c3]) rfl ⟨by rw [show effD ts ⟨5,x,y,n,nx⟩=⟨0,0,Y,X⟩ from by simp [effD,HX.out,HY.out]];rfl,below_set (below_set (below_set (below_set hb3 (by omega)) (by omega)) (by omega)) (by omega)⟩
 by_cases o6:op=6
 ·subst o6
  go_wp2_with fail
  obtain ⟨c0,c1,c2,c3⟩:=four_set (a0:=.int .u64 0) (a1:=.int .u64 0) (a2:=.int .u64 (Y:Int)) (a3:=.int .u64 (X:Int)) HB3.out
  refine bodyPost_ret (v:=.agg #[.int .u64 0,.int .u64 0,.int .u64 (Y:Int),.int .u64 (X:Int)]) (by simp [results,Tryz.results111,go_sem,c0,c1,c2,c3]) rfl ⟨by rw [show effD ts ⟨6,x,y,n,nx⟩=⟨0,0,Y,X⟩ from by simp [effD,HX.out,HY.out]];rfl,below_set (below_set (below_set (below_set hb3 (by omega)) (by omega)) (by omega)) (by omega)⟩
 by_cases o7:op=7
 ·subst o7
  go_wp2_with fail
  obtain ⟨c0,c1,c2,c3⟩:=four_set (a0:=.int .u64 (Y:Int)) (a1:=.int .u64 0) (a2:=.int .u64 (X:Int)) (a3:=.int .u64 0) HB3.out
  refine bodyPost_ret (v:=.agg #[.int .u64 (Y:Int),.int .u64 0,.int .u64 (X:Int),.int .u64 0]) (by simp [results,Tryz.results111,go_sem,c0,c1,c2,c3]) rfl ⟨by rw [show effD ts ⟨7,x,y,n,nx⟩=⟨Y,0,X,0⟩ from by simp [effD,HX.out,HY.out]];rfl,below_set (below_set (below_set (below_set hb3 (by omega)) (by omega)) (by omega)) (by omega)⟩
 by_cases o8:op=8
 ·subst o8
  go_wp2_with fail
  obtain ⟨c0,c1,c2,c3⟩:=four_set (a0:=.int .u64 0) (a1:=.int .u64 (X:Int)) (a2:=.int .u64 0) (a3:=.int .u64 0) HB3.out
  refine bodyPost_ret (v:=.agg #[.int .u64 0,.int .u64 (X:Int),.int .u64 0,.int .u64 0]) (by simp [results,Tryz.results111,go_sem,c0,c1,c2,c3]) rfl ⟨by rw [show effD ts ⟨8,x,y,n,nx⟩=⟨0,X,0,0⟩ from by simp [effD,HX.out]];rfl,below_set (below_set (below_set (below_set hb3 (by omega)) (by omega)) (by omega)) (by omega)⟩
 have b1:(op==1)=false:=by simp [o1]
 have b2:(op==2)=false:=by simp [o2]
 have b3:(op==3)=false:=by simp [o3]
 have b4:(op==4)=false:=by simp [o4]
 have b5:(op==5)=false:=by simp [o5]
 have b6:(op==6)=false:=by simp [o6]
 have b7:(op==7)=false:=by simp [o7]
 have b8:(op==8)=false:=by simp [o8]
 have he:effD ts ⟨op,x,y,n,nx⟩=⟨0,0,0,0⟩:=by simp [effD,o1,o2,o3,o4,o5,o6,o7,o8]
 have HE:=Lib.hid he
 clear o1 o2 o3 o4 o5 o6 o7 o8 he
 go_wp2_with fail
 obtain ⟨c0,c1,c2,c3⟩:=four_set (a0:=.int .u64 0) (a1:=.int .u64 0) (a2:=.int .u64 0) (a3:=.int .u64 0) HB3.out
 refine bodyPost_ret (v:=.agg #[.int .u64 0,.int .u64 0,.int .u64 0,.int .u64 0]) (by simp [results,Tryz.results111,go_sem,c0,c1,c2,c3]) rfl ⟨by rw [HE.out];rfl,below_set (below_set (below_set (below_set hb3 (by omega)) (by omega)) (by omega)) (by omega)⟩
theorem last_any (C q:Nat) (ns:List Nd) (w:World) (hG:Gr C w ns) (hq:ns.length=q+1) :
  Calls Tryz.prog 132 #[.pointer (some ⟨C,0,none⟩)] w fun E w'=>E=.returned (.int .i64 q)∧Below w.heap.size w w':=by
 have hc:=hG.count
 have hle:=hG.le
 rw [hq] at hc
 have e:((q+1:Nat):Int)=(q:Int)+1:=by omega
 rw [e] at hc
 have e2:((q:Int)+1-1)=q:=by omega
 clear hG
 go_enter Tryz.func132,Tryz.ntmps132
 go_wp2_with fail
 try simp only [e2]
 go_ret
 exact ⟨rfl,by first | exact Below.refl _ _ | exact (Below.refl _ _).drew⟩
def firstSet (n:Nat):Nat:=2 ^ n-1
def coursV (first n:Nat) (xs:Array Value):Value:=.agg (#[.int .i64 first,.int .u64 (firstSet n)]++xs)
def CoursPost (ns:List Nd) (w:World) (E:Ending) (w':World):Prop:=∃ (xs ys:Array Value) (ah bk:Nat→Nat),E=.returned (.tuple #[coursV 0 ns.length xs,coursV (ns.length-1) ns.length ys])∧SetRow xs ah∧SetRow ys bk∧Sets2 (Edge ns ns.length 0) ah bk∧Below w.heap.size w w'
theorem heap_setCells {b:Nat} {t:TypeId}:∀ (vs:List Value) (o:Nat) (w:World) (cs:Array Value),w.heap[b]?=some (.cells cs t (0,0))→o+vs.length≤cs.size→(w.setCells b o vs).heap[b]?=some (.cells (setN cs o vs) t (0,0))
 | [],o,w,cs,h,_=>h
 | v :: vs,o,w,cs,h,hz=>by
  rw [World.setCells,setN]
  simp only [List.length_cons] at hz
  exact heap_setCells vs (o+1) _ _ (heap_setCell_same w b o cs t v h) (by simp;omega)
theorem setN_all (cs xs:Array Value) (h:cs.size=xs.size):setN cs 0 xs.toList=xs:=by
 apply Array.ext_getElem?
 intro i
 rw [setN_get _ _ _ _ (by simp;omega)]
 by_cases hi:i<xs.size
 ·rw [if_pos ⟨Nat.zero_le _,by simpa using hi⟩]
  simp
 ·rw [if_neg (by simp;omega),Array.getElem?_eq_none (by omega),Array.getElem?_eq_none (by omega)]
theorem there_row {W:World} {g n:Nat} {cs:Array Value} {t:TypeId} (h:W.heap[g]?=some (.cells cs t (0,0))) (hz:cs.size=n):W.there g 0 n:=by
 intro j hj
 rw [Nat.zero_add]
 refine ⟨?_,frozen_of_row _ _ _ _ _ h⟩
 rw [cB h,Array.getElem?_eq_getElem (by omega)]
 rfl
theorem range_row {W:World} {g:Nat} {cs:Array Value} {t:TypeId} (h:W.heap[g]?=some (.cells cs t (0,0))):W.rangeAt g 0 cs.toList:=by
 intro j v hj
 rw [Nat.zero_add,cB h]
 simpa using hj
theorem shl_pred (n:Nat) (hn:n≤61):IntKind.u64.wrap (IntKind.u64.wrap ((2:Int) ^ n)-1)=((firstSet n:Nat):Int):=by
 have h1:2 ^ n≤2 ^ 61:=Nat.pow_le_pow_right (by decide) hn
 have h2:1≤2 ^ n:=Nat.one_le_two_pow
 have e:((2 ^ n:Nat):Int)=(2:Int) ^ n:=by simp
 have h3:((2 ^ n-1:Nat):Int)=(2:Int) ^ n-1:=by rw [← e];omega
 unfold firstSet
 rw [h3,← e]
 generalize 2 ^ n=d at *
 rw [IntKind.wrap_u64,IntKind.wrap_u64]
 omega
theorem foldl_zip (o:Nat):∀ (l:List Value) (k:Nat) (cs:Array Value),List.foldl (fun (cs:Array Value) (x:Value × Nat)=>cs.setIfInBounds (o+x.snd) x.fst) cs (l.zipIdx k)=setN cs (o+k) l
 | [],k,cs=>rfl
 | v :: l,k,cs=>by
  rw [List.zipIdx_cons,List.foldl_cons,foldl_zip o l (k+1),setN]
  rfl
theorem foldl_cells (xs:Array Value) (o:Nat) (cs:Array Value) (n:Nat) (hn:xs.size=n):Array.foldl (fun (cs:Array Value) (x:Value × Nat)=>cs.setIfInBounds (o+x.snd) x.fst) cs xs.zipIdx 0 n=setN cs o xs.toList:=by
 have h:=foldl_zip o xs.toList 0 cs
 rw [Nat.add_zero] at h
 rw [← h,← Array.toList_zipIdx,Array.foldl_toList,← hn,← Array.size_zipIdx (xs:=xs) (k:=0)]
theorem cours_lit (a b:Value) (xs:Array Value) (hx:xs.size=61):Array.foldl (fun (cs:Array Value) (x:Value × Nat)=>cs.setIfInBounds (2+x.snd) x.fst) #[a,b,.int .u64 0,.int .u64 0,.int .u64 0,.int .u64 0,.int .u64 0,.int .u64 0,.int .u64 0,.int .u64 0,.int .u64 0,.int .u64 0,.int .u64 0,.int .u64 0,.int .u64 0,.int .u64 0,.int .u64 0,.int .u64 0,.int .u64 0,.int .u64 0,.int .u64 0,.int .u64 0,.int .u64 0,.int .u64 0,.int .u64 0,.int .u64 0,.int .u64 0,.int .u64 0,.int .u64 0,.int .u64 0,.int .u64 0,.int .u64 0,.int .u64 0,.int .u64 0,.int .u64 0,.int .u64 0,.int .u64 0,.int .u64 0,.int .u64 0,.int .u64 0,.int .u64 0,.int .u64 0,.int .u64 0,.int .u64 0,.int .u64 0,.int .u64 0,.int .u64 0,.int .u64 0,.int .u64 0,.int .u64 0,.int .u64 0,.int .u64 0,.int .u64 0,.int .u64 0,.int .u64 0,.int .u64 0,.int .u64 0,.int .u64 0,.int .u64 0,.int .u64 0,.int .u64 0,.int .u64 0,.int .u64 0] xs.zipIdx 0 61=#[a,b]++xs:=by
 rw [foldl_cells xs 2 _ 61 hx]
 apply Array.ext_getElem?
 intro i
 rw [setN_get _ _ _ _ (by simp [hx])]
 by_cases hi:2≤i∧i<2+xs.toList.length
 ·rw [if_pos hi,Array.getElem?_append_right (by simp;omega)]
  simp
 ·rw [if_neg hi]
  have hl:xs.toList.length=61:=by simpa using hx
  by_cases h2:i<2
  ·rw [Array.getElem?_append_left (by simpa using h2)]
   have:i=0∨i=1:=by omega
   rcases this with rfl | rfl <;> rfl
  ·rw [Array.getElem?_eq_none (by simp;omega),Array.getElem?_eq_none (by simp;omega)]
def noCours:Array Value:=#[.int .i64 0,.int .u64 0,.int .u64 0,.int .u64 0,.int .u64 0,.int .u64 0,.int .u64 0,.int .u64 0,.int .u64 0,.int .u64 0,.int .u64 0,.int .u64 0,.int .u64 0,.int .u64 0,.int .u64 0,.int .u64 0,.int .u64 0,.int .u64 0,.int .u64 0,.int .u64 0,.int .u64 0,.int .u64 0,.int .u64 0,.int .u64 0,.int .u64 0,.int .u64 0,.int .u64 0,.int .u64 0,.int .u64 0,.int .u64 0,.int .u64 0,.int .u64 0,.int .u64 0,.int .u64 0,.int .u64 0,.int .u64 0,.int .u64 0,.int .u64 0,.int .u64 0,.int .u64 0,.int .u64 0,.int .u64 0,.int .u64 0,.int .u64 0,.int .u64 0,.int .u64 0,.int .u64 0,.int .u64 0,.int .u64 0,.int .u64 0,.int .u64 0,.int .u64 0,.int .u64 0,.int .u64 0,.int .u64 0,.int .u64 0,.int .u64 0,.int .u64 0,.int .u64 0,.int .u64 0,.int .u64 0,.int .u64 0,.int .u64 0]
theorem cours_one (a:Nat) (b:Nat) (xs:Array Value) (f:Nat→Nat) (hx:SetRow xs f):(#[Value.int .i64 (a:Int),.int .u64 (b:Int)]++xs.toList.toArray).all (·.oneCell')=true:=by
 rw [Array.all_append]
 have h2:xs.toList.toArray=xs:=by simp
 have h1:xs.all (·.oneCell')=true:=by
  rw [Array.all_eq_true_iff_forall_mem]
  intro u hu
  exact sets_one hx.1 f hx.2 u (Array.mem_toList_iff.mpr hu)
 rw [h2,h1]
 simp [Value.oneCell']
structure CoursAt (C:Nat) (ns:List Nd) (w w1:World) (xs ys:Array Value) (w':World):Prop where
 gr:Gr C w' ns
 rowA:w'.heap[w1.heap.size]?=some (.cells xs 104 (0,0))
 rowB:w'.heap[w1.heap.size+1]?=some (.cells ys 104 (0,0))
 outA:∃ cs,w'.heap[w.heap.size]?=some (.cells cs 106 (0,0))∧cs.size=63
 outB:∃ cs,w'.heap[w.heap.size+1]?=some (.cells cs 106 (0,0))∧cs.size=63
 below:Below w.heap.size w w'
 size:w1.heap.size+2≤w'.heap.size
theorem CoursAt.keep {C:Nat} {ns:List Nd} {w w1:World} {xs ys:Array Value} {a b:World} (h:CoursAt C ns w w1 xs ys a) (h1:w.heap.size+2≤w1.heap.size) (hC:C<w.heap.size) (hb:Below a.heap.size a b):CoursAt C ns w w1 xs ys b:=by
 have hs:=h.size
 have hs':=hb.size
 refine ⟨h.gr.kept (hb.block C (by omega)),?_,?_,?_,?_,h.below.trans (hb.mono (by omega)),by omega⟩
 ·rw [hb.block _ (by omega)];exact h.rowA
 ·rw [hb.block _ (by omega)];exact h.rowB
 ·rw [hb.block _ (by omega)];exact h.outA
 ·rw [hb.block _ (by omega)];exact h.outB
theorem size_setCells (b:Nat):∀ (vs:List Value) (o:Nat) (w:World),(w.setCells b o vs).heap.size=w.heap.size
 | [],o,w=>rfl
 | v :: vs,o,w=>by
  rw [World.setCells,size_setCells b vs]
  simp [World.setCell]
theorem tape_setCells (b:Nat):∀ (vs:List Value) (o:Nat) (w:World),(w.setCells b o vs).tape=w.tape
 | [],o,w=>rfl
 | v :: vs,o,w=>by
  rw [World.setCells,tape_setCells b vs]
  rfl
theorem below_setCells {B b o:Nat} {w w':World} {vs:List Value} (h:Below B w w') (hb:B≤b) (hB:B≤w'.heap.size):Below B w (w'.setCells b o vs) :=
 ⟨(World.os_setCells _ _ _ _).trans h.os,(tape_setCells _ _ _ _).trans h.tape,(World.output_setCells _ _ _ _).trans h.output,by rw [size_setCells];exact h.size,fun k hk=>(World.heap_setCells_other _ _ _ _ (by omega) (by omega)).trans (h.block k hk)⟩
theorem CoursAt.putA {C:Nat} {ns:List Nd} {w w1:World} {xs ys:Array Value} {a:World} (h:CoursAt C ns w w1 xs ys a) (h1:w.heap.size+2≤w1.heap.size) (hC:C<w.heap.size) {vs:Array Value} (hv:vs.size=63) :
  CoursAt C ns w w1 xs ys (a.setCells w.heap.size 0 vs.toList)∧(a.setCells w.heap.size 0 vs.toList).heap[w.heap.size]?=some (.cells vs 106 (0,0)):=by
 have hs:=h.size
 obtain ⟨cs,hc,hz⟩:=h.outA
 have hn:=heap_setCells vs.toList 0 a cs hc (by simp [hv,hz])
 rw [setN_all cs vs (by omega)] at hn
 refine ⟨⟨h.gr.kept (World.heap_setCells_other _ _ _ _ (by omega) (by omega)),?_,?_,⟨_,hn,hv⟩,?_,below_setCells h.below (Nat.le_refl _) (by omega),by rw [size_setCells];exact hs⟩,hn⟩
 ·rw [World.heap_setCells_other _ _ _ _ (by omega) (by omega)];exact h.rowA
 ·rw [World.heap_setCells_other _ _ _ _ (by omega) (by omega)];exact h.rowB
 ·rw [World.heap_setCells_other _ _ _ _ (by omega) (by omega)];exact h.outB
theorem CoursAt.putB {C:Nat} {ns:List Nd} {w w1:World} {xs ys:Array Value} {a:World} (h:CoursAt C ns w w1 xs ys a) (h1:w.heap.size+2≤w1.heap.size) (hC:C<w.heap.size) {vs:Array Value} (hv:vs.size=63) :
  CoursAt C ns w w1 xs ys (a.setCells (w.heap.size+1) 0 vs.toList)∧(a.setCells (w.heap.size+1) 0 vs.toList).heap[w.heap.size+1]?=some (.cells vs 106 (0,0))∧(a.setCells (w.heap.size+1) 0 vs.toList).heap[w.heap.size]?=a.heap[w.heap.size]?:=by
 have hs:=h.size
 obtain ⟨cs,hc,hz⟩:=h.outB
 have hn:=heap_setCells vs.toList 0 a cs hc (by simp [hv,hz])
 rw [setN_all cs vs (by omega)] at hn
 refine ⟨⟨h.gr.kept (World.heap_setCells_other _ _ _ _ (by omega) (by omega)),?_,?_,?_,⟨_,hn,hv⟩,below_setCells h.below (by omega) (by omega),by rw [size_setCells];exact hs⟩,hn,World.heap_setCells_other _ _ _ _ (by omega) (by omega)⟩
 ·rw [World.heap_setCells_other _ _ _ _ (by omega) (by omega)];exact h.rowA
 ·rw [World.heap_setCells_other _ _ _ _ (by omega) (by omega)];exact h.rowB
 ·rw [World.heap_setCells_other _ _ _ _ (by omega) (by omega)];exact h.outA
theorem courses_any (C q:Nat) (ns:List Nd) (w:World) (hD:PtsOk q ns) (hG:Gr C w ns) :
  Calls Tryz.prog 112 #[.pointer (some ⟨C,0,none⟩)] w (CoursPost ns w):=by
 have hle:=hG.le
 have hC:=hG.lt
 have hn:=hD.1
 obtain ⟨hb0,hz,hB1,hB2⟩:=two_new w (.cells noCours 106) (.cells noCours 106)
 have HG:=Lib.hid hG
 have HD:=Lib.hid hD
 clear hG hD
 go_enter Tryz.func112,Tryz.ntmps112
 go_wp2_with fail
 unfold noCours at hb0 hz hB1 hB2
 generalize hw0:(w.alloc (.cells #[.int .i64 0,.int .u64 0,.int .u64 0,.int .u64 0,.int .u64 0,.int .u64 0,.int .u64 0,.int .u64 0,.int .u64 0,.int .u64 0,.int .u64 0,.int .u64 0,.int .u64 0,.int .u64 0,.int .u64 0,.int .u64 0,.int .u64 0,.int .u64 0,.int .u64 0,.int .u64 0,.int .u64 0,.int .u64 0,.int .u64 0,.int .u64 0,.int .u64 0,.int .u64 0,.int .u64 0,.int .u64 0,.int .u64 0,.int .u64 0,.int .u64 0,.int .u64 0,.int .u64 0,.int .u64 0,.int .u64 0,.int .u64 0,.int .u64 0,.int .u64 0,.int .u64 0,.int .u64 0,.int .u64 0,.int .u64 0,.int .u64 0,.int .u64 0,.int .u64 0,.int .u64 0,.int .u64 0,.int .u64 0,.int .u64 0,.int .u64 0,.int .u64 0,.int .u64 0,.int .u64 0,.int .u64 0,.int .u64 0,.int .u64 0,.int .u64 0,.int .u64 0,.int .u64 0,.int .u64 0,.int .u64 0,.int .u64 0,.int .u64 0] 106)).alloc (.cells #[.int .i64 0,.int .u64 0,.int .u64 0,.int .u64 0,.int .u64 0,.int .u64 0,.int .u64 0,.int .u64 0,.int .u64 0,.int .u64 0,.int .u64 0,.int .u64 0,.int .u64 0,.int .u64 0,.int .u64 0,.int .u64 0,.int .u64 0,.int .u64 0,.int .u64 0,.int .u64 0,.int .u64 0,.int .u64 0,.int .u64 0,.int .u64 0,.int .u64 0,.int .u64 0,.int .u64 0,.int .u64 0,.int .u64 0,.int .u64 0,.int .u64 0,.int .u64 0,.int .u64 0,.int .u64 0,.int .u64 0,.int .u64 0,.int .u64 0,.int .u64 0,.int .u64 0,.int .u64 0,.int .u64 0,.int .u64 0,.int .u64 0,.int .u64 0,.int .u64 0,.int .u64 0,.int .u64 0,.int .u64 0,.int .u64 0,.int .u64 0,.int .u64 0,.int .u64 0,.int .u64 0,.int .u64 0,.int .u64 0,.int .u64 0,.int .u64 0,.int .u64 0,.int .u64 0,.int .u64 0,.int .u64 0,.int .u64 0,.int .u64 0] 106)=w0 at hb0 hz hB1 hB2 ⊢
 clear hw0
 have hst:=steps_any C q ns w0 HD.out (HG.out.kept (hb0.block C hC))
 refine hst.mono ?_
 rintro E w1 ⟨xs,ys,ah,bk,rfl,hx,hy,hs2,hb1⟩
 have hs1:=hb1.size
 have HG1:=Lib.hid (HG.out.kept ((hb1.block C (by omega)).trans (hb0.block C hC)))
 have hc1:=HG1.out.count
 obtain ⟨W5,W6,s1,s2,hb6,h6a,h6b,hz6⟩:=lay_two w1 xs ys ah bk hx hy
 unfold noSets at s1
 have hxz:=hx.1
 have hyz:=hy.1
 have HX:=Lib.hid hx
 have HY:=Lib.hid hy
 have HS:=Lib.hid hs2
 have hb16:Below w0.heap.size w0 W6:=hb1.trans (hb6.mono (by omega))
 have HG6:=Lib.hid (HG1.out.kept (hb6.block C (by omega)))
 have hc6:=HG6.out.count
 have hlast:=last_any C q ns W6 HG6.out hn
 clear hx hy hs2 hst hc1
 go_wp2_with fail
 have hsetn:IntKind.u64.wrap (IntKind.u64.wrap ((2:Int) ^ (q+1))-1)=((firstSet (q+1):Nat):Int):=shl_pred (q+1) (by omega)
 rw [hsetn]
 have hu:=Tryz.underlying104
 have hsz:(Tryz.prog.info? 104).map (·.size)=some 61:=by kernel_rfl
 have rA:=range_row h6a
 have rB:=range_row h6b
 have HB1:=Lib.hid (((hb16.block w.heap.size (by omega))).trans hB1)
 have HB2:=Lib.hid (((hb16.block (w.heap.size+1) (by omega))).trans hB2)
 have tA:=there_row HB1.out (n:=63) (by kernel_rfl)
 have tB:=there_row HB2.out (n:=63) (by kernel_rfl)
 obtain ⟨la,hla⟩:∃ la,la=xs.toList:=⟨_,rfl⟩
 obtain ⟨lb,hlb⟩:∃ lb,lb=ys.toList:=⟨_,rfl⟩
 have nLA:la.length=61:=by rw [hla];simpa using hxz
 have nLB:lb.length=61:=by rw [hlb];simpa using hyz
 rw [← hla] at rA
 rw [← hlb] at rB
 have hGd:=HG6.out.drew
 have hbw6:Below w.heap.size w W6:=hb0.trans (hb16.mono (by omega))
 refine wp_region_held_drew (S:=CoursAt C ns w w1 xs ys) (by kernel_rfl) ⟨hGd,h6a,h6b,⟨_,HB1.out,by kernel_rfl⟩,⟨_,HB2.out,by kernel_rfl⟩,⟨hbw6.os,hbw6.tape,hbw6.output,hbw6.size,hbw6.block⟩,by show w1.heap.size+2≤W6.heap.size;omega⟩ (fun hHeld=>?_)
 have hzc8:(#[Value.int .i64 0,.int .u64 ((firstSet (q+1):Nat):Int)]++xs.toList.toArray).size=63:=by simp [hxz]
 have hzc9:(#[Value.int .i64 (q:Int),.int .u64 ((firstSet (q+1):Nat):Int)]++ys.toList.toArray).size=63:=by simp [hyz]
 have hoc8:=cours_one 0 (firstSet (q+1)) xs ah HX.out
 have hoc9:=cours_one q (firstSet (q+1)) ys bk HY.out
 refine tkd (i:=0) (v:=.int .u64 ((firstSet (q+1):Nat):Int)) rfl hHeld ?_
 try simp only [Act.put,sA,sB,sC]
 refine wpAnyH_take (i:=1) (oi:=⟨_,_,_,_,_,_⟩) (v:=.agg xs.toList.toArray) rfl (by kernel_rfl) (by kernel_rfl) (by kernel_rfl) (fun _ _ _ h=>h)
  (yieldsIf_load_mid (by rfl) _ _ rfl w1.heap.size 0 rfl xs.toList _ (fun w' h=>range_row h.rowA) hu rfl (by rw [hsz];simp [HX.out.1])) hHeld ?_
 try simp only [Act.put,sA,sB,sC]
 refine tk (i:=2) (v:=.agg (#[.int .i64 0,.int .u64 ((firstSet (q+1):Nat):Int)]++xs.toList.toArray)) rfl (Or.inl ⟨by rfl,fun w hSw=>by go_simp;exact cours_lit _ _ xs hxz⟩) hHeld ?_
 try simp only [Act.put,sA,sB,sC]
 refine tkd (i:=3) (v:=.pointer (some ⟨C,0,none⟩)) rfl hHeld ?_
 try simp only [Act.put,sA,sB,sC]
 refine tkd (i:=5) (v:=.int .u64 ((firstSet (q+1):Nat):Int)) rfl hHeld ?_
 try simp only [Act.put,sA,sB,sC]
 refine wpAnyH_take (i:=6) (oi:=⟨_,_,_,_,_,_⟩) (v:=.agg ys.toList.toArray) rfl (by kernel_rfl) (by kernel_rfl) (by kernel_rfl) (fun _ _ _ h=>h)
  (yieldsIf_load_mid (by rfl) _ _ rfl (w1.heap.size+1) 0 rfl ys.toList _ (fun w' h=>range_row h.rowB) hu rfl (by rw [hsz];simp [HY.out.1])) hHeld ?_
 try simp only [Act.put,sA,sB,sC]
 refine wpAnyH_ready (rs:=[4]) (by kernel_rfl) (by simp) ?_
 refine AllReadyH.cons (o:=⟨_,_,_,_,_,_⟩) rfl (fun K hK=>?_) AllReadyH.nil
 go_simp
 refine (last_any C q ns _ hHeld.gr hn).mono ?_
 rintro E w7 ⟨rfl,hb7⟩
 refine hK.out _ _ (hHeld.keep (by omega) hC hb7) (fun hHeld=>?_)
 clear hK K hb7
 refine tk (i:=7) (v:=.agg (#[Value.int .i64 (q:Int),.int .u64 ((firstSet (q+1):Nat):Int)]++ys.toList.toArray)) rfl (Or.inl ⟨by rfl,fun w hSw=>by go_simp;exact cours_lit _ _ ys hyz⟩) hHeld ?_
 try simp only [Act.put,sA,sB,sC]
 refine wpAnyH_ready (rs:=[8]) (by kernel_rfl) (by simp) ?_
 refine AllReadyH.cons (o:=⟨_,_,_,_,_,_⟩) rfl (fun K hK=>?_) AllReadyH.nil
 rw [if_pos (by rfl)]
 refine wp_store_mid _ _ _ rfl _ _ (#[Value.int .i64 0,.int .u64 ((firstSet (q+1):Nat):Int)]++xs.toList.toArray) rfl rfl (by rw [hzc8];obtain ⟨cs,hc,hz⟩:=hHeld.outA;exact there_row hc hz) (by rw [hzc8];kernel_rfl) hoc8 ?_
 simp only [Act.put]
 have hput8:=hHeld.putA (by omega) hC hzc8
 refine hK.out _ _ hput8.1 (fun hHeld=>?_)
 clear hK K
 refine wpAnyH_ready (rs:=[9]) (by kernel_rfl) (by simp) ?_
 refine AllReadyH.cons (o:=⟨_,_,_,_,_,_⟩) rfl (fun K hK=>?_) AllReadyH.nil
 rw [if_pos (by rfl)]
 refine wp_store_mid _ _ _ rfl _ _ (#[Value.int .i64 (q:Int),.int .u64 ((firstSet (q+1):Nat):Int)]++ys.toList.toArray) rfl rfl (by rw [hzc9];obtain ⟨cs,hc,hz⟩:=hHeld.outB;exact there_row hc hz) (by rw [hzc9];kernel_rfl) hoc9 ?_
 simp only [Act.put]
 have hput9:=hHeld.putB (by omega) hC hzc9
 refine hK.out _ _ hput9.1 (fun hHeld=>?_)
 clear hK K
 refine wpAnyH_done (by kernel_rfl) ?_ _
 clear hHeld
 have hA8:=hput8.2
 have hA9:=hput9.2.2.trans hA8
 have hB9:=hput9.2.1
 have hbF:=hput9.1.below
 have hcu:=Tryz.underlying106
 go_wp2_with fail
 refine bodyPost_ret (v:=.tuple #[.agg (#[Value.int .i64 0,.int .u64 ((firstSet (q+1):Nat):Int)]++xs.toList.toArray),.agg (#[Value.int .i64 (q:Int),.int .u64 ((firstSet (q+1):Nat):Int)]++ys.toList.toArray)]) ?_ rfl ?_
 ·exact results_two_rows rfl Tryz.prog _ _ w.heap.size (w.heap.size+1) _ _ rfl rfl (run_loadVar_row _ _ _ _ _ (0,0) _ hA9 hcu rfl (by rw [hzc8];kernel_rfl)) (run_loadVar_row _ _ _ _ _ (0,0) _ hB9 hcu rfl (by rw [hzc9];kernel_rfl))
 ·refine ⟨xs,ys,ah,bk,?_,HX.out,HY.out,HS.out,hbF⟩
  rw [hn]
  simp [coursV]
theorem zeroF_size:(Tryz.zeroCells108).size=372:=by kernel_rfl
structure FlwCells (ts:List Int) (ns:List Nd) (C:Nat) (sc:Value) (m:Nat) (cs:Array Value):Prop where
 size:cs.size=372
 gr:cs[0]?=some (.pointer (some ⟨C,0,none⟩))
 sc:cs[1]?=some sc
 eff:∀ k d,k<m→ns[k]?=some d→cs[k*4+2]?=some (.int .u64 ((effD ts d).r:Int))∧cs[k*4+3]?=some (.int .u64 ((effD ts d).t:Int))∧cs[k*4+4]?=some (.int .u64 ((effD ts d).c:Int))∧cs[k*4+5]?=some (.int .u64 ((effD ts d).s:Int))
structure FlwAt (ts:List Int) (ns:List Nd) (C F hi:Nat) (w:World) (A:Option Addr) (c m:Nat) (w':World):Prop where
 row:∃ cs,w'.heap[F]?=some (.cells cs 108 (0,0))∧FlwCells ts ns C (.slice A ts.length c) m cs
 gr:Gr C w' ns
 sc:IntsV w' (F+1) hi ts A c
 below:Below w.heap.size w w'
 lt:F<hi∧hi≤w'.heap.size
section
variable {ts:List Int} {ns:List Nd} {C F hi:Nat} {w a b:World} {A:Option Addr} {c m:Nat}
theorem FlwAt.scCell (h:FlwAt ts ns C F hi w A c m a):a.cell? ⟨F,1,none⟩=some (.slice A ts.length c):=by
 obtain ⟨cs,h1,h2⟩:=h.row
 rw [cB h1]
 exact h2.sc
theorem FlwAt.scope (h:FlwAt ts ns C F hi w A c m a):IntsV a 0 a.heap.size ts A c:=h.sc.keep (Nat.zero_le _) h.lt.2 fun _ _ _=>rfl
theorem FlwAt.drew (h:FlwAt ts ns C F hi w A c m a):FlwAt ts ns C F hi w A c m a.drew :=
 ⟨h.row,h.gr.drew,h.sc,⟨h.below.os,h.below.tape,h.below.output,h.below.size,h.below.block⟩,h.lt⟩
theorem FlwAt.keep (h:FlwAt ts ns C F hi w A c m a) (hC:C<F) (hb:Below a.heap.size a b):FlwAt ts ns C F hi w A c m b:=by
 have hl:=h.lt
 have hs:=hb.size
 refine ⟨?_,h.gr.kept (hb.block C (by omega)),h.sc.keep (Nat.le_refl _) (Nat.le_refl _) fun p _ hp=>World.cell?_of_block (hb.block p.block (by omega)),h.below.trans (hb.mono h.below.size),by omega⟩
 rw [hb.block F (by omega)]
 exact h.row
theorem FlwAt.there (h:FlwAt ts ns C F hi w A c m a) {k:Nat} (hk:k<61):a.there F (2+k*4) 4:=by
 obtain ⟨cs,h1,h2⟩:=h.row
 have hz:=h2.size
 intro j hj
 refine ⟨?_,frozen_of_row _ _ _ _ _ h1⟩
 rw [cB h1,Array.getElem?_eq_getElem (by omega)]
 rfl
theorem FlwAt.less (h:FlwAt ts ns C F hi w A c (m+1) a):FlwAt ts ns C F hi w A c m a:=by
 obtain ⟨cs,h1,h2⟩:=h.row
 exact ⟨⟨cs,h1,h2.size,h2.gr,h2.sc,fun k d hk hd=>h2.eff k d (by omega) hd⟩,h.gr,h.sc,h.below,h.lt⟩
theorem FlwAt.put (h:FlwAt ts ns C F hi w A c m a) (hC:C<F) (hm:m<61) {d:Nd} (hd:ns[m]?=some d) (hF:w.heap.size≤F:=by omega) :
  FlwAt ts ns C F hi w A c (m+1) (a.setCells F (2+m*4) [.int .u64 ((effD ts d).r:Int),.int .u64 ((effD ts d).t:Int),.int .u64 ((effD ts d).c:Int),.int .u64 ((effD ts d).s:Int)]) ∧
  (a.setCells F (2+m*4) [.int .u64 ((effD ts d).r:Int),.int .u64 ((effD ts d).t:Int),.int .u64 ((effD ts d).c:Int),.int .u64 ((effD ts d).s:Int)]).heap[C]?=a.heap[C]?:=by
 obtain ⟨cs,h1,h2⟩:=h.row
 have hl:=h.lt
 have hz:=h2.size
 have hn:=heap_setCells [.int .u64 ((effD ts d).r:Int),.int .u64 ((effD ts d).t:Int),.int .u64 ((effD ts d).c:Int),.int .u64 ((effD ts d).s:Int)] (2+m*4) a cs h1 (by simp;omega)
 have hget:∀ j,(setN cs (2+m*4) [.int .u64 ((effD ts d).r:Int),.int .u64 ((effD ts d).t:Int),.int .u64 ((effD ts d).c:Int),.int .u64 ((effD ts d).s:Int)])[j]?=_:=fun j=>setN_get [.int .u64 ((effD ts d).r:Int),.int .u64 ((effD ts d).t:Int),.int .u64 ((effD ts d).c:Int),.int .u64 ((effD ts d).s:Int)] cs (2+m*4) j (by simp;omega)
 refine ⟨⟨⟨_,hn,?_,?_,?_,fun k e hk he=>?_⟩,h.gr.kept (World.heap_setCells_other _ _ _ _ (by omega) (by omega)),h.sc.keep (Nat.le_refl _) (Nat.le_refl _) fun p h3 h4=>World.cell?_of_block (World.heap_setCells_other _ _ _ _ (by omega) (by omega)),below_setCells h.below hF (by have:=h.below.size;omega),by rw [size_setCells];exact hl⟩,World.heap_setCells_other _ _ _ _ (by omega) (by omega)⟩
 ·rw [setN_size];exact hz
 ·rw [hget,if_neg (by rintro ⟨h3,_⟩;omega)];exact h2.gr
 ·rw [hget,if_neg (by rintro ⟨h3,_⟩;omega)];exact h2.sc
 ·by_cases hkm:k=m
  ·subst hkm
   rw [hd] at he
   cases he
   refine ⟨?_,?_,?_,?_⟩
   ·rw [hget,if_pos (by simp;omega),show k*4+2-(2+k*4)=0 from by omega];rfl
   ·rw [hget,if_pos (by simp;omega),show k*4+3-(2+k*4)=1 from by omega];rfl
   ·rw [hget,if_pos (by simp;omega),show k*4+4-(2+k*4)=2 from by omega];rfl
   ·rw [hget,if_pos (by simp;omega),show k*4+5-(2+k*4)=3 from by omega];rfl
  ·obtain ⟨e1,e2,e3,e4⟩:=h2.eff k e (by omega) he
   refine ⟨?_,?_,?_,?_⟩
   ·rw [hget,if_neg (by simp;omega)];exact e1
   ·rw [hget,if_neg (by simp;omega)];exact e2
   ·rw [hget,if_neg (by simp;omega)];exact e3
   ·rw [hget,if_neg (by simp;omega)];exact e4
end
def CoursIn (cs:Array Value) (o first n:Nat) (f:Nat→Nat):Prop:=cs[o]?=some (.int .i64 (first:Int))∧cs[o+1]?=some (.int .u64 ((firstSet n:Nat):Int))∧∀ i,i<61→cs[o+2+i]?=some (.int .u64 (f i:Int))
structure FlowsIn (ts:List Int) (ns:List Nd) (C F hi:Nat) (A:Option Addr) (c:Nat) (ah bk:Nat→Nat) (w':World):Prop where
 row:∃ cs,w'.heap[F]?=some (.cells cs 108 (0,0))∧FlwCells ts ns C (.slice A ts.length c) ns.length cs∧CoursIn cs 246 0 ns.length ah∧CoursIn cs 309 (ns.length-1) ns.length bk
 gr:Gr C w' ns
 sc:IntsV w' (F+1) hi ts A c
 lt:C<F∧F<hi∧hi≤w'.heap.size
 sets:Sets2 (Edge ns ns.length 0) ah bk
theorem setN_in {cs:Array Value} {vs:List Value} {o j:Nat} (hz:o+vs.length≤cs.size) (h1:o≤j) (h2:j<o+vs.length):(setN cs o vs)[j]?=vs[j-o]?:=by
 rw [setN_get _ _ _ _ hz,if_pos ⟨h1,h2⟩]
theorem setN_out {cs:Array Value} {vs:List Value} {o j:Nat} (hz:o+vs.length≤cs.size) (h:j<o∨o+vs.length≤j):(setN cs o vs)[j]?=cs[j]?:=by
 rw [setN_get _ _ _ _ hz,if_neg (by omega)]
theorem FlwCells.put {ts:List Int} {ns:List Nd} {C:Nat} {sc:Value} {m o:Nat} {cs:Array Value} {vs:List Value} (h:FlwCells ts ns C sc m cs) (ho:m*4+2≤o) (hz:o+vs.length≤372):FlwCells ts ns C sc m (setN cs o vs):=by
 have hs:=h.size
 refine ⟨by rw [setN_size];exact hs,?_,?_,fun k d hk hd=>?_⟩
 ·rw [setN_out (by omega) (by omega)];exact h.gr
 ·rw [setN_out (by omega) (by omega)];exact h.sc
 ·obtain ⟨e1,e2,e3,e4⟩:=h.eff k d hk hd
  refine ⟨?_,?_,?_,?_⟩
  ·rw [setN_out (by omega) (by omega)];exact e1
  ·rw [setN_out (by omega) (by omega)];exact e2
  ·rw [setN_out (by omega) (by omega)];exact e3
  ·rw [setN_out (by omega) (by omega)];exact e4
theorem coursIn_set {cs:Array Value} {o first n:Nat} {f:Nat→Nat} {xs XA:Array Value} (hx:SetRow xs f) (hX:XA=#[.int .i64 (first:Int),.int .u64 ((firstSet n:Nat):Int)]++xs) (hz:o+63≤cs.size):CoursIn (setN cs o XA.toList) o first n f:=by
 have hl:XA.toList.length=63:=by rw [hX];simp [hx.1]
 have hg:∀ j,j<63→(setN cs o XA.toList)[o+j]?=XA[j]?:=fun j hj=>by
  rw [setN_in (by omega) (by omega) (by omega),show o+j-o=j from by omega]
  simp
 refine ⟨?_,?_,fun i hi=>?_⟩
 ·have:=hg 0 (by omega)
  rw [Nat.add_zero] at this
  rw [this,hX,Array.getElem?_append_left (by simp)]
  rfl
 ·rw [hg 1 (by omega),hX,Array.getElem?_append_left (by simp)]
  rfl
 ·rw [show o+2+i=o+(i+2) from by omega,hg (i+2) (by omega),hX,Array.getElem?_append_right (by simp)]
  simpa using hx.2 i hi
theorem CoursIn.out {cs:Array Value} {o o' first n:Nat} {f:Nat→Nat} {vs:List Value} (h:CoursIn cs o first n f) (hz:o'+vs.length≤cs.size) (ho:o+63≤o'∨o'+vs.length≤o):CoursIn (setN cs o' vs) o first n f:=by
 obtain ⟨h1,h2,h3⟩:=h
 refine ⟨?_,?_,fun i hi=>?_⟩
 ·rw [setN_out hz (by omega)];exact h1
 ·rw [setN_out hz (by omega)];exact h2
 ·rw [setN_out hz (by omega)];exact h3 i hi
theorem there_mid {W:World} {g n o:Nat} {cs:Array Value} {t:TypeId} (h:W.heap[g]?=some (.cells cs t (0,0))) (hz:o+n≤cs.size):W.there g o n:=by
 intro j hj
 refine ⟨?_,frozen_of_row _ _ _ _ _ h⟩
 rw [cB h,Array.getElem?_eq_getElem (by omega)]
 rfl
theorem store_mid {W:World} {g o:Nat} {cs:Array Value} {t:TypeId} (xs:Array Value) (h:W.heap[g]?=some (.cells cs t (0,0))) (hz:o+xs.size≤cs.size) (h1:xs.all (·.oneCell')=true) :
  (storeCells ⟨g,o,none⟩ xs.toList).run Tryz.prog W=.ok () (W.setCells g o xs.toList):=by
 have ht:=there_mid (n:=xs.size) h hz
 have:=run_storeCells_cells (P:=Tryz.prog) g o xs.toList 0 W (fun j hj=>by simpa using (ht j (by simpa using hj)).1) (fun j hj=>by simpa using (ht j (by simpa using hj)).2) (fun v hv=>(Array.all_eq_true_iff_forall_mem.1 h1) v (by simpa using hv))
 simpa using this
theorem flows_store {ts:List Int} {ns:List Nd} {C F hi:Nat} {w a:World} {A:Option Addr} {c:Nat} {ah bk:Nat→Nat} {xs ys XA YA:Array Value} (h:FlwAt ts ns C F hi w A c ns.length a) (hC:C<F) (hF:w.heap.size≤F)
  (hx:SetRow xs ah) (hy:SetRow ys bk) (hs2:Sets2 (Edge ns ns.length 0) ah bk) (hX:XA=#[.int .i64 ((0:Nat):Int),.int .u64 ((firstSet ns.length:Nat):Int)]++xs) (hY:YA=#[.int .i64 ((ns.length-1:Nat):Int),.int .u64 ((firstSet ns.length:Nat):Int)]++ys) :
  ∃ W6 W7,(storeCells ⟨F,246,none⟩ XA.toList).run Tryz.prog a=.ok () W6∧(storeCells ⟨F,309,none⟩ YA.toList).run Tryz.prog W6=.ok () W7∧FlowsIn ts ns C F hi A c ah bk W7∧Below w.heap.size w W7:=by
 obtain ⟨cs,h1,h2⟩:=h.row
 have hl:=h.lt
 have hz:=h2.size
 have hle:=h.gr.le
 have hxz:XA.size=63:=by rw [hX];simp [hx.1]
 have hyz:YA.size=63:=by rw [hY];simp [hy.1]
 have hxl:XA.toList.length=63:=by simpa using hxz
 have hyl:YA.toList.length=63:=by simpa using hyz
 have hxo:XA.all (·.oneCell')=true:=by
  have:=cours_one 0 (firstSet ns.length) xs ah hx
  rw [hX];simpa using this
 have hyo:YA.all (·.oneCell')=true:=by
  have:=cours_one (ns.length-1) (firstSet ns.length) ys bk hy
  rw [hY];simpa using this
 have s1:=store_mid XA h1 (o:=246) (by omega) hxo
 have r1:=heap_setCells XA.toList 246 a cs h1 (by omega)
 have s2:=store_mid YA r1 (o:=309) (by rw [setN_size];omega) hyo
 have r2:=heap_setCells YA.toList 309 _ _ r1 (by rw [setN_size];omega)
 refine ⟨_,_,s1,s2,⟨⟨_,r2,(h2.put (by omega) (by omega)).put (by omega) (by omega),(coursIn_set hx hX (by omega)).out (by rw [setN_size];omega) (by omega),coursIn_set hy hY (by rw [setN_size];omega)⟩,?_,?_,?_,hs2⟩,?_⟩
 ·exact h.gr.kept ((World.heap_setCells_other _ _ _ _ (by rw [size_setCells];omega) (by omega)).trans (World.heap_setCells_other _ _ _ _ (by omega) (by omega)))
 ·exact h.sc.keep (Nat.le_refl _) (Nat.le_refl _) fun p h3 h4=>World.cell?_of_block ((World.heap_setCells_other _ _ _ _ (by rw [size_setCells];omega) (by omega)).trans (World.heap_setCells_other _ _ _ _ (by omega) (by omega)))
 ·rw [size_setCells,size_setCells];omega
 ·exact below_setCells (below_setCells h.below hF (by have:=h.below.size;omega)) hF (by rw [size_setCells];have:=h.below.size;omega)
def FlowsPost (ts:List Int) (ns:List Nd) (w:World) (E:Ending) (w':World):Prop:=∃ C F hi A c ah bk,E=.returned (.tuple #[.pointer (some ⟨F,0,none⟩),.bool true])∧w.heap.size≤F∧FlowsIn ts ns C F hi A c ah bk w'∧Below w.heap.size w w'
theorem flowsOf_yes (ts:List Int) (s:Sts) (At As:Option Addr) (ct cs:Nat) (w:World) (hv:validB ts s=true) (hT:IntsV w 0 w.heap.size ts At ct) (hR:RepV w 0 w.heap.size s As cs) :
  Calls Tryz.prog 88 #[.agg #[.slice At ts.length ct,.slice As s.len cs]] w (FlowsPost ts (progPts s) w):=by
 have hb0:=(Below.refl w.heap.size w).alloc (Nat.le_refl _) (.cells #[.slice At ts.length ct,.slice As s.len cs] 30)
 have hz0:(w.alloc (.cells #[.slice At ts.length ct,.slice As s.len cs] 30)).heap.size=w.heap.size+1:=by simp
 have hB0:=heap_alloc_new w (.cells #[.slice At ts.length ct,.slice As s.len cs] 30)
 have hS:=graphOf_yes ts s At As ct cs _ hv (hT.below hb0 (by simp)) (hR.below hb0 (by simp))
 have hty:typesB ts=true:=(valid_ok hv).1
 have hD:=progPts_ok s (valid_ok hv).2.1
 have hA:=progPts_allTyped hv
 generalize progPts s=ns at hS hD hA ⊢
 generalize s.npts=q at hD
 have HZ:=Lib.hid hz0
 have HB:=Lib.hid hB0
 have HD:=Lib.hid hD
 have HA:=Lib.hid hA
 clear hz0 hB0 hD hA
 go_enter Tryz.func88,Tryz.ntmps88
 go_wp2_with fail
 refine hS.mono ?_
 rintro E w1 ⟨C,rfl,hC,hG,hb1⟩
 rw [HZ.out] at hC hb1
 have hs1:=hb1.size
 rw [HZ.out] at hs1
 have hB1:=(hb1.block w.heap.size (by omega)).trans HB.out
 have hb:Below w.heap.size w w1:=hb0.trans (hb1.mono (by omega))
 have hCl:=hG.lt
 have HG:=Lib.hid hG
 have HB1:=Lib.hid hB1
 have p0:∀ o,(w1.alloc o).cell? ⟨w.heap.size,0,none⟩=some (.slice At ts.length ct):=fun o=>(World.cell?_alloc_lt _ _ _ (by simp;omega)).trans ((cB hB1 0).trans rfl)
 have hbf:=(Below.refl w1.heap.size w1).alloc (Nat.le_refl _) (.cells (Tryz.zeroCells108.setIfInBounds 0 (.pointer (some ⟨C,0,none⟩))) 108)
 have hBF:=heap_alloc_new w1 (.cells (Tryz.zeroCells108.setIfInBounds 0 (.pointer (some ⟨C,0,none⟩))) 108)
 have hzF:(w1.alloc (.cells (Tryz.zeroCells108.setIfInBounds 0 (.pointer (some ⟨C,0,none⟩))) 108)).heap.size=w1.heap.size+1:=by simp
 have hT2:IntsV (w1.alloc (.cells (Tryz.zeroCells108.setIfInBounds 0 (.pointer (some ⟨C,0,none⟩))) 108)) 0 (w1.alloc (.cells (Tryz.zeroCells108.setIfInBounds 0 (.pointer (some ⟨C,0,none⟩))) 108)).heap.size ts At ct:=hT.below (hb.trans (hbf.mono (by omega))) (by rw [hzF];omega)
 have hsc:=scopeOf_yes ts At ct _ hty hT2
 have HBF:=Lib.hid hBF
 have HZF:=Lib.hid hzF
 clear hG hB1 hb1 hS hBF hzF hT2
 go_wp2_with fail
 refine hsc.mono ?_
 rintro E w2 ⟨A2,c2,rfl,hI2,hb2⟩
 rw [HZF.out] at hI2 hb2
 have hs2:=hb2.size
 rw [HZF.out] at hs2
 have hCF:C<w1.heap.size:=hCl
 have hF2:=(hb2.block w1.heap.size (by omega)).trans HBF.out
 have f1:w2.cell? ⟨w1.heap.size,1,none⟩=some (.slice none 0 0):=(cB hF2 1).trans (by kernel_rfl)
 have f2:w2.frozen? ⟨w1.heap.size,1,none⟩=false:=frozen_of_row _ _ _ _ _ hF2
 have HF3:=Lib.hid (heap_setCell_same w2 w1.heap.size 1 _ _ (.slice A2 ts.length c2) hF2)
 have hc2:=(HG.out.kept ((hb2.block C (by omega)).trans (hbf.block C hCl))).count
 have hG3:Gr C (w2.setCell ⟨w1.heap.size,1,none⟩ (.slice A2 ts.length c2)) ns:=HG.out.kept ((heap_setCell_other _ _ _ _ (by simp;omega)).trans ((hb2.block C (by omega)).trans (hbf.block C hCl)))
 have hI3:IntsV (w2.setCell ⟨w1.heap.size,1,none⟩ (.slice A2 ts.length c2)) (w1.heap.size+1) w2.heap.size ts A2 c2:=hI2.keep (Nat.le_refl _) (Nat.le_refl _) fun p h1 h2=>World.cell?_of_block (heap_setCell_other _ _ _ _ (by simp;omega))
 have hb3:Below w.heap.size w (w2.setCell ⟨w1.heap.size,1,none⟩ (.slice A2 ts.length c2)):=below_set ((hb.trans (hbf.mono (by omega))).trans (hb2.mono (by omega))) (by omega)
 have hz3:(w2.setCell ⟨w1.heap.size,1,none⟩ (.slice A2 ts.length c2)).heap.size=w2.heap.size:=by simp [World.setCell]
 clear hsc hF2 hI2 hb2 hbf hb0
 go_wp2_with fail
 generalize w2.setCell ⟨w1.heap.size,1,none⟩ (.slice A2 ts.length c2)=w3 at *
 have HST:Hid (FlwAt ts ns C w1.heap.size w2.heap.size w A2 c2 0 w3):=by
  refine ⟨⟨_,HF3.out,⟨by simp,?_,?_,fun k d hk=>absurd hk (Nat.not_lt_zero _)⟩⟩,hG3,hI3,hb3,by omega,by omega⟩
  ·rw [Array.getElem?_setIfInBounds,if_neg (by omega),Array.getElem?_setIfInBounds,if_pos rfl,if_pos (by rw [zeroF_size];omega)]
  ·rw [Array.getElem?_setIfInBounds,if_pos rfl,if_pos (by simp)]
 clear hG3 hI3 hb3 HF3 HBF HZF f1 f2 hc2 hz3 p0
 go_loopw [7,31] (fun _ i wr=>∃ k:Nat,i=.int .i64 k∧k≤ns.length∧Hid (FlwAt ts ns C w1.heap.size w2.heap.size w A2 c2 k wr)) (fun _ i _=>ns.length-(intOf i).toNat)
 case atStart=>exact ⟨0,rfl,Nat.zero_le _,HST⟩
 case round =>
  clear HST
  obtain ⟨k,rfl,hk,HS⟩:=hrel
  by_cases hlt:k<ns.length
  ·obtain ⟨d,hd⟩:∃ d,ns[k]?=some d:=⟨ns[k],List.getElem?_eq_getElem hlt⟩
   have hGk:=HS.out.gr
   obtain ⟨nw,nn,n2,no,nx,ny,nnn⟩:=hGk.node hd
   have hk61:k<61:=by have:=hGk.le;omega
   obtain ⟨p0,hp0⟩:=hGk.int_ (j:=k*7+4) (by omega)
   obtain ⟨p1,hp1⟩:=hGk.int_ (j:=k*7+5) (by omega)
   have hrange:∀ w':World,w'.heap[C]?=wr.heap[C]?→w'.rangeAt C (k*7) [.int .i64 d.op,.int .i64 d.x,.int .i64 d.y,.int .i64 d.n,.int .i64 p0,.int .i64 p1,.int .i64 d.next.length]:=by
    intro w' hw'
    have e:∀ j,w'.cell? ⟨C,j,none⟩=wr.cell? ⟨C,j,none⟩:=fun j=>World.cell?_of_block (a:=⟨C,j,none⟩) hw'
    intro j v hv
    rw [e]
    match j,hv with
    | 0,hv=>simp only [List.getElem?_cons_zero,Option.some.injEq] at hv;rw [← hv];exact no
    | 1,hv=>simp only [List.getElem?_cons_succ,List.getElem?_cons_zero,Option.some.injEq] at hv;rw [← hv];exact nx
    | 2,hv=>simp only [List.getElem?_cons_succ,List.getElem?_cons_zero,Option.some.injEq] at hv;rw [← hv];exact ny
    | 3,hv=>simp only [List.getElem?_cons_succ,List.getElem?_cons_zero,Option.some.injEq] at hv;rw [← hv];exact nnn
    | 4,hv=>simp only [List.getElem?_cons_succ,List.getElem?_cons_zero,Option.some.injEq] at hv;rw [← hv];exact hp0
    | 5,hv=>simp only [List.getElem?_cons_succ,List.getElem?_cons_zero,Option.some.injEq] at hv;rw [← hv];exact hp1
    | 6,hv=>simp only [List.getElem?_cons_succ,List.getElem?_cons_zero,Option.some.injEq] at hv;rw [← hv];exact nw
    | j+7,hv=>simp at hv
   have HDK:=Lib.hid hd
   have hok:=effD_ok HA.out.1 (HA.out.2 k d hd)
   obtain ⟨x,hx⟩:∃ x:Nat,d.x=(x:Int):=⟨d.x.toNat,by have:=hok.xy;omega⟩
   obtain ⟨y,hy⟩:∃ y:Nat,d.y=(y:Int):=⟨d.y.toNat,by have:=hok.xy;omega⟩
   have hx5:x≤5:=by have:=hok.xy;omega
   have hy5:y≤5:=by have:=hok.xy;omega
   have hef:∀ W:World,IntsV W 0 W.heap.size ts A2 c2→Calls Tryz.prog 111 #[.agg #[.int .i64 d.op,.int .i64 d.x,.int .i64 d.y,.int .i64 d.n,.int .i64 p0,.int .i64 p1,.int .i64 d.next.length],.slice A2 ts.length c2] W fun E w'=>E=.returned (efV (effD ts d))∧Below W.heap.size W w':=by
    intro W hW
    have h:=effectOf_any ts A2 c2 d.op d.n p0 p1 d.next.length x y d.next W hW hx5 hy5
    rw [← hx,← hy] at h
    exact h
   clear nw nn no nx ny nnn hp0 hp1 hGk hd hok hx hy
   have ki0:(0:Int)≤(k:Int):=by omega
   have ki1:(k:Int)<61:=by omega
   have hSt:FlwAt ts ns C w1.heap.size w2.heap.size w A2 c2 k wr.drew∧wr.drew.heap[C]?=wr.heap[C]?:=⟨HS.out.drew,rfl⟩
   go_wp2_with fail
   refine wp_region_held_drew (S:=fun w'=>FlwAt ts ns C w1.heap.size w2.heap.size w A2 c2 k w'∧w'.heap[C]?=wr.heap[C]?) (by kernel_rfl) hSt (fun hHeld=>?_)
   refine tkd (i:=0) (v:=.pointer (some ⟨w1.heap.size,0,none⟩)) rfl hHeld ?_
   try simp only [Act.put,sA,sB,sC]
   refine tkd (i:=1) (v:=.int .i64 (k:Int)) rfl hHeld ?_
   try simp only [Act.put,sA,sB,sC]
   refine tkd (i:=2) (v:=.pointer (some ⟨C,0,none⟩)) rfl hHeld ?_
   try simp only [Act.put,sA,sB,sC]
   refine tkd (i:=3) (v:=.int .i64 (k:Int)) rfl hHeld ?_
   try simp only [Act.put,sA,sB,sC]
   refine tkd (i:=4) (v:=.pointer (some ⟨C,0,none⟩)) rfl hHeld ?_
   try simp only [Act.put,sA,sB,sC]
   refine tkd (i:=5) (v:=.pointer (some ⟨C,0,none⟩)) rfl hHeld ?_
   try simp only [Act.put,sA,sB,sC]
   refine tkd (i:=6) (v:=.pointer (some ⟨C,k*7,none⟩)) rfl hHeld ?_
   try simp only [Act.put,sA,sB,sC]
   refine wpAnyH_take (i:=7) (oi:=⟨_,_,_,_,_,_⟩) (v:=.agg ([.int .i64 d.op,.int .i64 d.x,.int .i64 d.y,.int .i64 d.n,.int .i64 p0,.int .i64 p1,.int .i64 d.next.length]:List Value).toArray) rfl (by kernel_rfl) (by kernel_rfl) (by kernel_rfl) (fun _ _ _ h=>h)
    (yieldsIf_load_mid (by rfl) _ _ rfl C (k*7) rfl [.int .i64 d.op,.int .i64 d.x,.int .i64 d.y,.int .i64 d.n,.int .i64 p0,.int .i64 p1,.int .i64 d.next.length] _ (fun w' h=>hrange w' h.2) Tryz.underlying130 rfl (by kernel_rfl)) hHeld ?_
   try simp only [Act.put,sA,sB,sC]
   refine tkd (i:=8) (v:=.pointer (some ⟨w1.heap.size,0,none⟩)) rfl hHeld ?_
   try simp only [Act.put,sA,sB,sC]
   refine tkd (i:=9) (v:=.pointer (some ⟨w1.heap.size,0,none⟩)) rfl hHeld ?_
   try simp only [Act.put,sA,sB,sC]
   refine tkd (i:=10) (v:=.pointer (some ⟨w1.heap.size,1,none⟩)) rfl hHeld ?_
   try simp only [Act.put,sA,sB,sC]
   refine tk (i:=11) (v:=.slice A2 ts.length c2) rfl (Or.inl ⟨by rfl,fun w hSw=>by have h9:=hSw.1.scCell;go_simp⟩) hHeld ?_
   try simp only [Act.put,sA,sB,sC]
   refine tkd (i:=13) (v:=.pointer (some ⟨w1.heap.size,0,none⟩)) rfl hHeld ?_
   try simp only [Act.put,sA,sB,sC]
   refine tkd (i:=14) (v:=.pointer (some ⟨w1.heap.size,2,none⟩)) rfl hHeld ?_
   try simp only [Act.put,sA,sB,sC]
   refine wpAnyH_ready (rs:=[12]) (by kernel_rfl) (by simp) ?_
   refine AllReadyH.cons (o:=⟨_,_,_,_,_,_⟩) rfl (fun K hK=>?_) AllReadyH.nil
   go_simp
   refine (hef _ (hHeld.1.scope)).mono ?_
   rintro E w7 ⟨rfl,hb7⟩
   refine hK.out _ _ ⟨hHeld.1.keep hCF hb7,(hb7.block C (by have:=hHeld.1.lt;omega)).trans hHeld.2⟩ (fun hHeld=>?_)
   clear hK K hb7
   refine tkd (i:=15) (v:=.pointer (some ⟨w1.heap.size,2+k*4,none⟩)) rfl hHeld ?_
   try simp only [Act.put,sA,sB,sC]
   refine wpAnyH_ready (rs:=[16]) (by kernel_rfl) (by simp) ?_
   refine AllReadyH.cons (o:=⟨_,_,_,_,_,_⟩) rfl (fun K hK=>?_) AllReadyH.nil
   rw [if_pos (by rfl)]
   refine wp_store_mid _ _ _ rfl w1.heap.size (2+k*4) #[.int .u64 ((effD ts d).r:Int),.int .u64 ((effD ts d).t:Int),.int .u64 ((effD ts d).c:Int),.int .u64 ((effD ts d).s:Int)] rfl rfl (hHeld.1.there hk61) (by kernel_rfl) (by simp [Value.oneCell']) ?_
   simp only [Act.put]
   have hput:=hHeld.1.put hCF hk61 HDK.out
   refine hK.out _ _ ⟨hput.1.less,hput.2.trans hHeld.2⟩ (fun hHeld=>?_)
   clear hK K
   refine wpAnyH_done (by kernel_rfl) ?_ _
   clear hHeld
   have HPUT:=Lib.hid hput.1
   clear hput
   go_wp2_with fail
   refine ⟨⟨k+1,by simp,by omega,HPUT.out⟩,?_⟩
   simp only [intOf]
   omega
  ·have hke:k=ns.length:=by omega
   subst hke
   have hco:=courses_any C q ns wr HD.out HS.out.gr
   go_wp2_with fail
   refine hco.mono ?_
   rintro E w5 ⟨xs,ys,ah,bk,rfl,hx,hy,hs2,hb5⟩
   have HX:=Lib.hid hx
   have HY:=Lib.hid hy
   have HS2:=Lib.hid hs2
   have HS5:=Lib.hid (HS.out.keep hCF hb5)
   obtain ⟨XA,hXA⟩:∃ XA,coursV 0 ns.length xs=.agg XA∧XA=#[.int .i64 ((0:Nat):Int),.int .u64 ((firstSet ns.length:Nat):Int)]++xs:=⟨_,rfl,rfl⟩
   obtain ⟨YA,hYA⟩:∃ YA,coursV (ns.length-1) ns.length ys=.agg YA∧YA=#[.int .i64 ((ns.length-1:Nat):Int),.int .u64 ((firstSet ns.length:Nat):Int)]++ys:=⟨_,rfl,rfl⟩
   obtain ⟨W6,W7,s1,s2,hfin⟩:=flows_store HS5.out hCF (by omega) HX.out HY.out HS2.out hXA.2 hYA.2
   rw [hXA.1,hYA.1]
   have hxz:XA.size=63:=by rw [hXA.2];simp [hx.1]
   have hyz:YA.size=63:=by rw [hYA.2];simp [hy.1]
   have HFIN:=Lib.hid hfin
   clear hco hx hy hs2 hb5 HS hXA hYA hfin
   go_wp2_with fail
   go_ret2
   exact ⟨C,w1.heap.size,w2.heap.size,A2,c2,ah,bk,rfl,by omega,HFIN.out.1,HFIN.out.2⟩
theorem flowsOf_no (ts:List Int) (s:Sts) (At As:Option Addr) (ct cs:Nat) (w:World) (hv:validB ts s=false) (hT:IntsV w 0 w.heap.size ts At ct) (hR:RepV w 0 w.heap.size s As cs) :
  Calls Tryz.prog 88 #[.agg #[.slice At ts.length ct,.slice As s.len cs]] w fun E w'=>E=.returned (.tuple #[.pointer none,.bool false])∧Below w.heap.size w w':=by
 have hb0:=(Below.refl w.heap.size w).alloc (Nat.le_refl _) (.cells #[.slice At ts.length ct,.slice As s.len cs] 30)
 have hS:=graphOf_no ts s At As ct cs _ hv (hT.below hb0 (by simp)) (hR.below hb0 (by simp))
 go_enter Tryz.func88,Tryz.ntmps88
 go_wp2_with fail
 refine hS.mono ?_
 rintro E w1 ⟨rfl,hb1⟩
 have hb:Below w.heap.size w w1:=hb0.trans (hb1.mono (by simp))
 clear hS
 go_wp2_with fail
 go_ret2
 exact ⟨rfl,hb⟩
section
variable {ts:List Int} {ns:List Nd} {C F hi:Nat} {A:Option Addr} {c:Nat} {ah bk:Nat→Nat} {a b:World}
theorem FlowsIn.grCell (h:FlowsIn ts ns C F hi A c ah bk a):a.cell? ⟨F,0,none⟩=some (.pointer (some ⟨C,0,none⟩)):=by
 obtain ⟨cs,h1,h2,_⟩:=h.row
 rw [cB h1]
 exact h2.gr
theorem FlowsIn.effCell (h:FlowsIn ts ns C F hi A c ah bk a) {k:Nat} {d:Nd} (hd:ns[k]?=some d) :
  a.cell? ⟨F,2+k*4,none⟩=some (.int .u64 ((effD ts d).r:Int))∧a.cell? ⟨F,2+k*4+1,none⟩=some (.int .u64 ((effD ts d).t:Int))∧a.cell? ⟨F,2+k*4+2,none⟩=some (.int .u64 ((effD ts d).c:Int))∧a.cell? ⟨F,2+k*4+3,none⟩=some (.int .u64 ((effD ts d).s:Int)):=by
 obtain ⟨cs,h1,h2,_⟩:=h.row
 have hk:=(List.getElem?_eq_some_iff.mp hd).1
 obtain ⟨e1,e2,e3,e4⟩:=h2.eff k d hk hd
 refine ⟨?_,?_,?_,?_⟩
 ·rw [cB h1,show 2+k*4=k*4+2 from by omega];exact e1
 ·rw [cB h1,show 2+k*4+1=k*4+3 from by omega];exact e2
 ·rw [cB h1,show 2+k*4+2=k*4+4 from by omega];exact e3
 ·rw [cB h1,show 2+k*4+3=k*4+5 from by omega];exact e4
theorem FlowsIn.scCell (h:FlowsIn ts ns C F hi A c ah bk a):a.cell? ⟨F,1,none⟩=some (.slice A ts.length c):=by
 obtain ⟨cs,h1,h2,_⟩:=h.row
 rw [cB h1]
 exact h2.sc
theorem FlowsIn.scope (h:FlowsIn ts ns C F hi A c ah bk a):IntsV a 0 a.heap.size ts A c:=h.sc.keep (Nat.zero_le _) h.lt.2.2 fun _ _ _=>rfl
theorem FlowsIn.keep (h:FlowsIn ts ns C F hi A c ah bk a) (hb:Below a.heap.size a b):FlowsIn ts ns C F hi A c ah bk b:=by
 have hl:=h.lt
 have hs:=hb.size
 refine ⟨?_,h.gr.kept (hb.block C (by omega)),h.sc.keep (Nat.le_refl _) (Nat.le_refl _) fun p _ hp=>World.cell?_of_block (hb.block p.block (by omega)),by omega,h.sets⟩
 rw [hb.block F (by omega)]
 exact h.row
end
def KnAt (w:World) (K:Nat) (kn:Nat→Nat):Prop:=∃ cs,w.heap[K]?=some (.cells cs 92 (0,0))∧cs.size=61∧∀ i,i<61→cs[i]?=some (.int .u64 (kn i:Int))
theorem KnAt.lt {w:World} {K:Nat} {kn:Nat→Nat} (h:KnAt w K kn):K<w.heap.size:=by
 obtain ⟨cs,h1,_⟩:=h
 exact heap_lt h1
theorem KnAt.cell {w:World} {K:Nat} {kn:Nat→Nat} (h:KnAt w K kn) {i:Nat} (hi:i<61):w.cell? ⟨K,i,none⟩=some (.int .u64 (kn i:Int)):=by
 obtain ⟨cs,h1,_,h3⟩:=h
 rw [cB h1]
 exact h3 i hi
theorem KnAt.soft {w:World} {K:Nat} {kn:Nat→Nat} (h:KnAt w K kn) (i:Nat):w.frozen? ⟨K,i,none⟩=false:=by
 obtain ⟨cs,h1,_,_⟩:=h
 exact frozen_of_row _ _ _ _ _ h1
theorem KnAt.keep {w w':World} {K:Nat} {kn:Nat→Nat} (h:KnAt w K kn) (hb:Below w.heap.size w w'):KnAt w' K kn:=by
 have hl:=h.lt
 unfold KnAt
 rw [hb.block K hl]
 exact h
theorem KnAt.put {w:World} {K:Nat} {kn:Nat→Nat} (h:KnAt w K kn) {i v:Nat} (hi:i<61):KnAt (w.setCell ⟨K,i,none⟩ (.int .u64 (v:Int))) K (setAt kn i v):=by
 obtain ⟨cs,h1,h2,h3⟩:=h
 exact ⟨_,heap_setCell_same w K i cs _ _ h1,(sets_put h2 h3 hi).1,(sets_put h2 h3 hi).2⟩
theorem KnAt.congr {w:World} {K:Nat} {kn kn':Nat→Nat} (h:KnAt w K kn) (he:∀ i,i<61→kn i=kn' i):KnAt w K kn':=by
 obtain ⟨cs,h1,h2,h3⟩:=h
 exact ⟨cs,h1,h2,fun i hi=>by rw [← he i hi];exact h3 i hi⟩
def knW (w:World) (K i:Nat):Nat :=
 match w.cell? ⟨K,i,none⟩ with
 | some (.int _ z)=>z.toNat
 | _=>0
theorem KnAt.read {w:World} {K:Nat} {kn:Nat→Nat} (h:KnAt w K kn) {i:Nat} (hi:i<61):knW w K i=kn i:=by
 unfold knW
 rw [h.cell hi]
 simp
end Go.Proofs.YtedkkphogeealaaGreatDoor
