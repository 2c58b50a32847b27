/- What a point does with a variable,by the model. -/
import Derived.Test.YtedkkphogeealaaGreatDoorPL2Xa
import Derived.Test.YtedkkphogeealaaGreatDoorPBase
import Derived.StillTailTactics
namespace Go.Proofs.YtedkkphogeealaaGreatDoor
open Go.RowKit Go.Deep
set_option linter.unusedVariables false
set_option maxRecDepth 100000
set_option maxHeartbeats 8000000
theorem tyAt_elem {ts:List Int} {A:Option Addr} {c k:Nat} {w:World} (hT:IntsV w 0 w.heap.size ts A c) (hk:k<ts.length):∃ b,A=some b∧b.block<w.heap.size∧w.cell? (b.add k)=some (.int .i64 (tyAt ts k)):=by
 obtain ⟨b,u,hA,-,hbb,hx,hc⟩:=hT.elem hk
 have e0:tyAt ts k=u:=by
  unfold tyAt
  rw [if_neg (by omega)]
  simp [hx]
 rw [e0]
 exact ⟨b,hA,hbb,hc⟩
theorem l3Use_any (ts:List Int) (A:Option Addr) (c:Nat) (op x y n:Int) (nx:List Int) (u:Value) (v:Nat) (w:World) (hv:v<ts.length) (hT:IntsV w 0 w.heap.size ts A c) :
  Calls Tryz.prog 73 #[.slice A ts.length c,.agg #[.int .i64 op,.int .i64 x,.int .i64 y,.int .i64 n,u],.int .i64 v] w fun E w'=>E=.returned (.int .i64 (useI ts ⟨op,x,y,n,nx⟩ v))∧Below w.heap.size w w':=by
 have hm:=hT.2.1
 have hlc:=hT.1
 unfold maxLen at hm
 obtain ⟨b,rfl,hbb,hcell⟩:=tyAt_elem hT hv
 have hb0:=(Below.refl w.heap.size w).alloc (Nat.le_refl _) (.cells #[.int .i64 op,.int .i64 x,.int .i64 y,.int .i64 n,u] 75)
 obtain ⟨b',hb',-,hc1⟩:=tyAt_elem (hT.below hb0 (by simp)) hv
 injection hb' with hb'
 subst hb'
 obtain ⟨tv,htv⟩:∃ tv,tyAt ts v=tv:=⟨_,rfl⟩
 rw [htv] at hcell hc1
 have HTV:=Lib.hid htv
 clear htv hT
 have v0:(0:Int)≤(v:Int):=by omega
 have v1:(v:Int)<(ts.length:Int):=by omega
 by_cases o3:op=3
 ·subst o3
  by_cases hvy:(v:Int)=y
  ·have qy:((v:Int)==y)=true:=by simp [hvy]
   have HVy:=Lib.hid hvy
   clear hvy
   by_cases t2:tv=2
   ·subst t2
    go_enter Tryz.func73,Tryz.ntmps73
    go_wp2_with fail
    go_ret
    exact ⟨by rw [show useI ts ⟨3,x,y,n,nx⟩ v=2 from by unfold useI;rw [if_pos rfl,if_pos HVy.out,if_pos (.inl HTV.out)]];rfl,by first | exact hb0 | exact hb0.drew⟩
   ·have b2:(tv==2)=false:=by simp [t2]
    by_cases t4:tv=4
    ·subst t4
     go_enter Tryz.func73,Tryz.ntmps73
     go_wp2_with fail
     go_ret
     exact ⟨by rw [show useI ts ⟨3,x,y,n,nx⟩ v=2 from by unfold useI;rw [if_pos rfl,if_pos HVy.out,if_pos (.inr HTV.out)]];rfl,by first | exact hb0 | exact hb0.drew⟩
    ·have b4:(tv==4)=false:=by simp [t4]
     have HT2:=Lib.hid t2
     have HT4:=Lib.hid t4
     clear t2 t4
     go_enter Tryz.func73,Tryz.ntmps73
     go_wp2_with fail
     go_ret
     exact ⟨by rw [show useI ts ⟨3,x,y,n,nx⟩ v=1 from by unfold useI;rw [if_pos rfl,if_pos HVy.out,if_neg (by rw [HTV.out];exact fun h=>h.elim HT2.out HT4.out)]];rfl,by first | exact hb0 | exact hb0.drew⟩
  ·have qy:((v:Int)==y)=false:=by simp [hvy]
   have HVy:=Lib.hid hvy
   clear hvy
   go_enter Tryz.func73,Tryz.ntmps73
   go_wp2_with fail
   go_ret
   exact ⟨by rw [show useI ts ⟨3,x,y,n,nx⟩ v=0 from by unfold useI;rw [if_pos rfl,if_neg HVy.out]];rfl,by first | exact hb0 | exact hb0.drew⟩
 by_cases o4:op=4
 ·subst o4
  by_cases hvy:(v:Int)=y
  ·have qy:((v:Int)==y)=true:=by simp [hvy]
   have HVy:=Lib.hid hvy
   clear hvy
   go_enter Tryz.func73,Tryz.ntmps73
   go_wp2_with fail
   go_ret
   exact ⟨by rw [show useI ts ⟨4,x,y,n,nx⟩ v=3 from by unfold useI;rw [if_neg (by simp),if_pos (by simp),if_pos HVy.out]];rfl,by first | exact hb0 | exact hb0.drew⟩
  ·have qy:((v:Int)==y)=false:=by simp [hvy]
   have HVy:=Lib.hid hvy
   clear hvy
   go_enter Tryz.func73,Tryz.ntmps73
   go_wp2_with fail
   go_ret
   exact ⟨by rw [show useI ts ⟨4,x,y,n,nx⟩ v=0 from by unfold useI;rw [if_neg (by simp),if_pos (by simp),if_neg HVy.out]];rfl,by first | exact hb0 | exact hb0.drew⟩
 by_cases o5:op=5
 ·subst o5
  by_cases hvy:(v:Int)=y
  ·have qy:((v:Int)==y)=true:=by simp [hvy]
   have HVy:=Lib.hid hvy
   clear hvy
   go_enter Tryz.func73,Tryz.ntmps73
   go_wp2_with fail
   go_ret
   exact ⟨by rw [show useI ts ⟨5,x,y,n,nx⟩ v=3 from by unfold useI;rw [if_neg (by simp),if_pos (by simp),if_pos HVy.out]];rfl,by first | exact hb0 | exact hb0.drew⟩
  ·have qy:((v:Int)==y)=false:=by simp [hvy]
   have HVy:=Lib.hid hvy
   clear hvy
   go_enter Tryz.func73,Tryz.ntmps73
   go_wp2_with fail
   go_ret
   exact ⟨by rw [show useI ts ⟨5,x,y,n,nx⟩ v=0 from by unfold useI;rw [if_neg (by simp),if_pos (by simp),if_neg HVy.out]];rfl,by first | exact hb0 | exact hb0.drew⟩
 by_cases o6:op=6
 ·subst o6
  by_cases hvy:(v:Int)=y
  ·have qy:((v:Int)==y)=true:=by simp [hvy]
   have HVy:=Lib.hid hvy
   clear hvy
   go_enter Tryz.func73,Tryz.ntmps73
   go_wp2_with fail
   go_ret
   exact ⟨by rw [show useI ts ⟨6,x,y,n,nx⟩ v=3 from by unfold useI;rw [if_neg (by simp),if_pos (by simp),if_pos HVy.out]];rfl,by first | exact hb0 | exact hb0.drew⟩
  ·have qy:((v:Int)==y)=false:=by simp [hvy]
   have HVy:=Lib.hid hvy
   clear hvy
   go_enter Tryz.func73,Tryz.ntmps73
   go_wp2_with fail
   go_ret
   exact ⟨by rw [show useI ts ⟨6,x,y,n,nx⟩ v=0 from by unfold useI;rw [if_neg (by simp),if_pos (by simp),if_neg HVy.out]];rfl,by first | exact hb0 | exact hb0.drew⟩
 by_cases o7:op=7
 ·subst o7
  by_cases hvx:(v:Int)=x
  ·have qx:((v:Int)==x)=true:=by simp [hvx]
   have HVx:=Lib.hid hvx
   clear hvx
   go_enter Tryz.func73,Tryz.ntmps73
   go_wp2_with fail
   go_ret
   exact ⟨by rw [show useI ts ⟨7,x,y,n,nx⟩ v=3 from by unfold useI;rw [if_neg (by simp),if_neg (by simp),if_pos rfl,if_pos HVx.out]];rfl,by first | exact hb0 | exact hb0.drew⟩
  ·have qx:((v:Int)==x)=false:=by simp [hvx]
   have HVx:=Lib.hid hvx
   clear hvx
   by_cases hvy:(v:Int)=y
   ·have qy:((v:Int)==y)=true:=by simp [hvy]
    have HVy:=Lib.hid hvy
    clear hvy
    go_enter Tryz.func73,Tryz.ntmps73
    go_wp2_with fail
    go_ret
    exact ⟨by rw [show useI ts ⟨7,x,y,n,nx⟩ v=1 from by unfold useI;rw [if_neg (by simp),if_neg (by simp),if_pos rfl,if_neg HVx.out,if_pos HVy.out]];rfl,by first | exact hb0 | exact hb0.drew⟩
   ·have qy:((v:Int)==y)=false:=by simp [hvy]
    have HVy:=Lib.hid hvy
    clear hvy
    go_enter Tryz.func73,Tryz.ntmps73
    go_wp2_with fail
    go_ret
    exact ⟨by rw [show useI ts ⟨7,x,y,n,nx⟩ v=0 from by unfold useI;rw [if_neg (by simp),if_neg (by simp),if_pos rfl,if_neg HVx.out,if_neg HVy.out]];rfl,by first | exact hb0 | exact hb0.drew⟩
 by_cases o8:op=8
 ·subst o8
  by_cases hvx:(v:Int)=x
  ·have qx:((v:Int)==x)=true:=by simp [hvx]
   have HVx:=Lib.hid hvx
   clear hvx
   go_enter Tryz.func73,Tryz.ntmps73
   go_wp2_with fail
   go_ret
   exact ⟨by rw [show useI ts ⟨8,x,y,n,nx⟩ v=2 from by unfold useI;rw [if_neg (by simp),if_neg (by simp),if_neg (by simp),if_pos rfl,if_pos HVx.out]];rfl,by first | exact hb0 | exact hb0.drew⟩
  ·have qx:((v:Int)==x)=false:=by simp [hvx]
   have HVx:=Lib.hid hvx
   clear hvx
   go_enter Tryz.func73,Tryz.ntmps73
   go_wp2_with fail
   go_ret
   exact ⟨by rw [show useI ts ⟨8,x,y,n,nx⟩ v=0 from by unfold useI;rw [if_neg (by simp),if_neg (by simp),if_neg (by simp),if_pos rfl,if_neg HVx.out]];rfl,by first | exact hb0 | exact hb0.drew⟩
 have b3:(op==3)=false:=by simp [o3]
 have b4:(op==4)=false:=by simp [o4]
 have b5:(op==5)=false:=by simp [o5]
 have b6:(op==6)=false:=by simp [o6]
 have b7:(op==7)=false:=by simp [o7]
 have b8:(op==8)=false:=by simp [o8]
 have he:useI ts ⟨op,x,y,n,nx⟩ v=0:=by simp [useI,o3,o4,o5,o6,o7,o8]
 have HE:=Lib.hid he
 clear o3 o4 o5 o6 o7 o8 he
 go_enter Tryz.func73,Tryz.ntmps73
 go_wp2_with fail
 go_ret
 exact ⟨by rw [HE.out];rfl,by first | exact hb0 | exact hb0.drew⟩
theorem l3Set_any (op x y n:Int) (nx:List Int) (u:Value) (w:World) :
  Calls Tryz.prog 77 #[.agg #[.int .i64 op,.int .i64 x,.int .i64 y,.int .i64 n,u]] w fun E w'=>E=.returned (.int .i64 (setI ⟨op,x,y,n,nx⟩))∧Below w.heap.size w w':=by
 have hb0:=(Below.refl w.heap.size w).alloc (Nat.le_refl _) (.cells #[.int .i64 op,.int .i64 x,.int .i64 y,.int .i64 n,u] 75)
 by_cases h1:1≤op
 ·by_cases h6:op≤6
  ·have e:setI ⟨op,x,y,n,nx⟩=x:=if_pos ⟨h1,h6⟩
   rw [e]
   have d1:decide ((1:Int)≤op)=true:=decide_eq_true h1
   have d2:decide (op≤(6:Int))=true:=decide_eq_true h6
   go_enter Tryz.func77,Tryz.ntmps77
   go_wp2_with fail
   go_ret
   exact ⟨rfl,by first | exact hb0 | exact hb0.drew⟩
  ·have e:setI ⟨op,x,y,n,nx⟩=-1:=if_neg (fun h=>h6 h.2)
   rw [e]
   have d1:decide ((1:Int)≤op)=true:=decide_eq_true h1
   have d2:decide (op≤(6:Int))=false:=decide_eq_false h6
   go_enter Tryz.func77,Tryz.ntmps77
   go_wp2_with fail
   go_ret
   exact ⟨rfl,by first | exact hb0 | exact hb0.drew⟩
 ·have e:setI ⟨op,x,y,n,nx⟩=-1:=if_neg (fun h=>h1 h.1)
  rw [e]
  have d1:decide ((1:Int)≤op)=false:=decide_eq_false h1
  go_enter Tryz.func77,Tryz.ntmps77
  go_wp2_with fail
  go_ret
  exact ⟨rfl,by first | exact hb0 | exact hb0.drew⟩
end Go.Proofs.YtedkkphogeealaaGreatDoor
