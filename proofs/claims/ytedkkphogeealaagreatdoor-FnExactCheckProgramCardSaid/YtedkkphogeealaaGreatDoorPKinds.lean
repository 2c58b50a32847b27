/- The program's kinds of statements: whether they fit their variables,and their plain field -/
import Derived.Test.YtedkkphogeealaaGreatDoorPSpecA
import Derived.Test.YtedkkphogeealaaGreatDoorPCopy0
namespace Go.Proofs.YtedkkphogeealaaGreatDoor
open Go.RowKit Go.Deep
set_option linter.unusedVariables false
set_option maxHeartbeats 1000000
theorem typeOf_any (ts:List Int) (A:Option Addr) (c:Nat) (v:Int) (w:World) (hT:IntsV w 0 w.heap.size ts A c) :
  Calls Tryz.prog 129 #[.slice A ts.length c,.int .i64 v] w fun e w'=>e=.returned (.int .i64 (tyAt ts v))∧w=w':=by
 have hm:=hT.2.1
 have hlc:=hT.1
 unfold maxLen at hm
 by_cases h0:v<0
 ·have e0:tyAt ts v=0:=if_pos (Or.inl h0)
  rw [e0]
  go_enter Tryz.func129,Tryz.ntmps129
  go_wp2_with fail
  go_ret
  exact ⟨rfl,rfl⟩
 ·by_cases h1:(ts.length:Int)≤v
  ·have e0:tyAt ts v=0:=if_pos (Or.inr h1)
   rw [e0]
   go_enter Tryz.func129,Tryz.ntmps129
   go_wp2_with fail
   go_ret
   exact ⟨rfl,rfl⟩
  ·obtain ⟨k,rfl⟩:∃ k:Nat,v=k:=⟨v.toNat,by omega⟩
   have hk:k<ts.length:=by omega
   obtain ⟨b,u,rfl,-,hbb,hx,hc⟩:=hT.elem hk
   have e0:tyAt ts k=u:=by
    unfold tyAt
    rw [if_neg (by omega)]
    simp [hx]
   rw [e0]
   clear hx e0
   go_enter Tryz.func129,Tryz.ntmps129
   go_wp2_with fail
   go_ret
   exact ⟨rfl,rfl⟩
theorem isReferenceT_any (t:Int) (w:World):Calls Tryz.prog 167 #[.int .i64 t] w fun e w'=>e=.returned (.bool (decide (t=3∨t=4)))∧w=w':=by
 by_cases h3:t=3
 ·subst h3
  go_enter Tryz.func167,Tryz.ntmps167
  go_wp2_with fail
  go_ret
  exact ⟨rfl,rfl⟩
 ·have h3':(t==3)=false:=by simpa using h3
  go_enter Tryz.func167,Tryz.ntmps167
  go_wp2_with fail
  go_ret
  exact ⟨ret_bool (by rw [Bool.eq_iff_iff];simp [h3]),rfl⟩
theorem reachesCell_any (t:Int) (w:World):Calls Tryz.prog 185 #[.int .i64 t] w fun e w'=>e=.returned (.bool (decide (t=2∨t=3∨t=4)))∧w=w':=by
 by_cases h2:t=2
 ·subst h2
  go_enter Tryz.func185,Tryz.ntmps185
  go_wp2_with fail
  go_ret
  exact ⟨rfl,rfl⟩
 ·have h2':(t==2)=false:=by simpa using h2
  go_enter Tryz.func185,Tryz.ntmps185
  go_wp2_with fail
  refine (isReferenceT_any t w).mono ?_
  rintro E w1 ⟨rfl,rfl⟩
  go_wp2_with fail
  go_ret
  exact ⟨ret_bool (by rw [Bool.eq_iff_iff];simp [h2]),rfl⟩
theorem writesCell_any (t:Int) (w:World):Calls Tryz.prog 130 #[.int .i64 t] w fun e w'=>e=.returned (.bool (decide (t=2∨t=4)))∧w=w':=by
 by_cases h3:t=2
 ·subst h3
  go_enter Tryz.func130,Tryz.ntmps130
  go_wp2_with fail
  go_ret
  exact ⟨rfl,rfl⟩
 ·have h3':(t==2)=false:=by simpa using h3
  go_enter Tryz.func130,Tryz.ntmps130
  go_wp2_with fail
  go_ret
  exact ⟨ret_bool (by rw [Bool.eq_iff_iff];simp [h3]),rfl⟩
theorem isNumber_any (n:Int) (w:World):Calls Tryz.prog 175 #[.int .i64 n] w fun e w'=>e=.returned (.bool (decide (0≤n∧n≤9)))∧w=w':=by
 go_enter Tryz.func175,Tryz.ntmps175
 go_wp2_with fail
 all_goals
  go_ret
  refine ⟨ret_bool ?_,rfl⟩
  first | rfl | (rw [Bool.eq_iff_iff];simp;omega) | (simp;omega)
def fitsB (op tx ty x y n:Int):Bool :=
 if op=1 then decide (tx=1∧0≤n∧n≤9)
 else if op=2 then decide (tx=2∧0≤n∧n≤9)
 else if op=3 then decide (¬ tx=0∧ty=tx∧¬ x=y)
 else if op=4 then decide (tx=3∧(ty=2∨ty=3∨ty=4)∧¬ x=y)
 else if op=5 then decide (tx=4∧(ty=2∨ty=4)∧¬ x=y)
 else if op=6 then decide (tx=1∧(ty=2∨ty=3∨ty=4))
 else if op=7 then decide ((tx=2∨tx=4)∧ty=1)
 else if op=8 then decide (tx=2)
 else true
theorem fits_1 (ts:List Int) (A:Option Addr) (c:Nat) (x y n tx ty:Int) (w:World) (hT:IntsV w 0 w.heap.size ts A c) (hx:Hid (tyAt ts x=tx)) (hy:Hid (tyAt ts y=ty)) :
  Calls Tryz.prog 172 #[.agg #[.int .i64 x,.int .i64 n],.slice A ts.length c] w fun e w'=>e=.returned (.bool (fitsB 1 tx ty x y n))∧Below w.heap.size w w':=by
 have hT1:IntsV (w.alloc (.cells #[.int .i64 x,.int .i64 n] 234)) 0 (w.alloc (.cells #[.int .i64 x,.int .i64 n] 234)).heap.size ts A c:=hT.below ((Below.refl _ _).alloc (Nat.le_refl _) _) (by simp)
 by_cases h1:tx=1
 ·subst h1
  by_cases h2:0≤n∧n≤9
  ·have H2:Hid (decide (0≤n∧n≤9)=true):=by unfold Hid;simpa using h2
   have e0:fitsB 1 1 ty x y n=true:=by simp [fitsB,h2]
   rw [e0]
   clear e0
   clear h2
   go_enter Tryz.func172,Tryz.ntmps172
   go_wp2_with fail
   refine (typeOf_any ts A c x _ hT1).mono ?_
   rintro E w1 ⟨he,rfl⟩
   rw [hx.out] at he
   subst he
   go_wp2_with fail
   refine (isNumber_any n _).mono ?_
   rintro E w1 ⟨he,rfl⟩
   rw [H2.out] at he
   subst he
   go_wp2_with fail
   go_ret
   exact ⟨rfl,(Below.refl _ _).alloc (Nat.le_refl _) _⟩
  ·have H2:Hid (decide (0≤n∧n≤9)=false):=by unfold Hid;simpa using h2
   have e0:fitsB 1 1 ty x y n=false:=by simp only [fitsB];simpa using h2
   rw [e0]
   clear e0
   clear h2
   go_enter Tryz.func172,Tryz.ntmps172
   go_wp2_with fail
   refine (typeOf_any ts A c x _ hT1).mono ?_
   rintro E w1 ⟨he,rfl⟩
   rw [hx.out] at he
   subst he
   go_wp2_with fail
   refine (isNumber_any n _).mono ?_
   rintro E w1 ⟨he,rfl⟩
   rw [H2.out] at he
   subst he
   go_wp2_with fail
   go_ret
   exact ⟨rfl,(Below.refl _ _).alloc (Nat.le_refl _) _⟩
 ·have h1':(tx==1)=false:=by simpa using h1
  have e0:fitsB 1 tx ty x y n=false:=by simp [fitsB,h1]
  rw [e0]
  clear e0
  go_enter Tryz.func172,Tryz.ntmps172
  go_wp2_with fail
  refine (typeOf_any ts A c x _ hT1).mono ?_
  rintro E w1 ⟨he,rfl⟩
  rw [hx.out] at he
  subst he
  go_wp2_with fail
  go_ret
  exact ⟨rfl,(Below.refl _ _).alloc (Nat.le_refl _) _⟩
theorem fits_2 (ts:List Int) (A:Option Addr) (c:Nat) (x y n tx ty:Int) (w:World) (hT:IntsV w 0 w.heap.size ts A c) (hx:Hid (tyAt ts x=tx)) (hy:Hid (tyAt ts y=ty)) :
  Calls Tryz.prog 176 #[.agg #[.int .i64 x,.int .i64 n],.slice A ts.length c] w fun e w'=>e=.returned (.bool (fitsB 2 tx ty x y n))∧Below w.heap.size w w':=by
 have hT1:IntsV (w.alloc (.cells #[.int .i64 x,.int .i64 n] 235)) 0 (w.alloc (.cells #[.int .i64 x,.int .i64 n] 235)).heap.size ts A c:=hT.below ((Below.refl _ _).alloc (Nat.le_refl _) _) (by simp)
 by_cases h1:tx=2
 ·subst h1
  by_cases h2:0≤n∧n≤9
  ·have H2:Hid (decide (0≤n∧n≤9)=true):=by unfold Hid;simpa using h2
   have e0:fitsB 2 2 ty x y n=true:=by simp [fitsB,h2]
   rw [e0]
   clear e0
   clear h2
   go_enter Tryz.func176,Tryz.ntmps176
   go_wp2_with fail
   refine (typeOf_any ts A c x _ hT1).mono ?_
   rintro E w1 ⟨he,rfl⟩
   rw [hx.out] at he
   subst he
   go_wp2_with fail
   refine (isNumber_any n _).mono ?_
   rintro E w1 ⟨he,rfl⟩
   rw [H2.out] at he
   subst he
   go_wp2_with fail
   go_ret
   exact ⟨rfl,(Below.refl _ _).alloc (Nat.le_refl _) _⟩
  ·have H2:Hid (decide (0≤n∧n≤9)=false):=by unfold Hid;simpa using h2
   have e0:fitsB 2 2 ty x y n=false:=by simp only [fitsB];simpa using h2
   rw [e0]
   clear e0
   clear h2
   go_enter Tryz.func176,Tryz.ntmps176
   go_wp2_with fail
   refine (typeOf_any ts A c x _ hT1).mono ?_
   rintro E w1 ⟨he,rfl⟩
   rw [hx.out] at he
   subst he
   go_wp2_with fail
   refine (isNumber_any n _).mono ?_
   rintro E w1 ⟨he,rfl⟩
   rw [H2.out] at he
   subst he
   go_wp2_with fail
   go_ret
   exact ⟨rfl,(Below.refl _ _).alloc (Nat.le_refl _) _⟩
 ·have h1':(tx==2)=false:=by simpa using h1
  have e0:fitsB 2 tx ty x y n=false:=by simp [fitsB,h1]
  rw [e0]
  clear e0
  go_enter Tryz.func176,Tryz.ntmps176
  go_wp2_with fail
  refine (typeOf_any ts A c x _ hT1).mono ?_
  rintro E w1 ⟨he,rfl⟩
  rw [hx.out] at he
  subst he
  go_wp2_with fail
  go_ret
  exact ⟨rfl,(Below.refl _ _).alloc (Nat.le_refl _) _⟩
theorem fits_3 (ts:List Int) (A:Option Addr) (c:Nat) (x y n tx ty:Int) (w:World) (hT:IntsV w 0 w.heap.size ts A c) (hx:Hid (tyAt ts x=tx)) (hy:Hid (tyAt ts y=ty)) :
  Calls Tryz.prog 179 #[.agg #[.int .i64 x,.int .i64 y],.slice A ts.length c] w fun e w'=>e=.returned (.bool (fitsB 3 tx ty x y n))∧Below w.heap.size w w':=by
 have hT1:IntsV (w.alloc (.cells #[.int .i64 x,.int .i64 y] 237)) 0 (w.alloc (.cells #[.int .i64 x,.int .i64 y] 237)).heap.size ts A c:=hT.below ((Below.refl _ _).alloc (Nat.le_refl _) _) (by simp)
 by_cases h1:tx=0
 ·subst h1
  have e0:fitsB 3 0 ty x y n=false:=by simp [fitsB]
  rw [e0]
  clear e0
  go_enter Tryz.func179,Tryz.ntmps179
  go_wp2_with fail
  refine (typeOf_any ts A c x _ hT1).mono ?_
  rintro E w1 ⟨he,rfl⟩
  rw [hx.out] at he
  subst he
  go_wp2_with fail
  go_ret
  exact ⟨rfl,(Below.refl _ _).alloc (Nat.le_refl _) _⟩
 ·have h1':(tx != 0)=true:=by simpa using h1
  by_cases h2:ty=tx
  ·subst h2
   by_cases h3:x=y
   ·subst h3
    have e0:fitsB 3 ty ty x x n=false:=by simp [fitsB]
    rw [e0]
    clear e0
    go_enter Tryz.func179,Tryz.ntmps179
    go_wp2_with fail
    refine (typeOf_any ts A c x _ hT1).mono ?_
    rintro E w1 ⟨he,rfl⟩
    rw [hx.out] at he
    subst he
    go_wp2_with fail
    refine (typeOf_any ts A c x _ hT1).mono ?_
    rintro E w1 ⟨he,rfl⟩
    rw [hy.out] at he
    subst he
    go_wp2_with fail
    go_ret
    exact ⟨rfl,(Below.refl _ _).alloc (Nat.le_refl _) _⟩
   ·have h3':(x != y)=true:=by simpa using h3
    have e0:fitsB 3 ty ty x y n=true:=by simp [fitsB,h1,h3]
    rw [e0]
    clear e0
    go_enter Tryz.func179,Tryz.ntmps179
    go_wp2_with fail
    refine (typeOf_any ts A c x _ hT1).mono ?_
    rintro E w1 ⟨he,rfl⟩
    rw [hx.out] at he
    subst he
    go_wp2_with fail
    refine (typeOf_any ts A c y _ hT1).mono ?_
    rintro E w1 ⟨he,rfl⟩
    rw [hy.out] at he
    subst he
    go_wp2_with fail
    go_ret
    exact ⟨rfl,(Below.refl _ _).alloc (Nat.le_refl _) _⟩
  ·have h2':(ty==tx)=false:=by simpa using h2
   have e0:fitsB 3 tx ty x y n=false:=by simp [fitsB,h2]
   rw [e0]
   clear e0
   go_enter Tryz.func179,Tryz.ntmps179
   go_wp2_with fail
   refine (typeOf_any ts A c x _ hT1).mono ?_
   rintro E w1 ⟨he,rfl⟩
   rw [hx.out] at he
   subst he
   go_wp2_with fail
   refine (typeOf_any ts A c y _ hT1).mono ?_
   rintro E w1 ⟨he,rfl⟩
   rw [hy.out] at he
   subst he
   go_wp2_with fail
   go_ret
   exact ⟨rfl,(Below.refl _ _).alloc (Nat.le_refl _) _⟩
theorem fits_4 (ts:List Int) (A:Option Addr) (c:Nat) (x y n tx ty:Int) (w:World) (hT:IntsV w 0 w.heap.size ts A c) (hx:Hid (tyAt ts x=tx)) (hy:Hid (tyAt ts y=ty)) :
  Calls Tryz.prog 182 #[.agg #[.int .i64 x,.int .i64 y],.slice A ts.length c] w fun e w'=>e=.returned (.bool (fitsB 4 tx ty x y n))∧Below w.heap.size w w':=by
 have hT1:IntsV (w.alloc (.cells #[.int .i64 x,.int .i64 y] 238)) 0 (w.alloc (.cells #[.int .i64 x,.int .i64 y] 238)).heap.size ts A c:=hT.below ((Below.refl _ _).alloc (Nat.le_refl _) _) (by simp)
 by_cases h1:tx=3
 ·subst h1
  by_cases h2:ty=2∨ty=3∨ty=4
  ·have H2:Hid (decide (ty=2∨ty=3∨ty=4)=true):=by unfold Hid;simpa using h2
   by_cases h3:x=y
   ·subst h3
    have e0:fitsB 4 3 ty x x n=false:=by simp [fitsB]
    rw [e0]
    clear e0 h2
    go_enter Tryz.func182,Tryz.ntmps182
    go_wp2_with fail
    refine (typeOf_any ts A c x _ hT1).mono ?_
    rintro E w1 ⟨he,rfl⟩
    rw [hx.out] at he
    subst he
    go_wp2_with fail
    refine (typeOf_any ts A c x _ hT1).mono ?_
    rintro E w1 ⟨he,rfl⟩
    rw [hy.out] at he
    subst he
    go_wp2_with fail
    refine (reachesCell_any ty _).mono ?_
    rintro E w1 ⟨he,rfl⟩
    rw [H2.out] at he
    subst he
    go_wp2_with fail
    go_ret
    exact ⟨rfl,(Below.refl _ _).alloc (Nat.le_refl _) _⟩
   ·have h3':(x != y)=true:=by simpa using h3
    have e0:fitsB 4 3 ty x y n=true:=by simp [fitsB,h2,h3]
    rw [e0]
    clear e0 h2
    go_enter Tryz.func182,Tryz.ntmps182
    go_wp2_with fail
    refine (typeOf_any ts A c x _ hT1).mono ?_
    rintro E w1 ⟨he,rfl⟩
    rw [hx.out] at he
    subst he
    go_wp2_with fail
    refine (typeOf_any ts A c y _ hT1).mono ?_
    rintro E w1 ⟨he,rfl⟩
    rw [hy.out] at he
    subst he
    go_wp2_with fail
    refine (reachesCell_any ty _).mono ?_
    rintro E w1 ⟨he,rfl⟩
    rw [H2.out] at he
    subst he
    go_wp2_with fail
    go_ret
    exact ⟨rfl,(Below.refl _ _).alloc (Nat.le_refl _) _⟩
  ·have H2:Hid (decide (ty=2∨ty=3∨ty=4)=false):=by unfold Hid;simpa using h2
   have e0:fitsB 4 3 ty x y n=false:=by simp [fitsB,h2]
   rw [e0]
   clear e0 h2
   go_enter Tryz.func182,Tryz.ntmps182
   go_wp2_with fail
   refine (typeOf_any ts A c x _ hT1).mono ?_
   rintro E w1 ⟨he,rfl⟩
   rw [hx.out] at he
   subst he
   go_wp2_with fail
   refine (typeOf_any ts A c y _ hT1).mono ?_
   rintro E w1 ⟨he,rfl⟩
   rw [hy.out] at he
   subst he
   go_wp2_with fail
   refine (reachesCell_any ty _).mono ?_
   rintro E w1 ⟨he,rfl⟩
   rw [H2.out] at he
   subst he
   go_wp2_with fail
   go_ret
   exact ⟨rfl,(Below.refl _ _).alloc (Nat.le_refl _) _⟩
 ·have h1':(tx==3)=false:=by simpa using h1
  have e0:fitsB 4 tx ty x y n=false:=by simp [fitsB,h1]
  rw [e0]
  clear e0
  go_enter Tryz.func182,Tryz.ntmps182
  go_wp2_with fail
  refine (typeOf_any ts A c x _ hT1).mono ?_
  rintro E w1 ⟨he,rfl⟩
  rw [hx.out] at he
  subst he
  go_wp2_with fail
  go_ret
  exact ⟨rfl,(Below.refl _ _).alloc (Nat.le_refl _) _⟩
theorem fits_5 (ts:List Int) (A:Option Addr) (c:Nat) (x y n tx ty:Int) (w:World) (hT:IntsV w 0 w.heap.size ts A c) (hx:Hid (tyAt ts x=tx)) (hy:Hid (tyAt ts y=ty)) :
  Calls Tryz.prog 186 #[.agg #[.int .i64 x,.int .i64 y],.slice A ts.length c] w fun e w'=>e=.returned (.bool (fitsB 5 tx ty x y n))∧Below w.heap.size w w':=by
 have hT1:IntsV (w.alloc (.cells #[.int .i64 x,.int .i64 y] 239)) 0 (w.alloc (.cells #[.int .i64 x,.int .i64 y] 239)).heap.size ts A c:=hT.below ((Below.refl _ _).alloc (Nat.le_refl _) _) (by simp)
 by_cases h1:tx=4
 ·subst h1
  by_cases h2:ty=2∨ty=4
  ·have H2:Hid (decide (ty=2∨ty=4)=true):=by unfold Hid;simpa using h2
   by_cases h3:x=y
   ·subst h3
    have e0:fitsB 5 4 ty x x n=false:=by simp [fitsB]
    rw [e0]
    clear e0 h2
    go_enter Tryz.func186,Tryz.ntmps186
    go_wp2_with fail
    refine (typeOf_any ts A c x _ hT1).mono ?_
    rintro E w1 ⟨he,rfl⟩
    rw [hx.out] at he
    subst he
    go_wp2_with fail
    refine (typeOf_any ts A c x _ hT1).mono ?_
    rintro E w1 ⟨he,rfl⟩
    rw [hy.out] at he
    subst he
    go_wp2_with fail
    refine (writesCell_any ty _).mono ?_
    rintro E w1 ⟨he,rfl⟩
    rw [H2.out] at he
    subst he
    go_wp2_with fail
    go_ret
    exact ⟨rfl,(Below.refl _ _).alloc (Nat.le_refl _) _⟩
   ·have h3':(x != y)=true:=by simpa using h3
    have e0:fitsB 5 4 ty x y n=true:=by simp [fitsB,h2,h3]
    rw [e0]
    clear e0 h2
    go_enter Tryz.func186,Tryz.ntmps186
    go_wp2_with fail
    refine (typeOf_any ts A c x _ hT1).mono ?_
    rintro E w1 ⟨he,rfl⟩
    rw [hx.out] at he
    subst he
    go_wp2_with fail
    refine (typeOf_any ts A c y _ hT1).mono ?_
    rintro E w1 ⟨he,rfl⟩
    rw [hy.out] at he
    subst he
    go_wp2_with fail
    refine (writesCell_any ty _).mono ?_
    rintro E w1 ⟨he,rfl⟩
    rw [H2.out] at he
    subst he
    go_wp2_with fail
    go_ret
    exact ⟨rfl,(Below.refl _ _).alloc (Nat.le_refl _) _⟩
  ·have H2:Hid (decide (ty=2∨ty=4)=false):=by unfold Hid;simpa using h2
   have e0:fitsB 5 4 ty x y n=false:=by simp [fitsB,h2]
   rw [e0]
   clear e0 h2
   go_enter Tryz.func186,Tryz.ntmps186
   go_wp2_with fail
   refine (typeOf_any ts A c x _ hT1).mono ?_
   rintro E w1 ⟨he,rfl⟩
   rw [hx.out] at he
   subst he
   go_wp2_with fail
   refine (typeOf_any ts A c y _ hT1).mono ?_
   rintro E w1 ⟨he,rfl⟩
   rw [hy.out] at he
   subst he
   go_wp2_with fail
   refine (writesCell_any ty _).mono ?_
   rintro E w1 ⟨he,rfl⟩
   rw [H2.out] at he
   subst he
   go_wp2_with fail
   go_ret
   exact ⟨rfl,(Below.refl _ _).alloc (Nat.le_refl _) _⟩
 ·have h1':(tx==4)=false:=by simpa using h1
  have e0:fitsB 5 tx ty x y n=false:=by simp [fitsB,h1]
  rw [e0]
  clear e0
  go_enter Tryz.func186,Tryz.ntmps186
  go_wp2_with fail
  refine (typeOf_any ts A c x _ hT1).mono ?_
  rintro E w1 ⟨he,rfl⟩
  rw [hx.out] at he
  subst he
  go_wp2_with fail
  go_ret
  exact ⟨rfl,(Below.refl _ _).alloc (Nat.le_refl _) _⟩
theorem fits_6 (ts:List Int) (A:Option Addr) (c:Nat) (x y n tx ty:Int) (w:World) (hT:IntsV w 0 w.heap.size ts A c) (hx:Hid (tyAt ts x=tx)) (hy:Hid (tyAt ts y=ty)) :
  Calls Tryz.prog 189 #[.agg #[.int .i64 x,.int .i64 y],.slice A ts.length c] w fun e w'=>e=.returned (.bool (fitsB 6 tx ty x y n))∧Below w.heap.size w w':=by
 have hT1:IntsV (w.alloc (.cells #[.int .i64 x,.int .i64 y] 240)) 0 (w.alloc (.cells #[.int .i64 x,.int .i64 y] 240)).heap.size ts A c:=hT.below ((Below.refl _ _).alloc (Nat.le_refl _) _) (by simp)
 by_cases h1:tx=1
 ·subst h1
  by_cases h2:ty=2∨ty=3∨ty=4
  ·have H2:Hid (decide (ty=2∨ty=3∨ty=4)=true):=by unfold Hid;simpa using h2
   have e0:fitsB 6 1 ty x y n=true:=by simp [fitsB,h2]
   rw [e0]
   clear e0 h2
   go_enter Tryz.func189,Tryz.ntmps189
   go_wp2_with fail
   refine (typeOf_any ts A c x _ hT1).mono ?_
   rintro E w1 ⟨he,rfl⟩
   rw [hx.out] at he
   subst he
   go_wp2_with fail
   refine (typeOf_any ts A c y _ hT1).mono ?_
   rintro E w1 ⟨he,rfl⟩
   rw [hy.out] at he
   subst he
   go_wp2_with fail
   refine (reachesCell_any ty _).mono ?_
   rintro E w1 ⟨he,rfl⟩
   rw [H2.out] at he
   subst he
   go_wp2_with fail
   go_ret
   exact ⟨rfl,(Below.refl _ _).alloc (Nat.le_refl _) _⟩
  ·have H2:Hid (decide (ty=2∨ty=3∨ty=4)=false):=by unfold Hid;simpa using h2
   have e0:fitsB 6 1 ty x y n=false:=by simp [fitsB,h2]
   rw [e0]
   clear e0 h2
   go_enter Tryz.func189,Tryz.ntmps189
   go_wp2_with fail
   refine (typeOf_any ts A c x _ hT1).mono ?_
   rintro E w1 ⟨he,rfl⟩
   rw [hx.out] at he
   subst he
   go_wp2_with fail
   refine (typeOf_any ts A c y _ hT1).mono ?_
   rintro E w1 ⟨he,rfl⟩
   rw [hy.out] at he
   subst he
   go_wp2_with fail
   refine (reachesCell_any ty _).mono ?_
   rintro E w1 ⟨he,rfl⟩
   rw [H2.out] at he
   subst he
   go_wp2_with fail
   go_ret
   exact ⟨rfl,(Below.refl _ _).alloc (Nat.le_refl _) _⟩
 ·have h1':(tx==1)=false:=by simpa using h1
  have e0:fitsB 6 tx ty x y n=false:=by simp [fitsB,h1]
  rw [e0]
  clear e0
  go_enter Tryz.func189,Tryz.ntmps189
  go_wp2_with fail
  refine (typeOf_any ts A c x _ hT1).mono ?_
  rintro E w1 ⟨he,rfl⟩
  rw [hx.out] at he
  subst he
  go_wp2_with fail
  go_ret
  exact ⟨rfl,(Below.refl _ _).alloc (Nat.le_refl _) _⟩
theorem fits_7 (ts:List Int) (A:Option Addr) (c:Nat) (x y n tx ty:Int) (w:World) (hT:IntsV w 0 w.heap.size ts A c) (hx:Hid (tyAt ts x=tx)) (hy:Hid (tyAt ts y=ty)) :
  Calls Tryz.prog 192 #[.agg #[.int .i64 x,.int .i64 y],.slice A ts.length c] w fun e w'=>e=.returned (.bool (fitsB 7 tx ty x y n))∧Below w.heap.size w w':=by
 have hT1:IntsV (w.alloc (.cells #[.int .i64 x,.int .i64 y] 241)) 0 (w.alloc (.cells #[.int .i64 x,.int .i64 y] 241)).heap.size ts A c:=hT.below ((Below.refl _ _).alloc (Nat.le_refl _) _) (by simp)
 by_cases h1:tx=2∨tx=4
 ·have H1:Hid (decide (tx=2∨tx=4)=true):=by unfold Hid;simpa using h1
  by_cases h2:ty=1
  ·subst h2
   have e0:fitsB 7 tx 1 x y n=true:=by simp [fitsB,h1]
   rw [e0]
   clear e0 h1
   go_enter Tryz.func192,Tryz.ntmps192
   go_wp2_with fail
   refine (typeOf_any ts A c x _ hT1).mono ?_
   rintro E w1 ⟨he,rfl⟩
   rw [hx.out] at he
   subst he
   go_wp2_with fail
   refine (writesCell_any tx _).mono ?_
   rintro E w1 ⟨he,rfl⟩
   rw [H1.out] at he
   subst he
   go_wp2_with fail
   refine (typeOf_any ts A c y _ hT1).mono ?_
   rintro E w1 ⟨he,rfl⟩
   rw [hy.out] at he
   subst he
   go_wp2_with fail
   go_ret
   exact ⟨rfl,(Below.refl _ _).alloc (Nat.le_refl _) _⟩
  ·have h2':(ty==1)=false:=by simpa using h2
   have e0:fitsB 7 tx ty x y n=false:=by simp [fitsB,h2]
   rw [e0]
   clear e0 h1
   go_enter Tryz.func192,Tryz.ntmps192
   go_wp2_with fail
   refine (typeOf_any ts A c x _ hT1).mono ?_
   rintro E w1 ⟨he,rfl⟩
   rw [hx.out] at he
   subst he
   go_wp2_with fail
   refine (writesCell_any tx _).mono ?_
   rintro E w1 ⟨he,rfl⟩
   rw [H1.out] at he
   subst he
   go_wp2_with fail
   refine (typeOf_any ts A c y _ hT1).mono ?_
   rintro E w1 ⟨he,rfl⟩
   rw [hy.out] at he
   subst he
   go_wp2_with fail
   go_ret
   exact ⟨rfl,(Below.refl _ _).alloc (Nat.le_refl _) _⟩
 ·have H1:Hid (decide (tx=2∨tx=4)=false):=by unfold Hid;simpa using h1
  have e0:fitsB 7 tx ty x y n=false:=by simp [fitsB,h1]
  rw [e0]
  clear e0 h1
  go_enter Tryz.func192,Tryz.ntmps192
  go_wp2_with fail
  refine (typeOf_any ts A c x _ hT1).mono ?_
  rintro E w1 ⟨he,rfl⟩
  rw [hx.out] at he
  subst he
  go_wp2_with fail
  refine (writesCell_any tx _).mono ?_
  rintro E w1 ⟨he,rfl⟩
  rw [H1.out] at he
  subst he
  go_wp2_with fail
  go_ret
  exact ⟨rfl,(Below.refl _ _).alloc (Nat.le_refl _) _⟩
theorem fits_8 (ts:List Int) (A:Option Addr) (c:Nat) (x y n tx ty:Int) (w:World) (hT:IntsV w 0 w.heap.size ts A c) (hx:Hid (tyAt ts x=tx)) (hy:Hid (tyAt ts y=ty)) :
  Calls Tryz.prog 195 #[.agg #[.int .i64 x],.slice A ts.length c] w fun e w'=>e=.returned (.bool (fitsB 8 tx ty x y n))∧Below w.heap.size w w':=by
 have hT1:IntsV (w.alloc (.cells #[.int .i64 x] 243)) 0 (w.alloc (.cells #[.int .i64 x] 243)).heap.size ts A c:=hT.below ((Below.refl _ _).alloc (Nat.le_refl _) _) (by simp)
 by_cases h1:tx=2
 ·have h1':(tx==2)=true:=by simpa using h1
  have e0:fitsB 8 tx ty x y n=true:=by simp [fitsB,h1]
  rw [e0]
  clear e0
  clear h1
  go_enter Tryz.func195,Tryz.ntmps195
  go_wp2_with fail
  refine (typeOf_any ts A c x _ hT1).mono ?_
  rintro E w1 ⟨he,rfl⟩
  rw [hx.out] at he
  subst he
  go_wp2_with fail
  go_ret
  exact ⟨rfl,(Below.refl _ _).alloc (Nat.le_refl _) _⟩
 ·have h1':(tx==2)=false:=by simpa using h1
  have e0:fitsB 8 tx ty x y n=false:=by simp [fitsB,h1]
  rw [e0]
  clear e0
  go_enter Tryz.func195,Tryz.ntmps195
  go_wp2_with fail
  refine (typeOf_any ts A c x _ hT1).mono ?_
  rintro E w1 ⟨he,rfl⟩
  rw [hx.out] at he
  subst he
  go_wp2_with fail
  go_ret
  exact ⟨rfl,(Below.refl _ _).alloc (Nat.le_refl _) _⟩
end Go.Proofs.YtedkkphogeealaaGreatDoor
