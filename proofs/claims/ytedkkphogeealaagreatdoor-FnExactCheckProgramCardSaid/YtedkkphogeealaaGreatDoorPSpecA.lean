/- The model's checks of a simple statement. -/
import Derived.Test.YtedkkphogeealaaGreatDoorRows
import Derived.Test.YtedkkphogeealaaGreatDoorPBase
import Derived.WalkKit
import Derived.WalkSpells
import Derived.Lib.Hide
import Derived.Deep.QuietTactic
import Derived.BigQuiet
namespace Go.Proofs.YtedkkphogeealaaGreatDoor
open Go.RowKit Go.Deep
set_option maxHeartbeats 4000000
theorem l1Type_any (ts:List Int) (A:Option Addr) (c:Nat) (v:Int) (w:World) (hT:IntsV w 0 w.heap.size ts A c) :
  Calls Tryz.prog 136 #[.slice A ts.length c,.int .i64 v] w fun e w'=>e=.returned (.int .i64 (tyAt ts v))∧w=w':=by
 have hm:=hT.2.1
 have hlc:=hT.1
 unfold maxLen at hm
 by_cases h0:v<0
 ·have e0:tyAt ts v=0:=if_pos (Or.inl h0)
  rw [e0]
  go_enter Tryz.func136,Tryz.ntmps136
  go_wp2_with fail
  go_ret
  exact ⟨rfl,rfl⟩
 ·by_cases h1:(ts.length:Int)≤v
  ·have e0:tyAt ts v=0:=if_pos (Or.inr h1)
   rw [e0]
   go_enter Tryz.func136,Tryz.ntmps136
   go_wp2_with fail
   go_ret
   exact ⟨rfl,rfl⟩
  ·obtain ⟨k,rfl⟩:∃ k:Nat,v=k:=⟨v.toNat,by omega⟩
   have hk:k<ts.length:=by omega
   obtain ⟨b,u,rfl,-,hbb,hx,hc⟩:=hT.elem hk
   have e0:tyAt ts k=u:=by
    unfold tyAt
    rw [if_neg (by omega)]
    simp [hx]
   rw [e0]
   clear hx e0
   go_enter Tryz.func136,Tryz.ntmps136
   go_wp2_with fail
   go_ret
   exact ⟨rfl,rfl⟩
theorem ret_bool {a b:Bool} (h:a=b):Ending.returned (.bool a)=.returned (.bool b):=by rw [h]
theorem l1Simple_1 (ts:List Int) (A:Option Addr) (c:Nat) (x y n tx ty:Int) (v4 v5:Value) (w:World) (hT:IntsV w 0 w.heap.size ts A c) (hx:Hid (tyAt ts x=tx)) (hy:Hid (tyAt ts y=ty)) :
  Calls Tryz.prog 122 #[.slice A ts.length c,.agg #[.int .i64 1,.int .i64 x,.int .i64 y,.int .i64 n,v4,v5]] w fun e w'=>e=.returned (.bool (simpleB 1 tx ty x y n))∧Below w.heap.size w w':=by
 have hb0:=(Below.refl w.heap.size w).alloc (Nat.le_refl _) (.cells #[.int .i64 1,.int .i64 x,.int .i64 y,.int .i64 n,v4,v5] 121)
 go_enter Tryz.func122,Tryz.ntmps122
 go_wp2_with fail
 refine (l1Type_any ts A c x _ (hT.below hb0 (by simp))).mono ?_
 rintro E w1 ⟨he,rfl⟩
 rw [hx.out] at he
 subst he
 go_wp2_with fail
 refine (l1Type_any ts A c y _ (hT.below hb0 (by simp))).mono ?_
 rintro E w1 ⟨he,rfl⟩
 rw [hy.out] at he
 subst he
 clear hb0 hx hy hT
 go_wp2_with fail
 all_goals
  go_ret
  refine ⟨ret_bool ?_,(Below.refl _ _).alloc (Nat.le_refl _) _⟩
  subst_vars
  first | rfl | (rw [Bool.eq_iff_iff];simp [simpleB];done) | (rw [Bool.eq_iff_iff];simp [simpleB];omega)
theorem l1Simple_2 (ts:List Int) (A:Option Addr) (c:Nat) (x y n tx ty:Int) (v4 v5:Value) (w:World) (hT:IntsV w 0 w.heap.size ts A c) (hx:Hid (tyAt ts x=tx)) (hy:Hid (tyAt ts y=ty)) :
  Calls Tryz.prog 122 #[.slice A ts.length c,.agg #[.int .i64 2,.int .i64 x,.int .i64 y,.int .i64 n,v4,v5]] w fun e w'=>e=.returned (.bool (simpleB 2 tx ty x y n))∧Below w.heap.size w w':=by
 have hb0:=(Below.refl w.heap.size w).alloc (Nat.le_refl _) (.cells #[.int .i64 2,.int .i64 x,.int .i64 y,.int .i64 n,v4,v5] 121)
 go_enter Tryz.func122,Tryz.ntmps122
 go_wp2_with fail
 refine (l1Type_any ts A c x _ (hT.below hb0 (by simp))).mono ?_
 rintro E w1 ⟨he,rfl⟩
 rw [hx.out] at he
 subst he
 go_wp2_with fail
 refine (l1Type_any ts A c y _ (hT.below hb0 (by simp))).mono ?_
 rintro E w1 ⟨he,rfl⟩
 rw [hy.out] at he
 subst he
 clear hb0 hx hy hT
 go_wp2_with fail
 all_goals
  go_ret
  refine ⟨ret_bool ?_,(Below.refl _ _).alloc (Nat.le_refl _) _⟩
  subst_vars
  first | rfl | (rw [Bool.eq_iff_iff];simp [simpleB];done) | (rw [Bool.eq_iff_iff];simp [simpleB];omega)
theorem l1Simple_3 (ts:List Int) (A:Option Addr) (c:Nat) (x y n tx ty:Int) (v4 v5:Value) (w:World) (hT:IntsV w 0 w.heap.size ts A c) (hx:Hid (tyAt ts x=tx)) (hy:Hid (tyAt ts y=ty)) (hn:n=0) :
  Calls Tryz.prog 122 #[.slice A ts.length c,.agg #[.int .i64 3,.int .i64 x,.int .i64 y,.int .i64 n,v4,v5]] w fun e w'=>e=.returned (.bool (simpleB 3 tx ty x y n))∧Below w.heap.size w w':=by
 have hb0:=(Below.refl w.heap.size w).alloc (Nat.le_refl _) (.cells #[.int .i64 3,.int .i64 x,.int .i64 y,.int .i64 n,v4,v5] 121)
 subst hn
 go_enter Tryz.func122,Tryz.ntmps122
 go_wp2_with fail
 refine (l1Type_any ts A c x _ (hT.below hb0 (by simp))).mono ?_
 rintro E w1 ⟨he,rfl⟩
 rw [hx.out] at he
 subst he
 go_wp2_with fail
 refine (l1Type_any ts A c y _ (hT.below hb0 (by simp))).mono ?_
 rintro E w1 ⟨he,rfl⟩
 rw [hy.out] at he
 subst he
 clear hb0 hx hy hT
 go_wp2_with fail
 all_goals
  go_ret
  refine ⟨ret_bool ?_,(Below.refl _ _).alloc (Nat.le_refl _) _⟩
  subst_vars
  first | rfl | (rw [Bool.eq_iff_iff];simp [simpleB];done) | (rw [Bool.eq_iff_iff];simp [simpleB];omega)
theorem l1Simple_3n (ts:List Int) (A:Option Addr) (c:Nat) (x y n tx ty:Int) (v4 v5:Value) (w:World) (hT:IntsV w 0 w.heap.size ts A c) (hx:Hid (tyAt ts x=tx)) (hy:Hid (tyAt ts y=ty)) (hn:¬ n=0) :
  Calls Tryz.prog 122 #[.slice A ts.length c,.agg #[.int .i64 3,.int .i64 x,.int .i64 y,.int .i64 n,v4,v5]] w fun e w'=>e=.returned (.bool (simpleB 3 tx ty x y n))∧Below w.heap.size w w':=by
 have hb0:=(Below.refl w.heap.size w).alloc (Nat.le_refl _) (.cells #[.int .i64 3,.int .i64 x,.int .i64 y,.int .i64 n,v4,v5] 121)
 have hn':(n != 0)=true:=by simpa using hn
 go_enter Tryz.func122,Tryz.ntmps122
 go_wp2_with fail
 refine (l1Type_any ts A c x _ (hT.below hb0 (by simp))).mono ?_
 rintro E w1 ⟨he,rfl⟩
 rw [hx.out] at he
 subst he
 go_wp2_with fail
 refine (l1Type_any ts A c y _ (hT.below hb0 (by simp))).mono ?_
 rintro E w1 ⟨he,rfl⟩
 rw [hy.out] at he
 subst he
 clear hb0 hx hy hT
 go_wp2_with fail
 all_goals
  go_ret
  refine ⟨ret_bool ?_,(Below.refl _ _).alloc (Nat.le_refl _) _⟩
  subst_vars
  first | rfl | (rw [Bool.eq_iff_iff];simp [simpleB,hn];done) | (rw [Bool.eq_iff_iff];simp [simpleB,hn];omega)
theorem l1Simple_4 (ts:List Int) (A:Option Addr) (c:Nat) (x y n tx ty:Int) (v4 v5:Value) (w:World) (hT:IntsV w 0 w.heap.size ts A c) (hx:Hid (tyAt ts x=tx)) (hy:Hid (tyAt ts y=ty)) (hn:n=0) :
  Calls Tryz.prog 122 #[.slice A ts.length c,.agg #[.int .i64 4,.int .i64 x,.int .i64 y,.int .i64 n,v4,v5]] w fun e w'=>e=.returned (.bool (simpleB 4 tx ty x y n))∧Below w.heap.size w w':=by
 have hb0:=(Below.refl w.heap.size w).alloc (Nat.le_refl _) (.cells #[.int .i64 4,.int .i64 x,.int .i64 y,.int .i64 n,v4,v5] 121)
 subst hn
 go_enter Tryz.func122,Tryz.ntmps122
 go_wp2_with fail
 refine (l1Type_any ts A c x _ (hT.below hb0 (by simp))).mono ?_
 rintro E w1 ⟨he,rfl⟩
 rw [hx.out] at he
 subst he
 go_wp2_with fail
 refine (l1Type_any ts A c y _ (hT.below hb0 (by simp))).mono ?_
 rintro E w1 ⟨he,rfl⟩
 rw [hy.out] at he
 subst he
 clear hb0 hx hy hT
 go_wp2_with fail
 all_goals
  go_ret
  refine ⟨ret_bool ?_,(Below.refl _ _).alloc (Nat.le_refl _) _⟩
  subst_vars
  first | rfl | (rw [Bool.eq_iff_iff];simp [simpleB];done) | (rw [Bool.eq_iff_iff];simp [simpleB];omega)
theorem l1Simple_4n (ts:List Int) (A:Option Addr) (c:Nat) (x y n tx ty:Int) (v4 v5:Value) (w:World) (hT:IntsV w 0 w.heap.size ts A c) (hx:Hid (tyAt ts x=tx)) (hy:Hid (tyAt ts y=ty)) (hn:¬ n=0) :
  Calls Tryz.prog 122 #[.slice A ts.length c,.agg #[.int .i64 4,.int .i64 x,.int .i64 y,.int .i64 n,v4,v5]] w fun e w'=>e=.returned (.bool (simpleB 4 tx ty x y n))∧Below w.heap.size w w':=by
 have hb0:=(Below.refl w.heap.size w).alloc (Nat.le_refl _) (.cells #[.int .i64 4,.int .i64 x,.int .i64 y,.int .i64 n,v4,v5] 121)
 have hn':(n != 0)=true:=by simpa using hn
 go_enter Tryz.func122,Tryz.ntmps122
 go_wp2_with fail
 refine (l1Type_any ts A c x _ (hT.below hb0 (by simp))).mono ?_
 rintro E w1 ⟨he,rfl⟩
 rw [hx.out] at he
 subst he
 go_wp2_with fail
 refine (l1Type_any ts A c y _ (hT.below hb0 (by simp))).mono ?_
 rintro E w1 ⟨he,rfl⟩
 rw [hy.out] at he
 subst he
 clear hb0 hx hy hT
 go_wp2_with fail
 all_goals
  go_ret
  refine ⟨ret_bool ?_,(Below.refl _ _).alloc (Nat.le_refl _) _⟩
  subst_vars
  first | rfl | (rw [Bool.eq_iff_iff];simp [simpleB,hn];done) | (rw [Bool.eq_iff_iff];simp [simpleB,hn];omega)
theorem l1Simple_5 (ts:List Int) (A:Option Addr) (c:Nat) (x y n tx ty:Int) (v4 v5:Value) (w:World) (hT:IntsV w 0 w.heap.size ts A c) (hx:Hid (tyAt ts x=tx)) (hy:Hid (tyAt ts y=ty)) (hn:n=0) :
  Calls Tryz.prog 122 #[.slice A ts.length c,.agg #[.int .i64 5,.int .i64 x,.int .i64 y,.int .i64 n,v4,v5]] w fun e w'=>e=.returned (.bool (simpleB 5 tx ty x y n))∧Below w.heap.size w w':=by
 have hb0:=(Below.refl w.heap.size w).alloc (Nat.le_refl _) (.cells #[.int .i64 5,.int .i64 x,.int .i64 y,.int .i64 n,v4,v5] 121)
 subst hn
 go_enter Tryz.func122,Tryz.ntmps122
 go_wp2_with fail
 refine (l1Type_any ts A c x _ (hT.below hb0 (by simp))).mono ?_
 rintro E w1 ⟨he,rfl⟩
 rw [hx.out] at he
 subst he
 go_wp2_with fail
 refine (l1Type_any ts A c y _ (hT.below hb0 (by simp))).mono ?_
 rintro E w1 ⟨he,rfl⟩
 rw [hy.out] at he
 subst he
 clear hb0 hx hy hT
 go_wp2_with fail
 all_goals
  go_ret
  refine ⟨ret_bool ?_,(Below.refl _ _).alloc (Nat.le_refl _) _⟩
  subst_vars
  first | rfl | (rw [Bool.eq_iff_iff];simp [simpleB];done) | (rw [Bool.eq_iff_iff];simp [simpleB];omega)
theorem l1Simple_5n (ts:List Int) (A:Option Addr) (c:Nat) (x y n tx ty:Int) (v4 v5:Value) (w:World) (hT:IntsV w 0 w.heap.size ts A c) (hx:Hid (tyAt ts x=tx)) (hy:Hid (tyAt ts y=ty)) (hn:¬ n=0) :
  Calls Tryz.prog 122 #[.slice A ts.length c,.agg #[.int .i64 5,.int .i64 x,.int .i64 y,.int .i64 n,v4,v5]] w fun e w'=>e=.returned (.bool (simpleB 5 tx ty x y n))∧Below w.heap.size w w':=by
 have hb0:=(Below.refl w.heap.size w).alloc (Nat.le_refl _) (.cells #[.int .i64 5,.int .i64 x,.int .i64 y,.int .i64 n,v4,v5] 121)
 have hn':(n != 0)=true:=by simpa using hn
 go_enter Tryz.func122,Tryz.ntmps122
 go_wp2_with fail
 refine (l1Type_any ts A c x _ (hT.below hb0 (by simp))).mono ?_
 rintro E w1 ⟨he,rfl⟩
 rw [hx.out] at he
 subst he
 go_wp2_with fail
 refine (l1Type_any ts A c y _ (hT.below hb0 (by simp))).mono ?_
 rintro E w1 ⟨he,rfl⟩
 rw [hy.out] at he
 subst he
 clear hb0 hx hy hT
 go_wp2_with fail
 all_goals
  go_ret
  refine ⟨ret_bool ?_,(Below.refl _ _).alloc (Nat.le_refl _) _⟩
  subst_vars
  first | rfl | (rw [Bool.eq_iff_iff];simp [simpleB,hn];done) | (rw [Bool.eq_iff_iff];simp [simpleB,hn];omega)
theorem l1Simple_6 (ts:List Int) (A:Option Addr) (c:Nat) (x y n tx ty:Int) (v4 v5:Value) (w:World) (hT:IntsV w 0 w.heap.size ts A c) (hx:Hid (tyAt ts x=tx)) (hy:Hid (tyAt ts y=ty)) (hn:n=0) :
  Calls Tryz.prog 122 #[.slice A ts.length c,.agg #[.int .i64 6,.int .i64 x,.int .i64 y,.int .i64 n,v4,v5]] w fun e w'=>e=.returned (.bool (simpleB 6 tx ty x y n))∧Below w.heap.size w w':=by
 have hb0:=(Below.refl w.heap.size w).alloc (Nat.le_refl _) (.cells #[.int .i64 6,.int .i64 x,.int .i64 y,.int .i64 n,v4,v5] 121)
 subst hn
 go_enter Tryz.func122,Tryz.ntmps122
 go_wp2_with fail
 refine (l1Type_any ts A c x _ (hT.below hb0 (by simp))).mono ?_
 rintro E w1 ⟨he,rfl⟩
 rw [hx.out] at he
 subst he
 go_wp2_with fail
 refine (l1Type_any ts A c y _ (hT.below hb0 (by simp))).mono ?_
 rintro E w1 ⟨he,rfl⟩
 rw [hy.out] at he
 subst he
 clear hb0 hx hy hT
 go_wp2_with fail
 all_goals
  go_ret
  refine ⟨ret_bool ?_,(Below.refl _ _).alloc (Nat.le_refl _) _⟩
  subst_vars
  first | rfl | (rw [Bool.eq_iff_iff];simp [simpleB];done) | (rw [Bool.eq_iff_iff];simp [simpleB];omega)
theorem l1Simple_6n (ts:List Int) (A:Option Addr) (c:Nat) (x y n tx ty:Int) (v4 v5:Value) (w:World) (hT:IntsV w 0 w.heap.size ts A c) (hx:Hid (tyAt ts x=tx)) (hy:Hid (tyAt ts y=ty)) (hn:¬ n=0) :
  Calls Tryz.prog 122 #[.slice A ts.length c,.agg #[.int .i64 6,.int .i64 x,.int .i64 y,.int .i64 n,v4,v5]] w fun e w'=>e=.returned (.bool (simpleB 6 tx ty x y n))∧Below w.heap.size w w':=by
 have hb0:=(Below.refl w.heap.size w).alloc (Nat.le_refl _) (.cells #[.int .i64 6,.int .i64 x,.int .i64 y,.int .i64 n,v4,v5] 121)
 have hn':(n != 0)=true:=by simpa using hn
 go_enter Tryz.func122,Tryz.ntmps122
 go_wp2_with fail
 refine (l1Type_any ts A c x _ (hT.below hb0 (by simp))).mono ?_
 rintro E w1 ⟨he,rfl⟩
 rw [hx.out] at he
 subst he
 go_wp2_with fail
 refine (l1Type_any ts A c y _ (hT.below hb0 (by simp))).mono ?_
 rintro E w1 ⟨he,rfl⟩
 rw [hy.out] at he
 subst he
 clear hb0 hx hy hT
 go_wp2_with fail
 all_goals
  go_ret
  refine ⟨ret_bool ?_,(Below.refl _ _).alloc (Nat.le_refl _) _⟩
  subst_vars
  first | rfl | (rw [Bool.eq_iff_iff];simp [simpleB,hn];done) | (rw [Bool.eq_iff_iff];simp [simpleB,hn];omega)
theorem l1Simple_7 (ts:List Int) (A:Option Addr) (c:Nat) (x y n tx ty:Int) (v4 v5:Value) (w:World) (hT:IntsV w 0 w.heap.size ts A c) (hx:Hid (tyAt ts x=tx)) (hy:Hid (tyAt ts y=ty)) (hn:n=0) :
  Calls Tryz.prog 122 #[.slice A ts.length c,.agg #[.int .i64 7,.int .i64 x,.int .i64 y,.int .i64 n,v4,v5]] w fun e w'=>e=.returned (.bool (simpleB 7 tx ty x y n))∧Below w.heap.size w w':=by
 have hb0:=(Below.refl w.heap.size w).alloc (Nat.le_refl _) (.cells #[.int .i64 7,.int .i64 x,.int .i64 y,.int .i64 n,v4,v5] 121)
 subst hn
 go_enter Tryz.func122,Tryz.ntmps122
 go_wp2_with fail
 refine (l1Type_any ts A c x _ (hT.below hb0 (by simp))).mono ?_
 rintro E w1 ⟨he,rfl⟩
 rw [hx.out] at he
 subst he
 go_wp2_with fail
 refine (l1Type_any ts A c y _ (hT.below hb0 (by simp))).mono ?_
 rintro E w1 ⟨he,rfl⟩
 rw [hy.out] at he
 subst he
 clear hb0 hx hy hT
 go_wp2_with fail
 all_goals
  go_ret
  refine ⟨ret_bool ?_,(Below.refl _ _).alloc (Nat.le_refl _) _⟩
  subst_vars
  first | rfl | (rw [Bool.eq_iff_iff];simp [simpleB];done) | (rw [Bool.eq_iff_iff];simp [simpleB];omega)
theorem l1Simple_7n (ts:List Int) (A:Option Addr) (c:Nat) (x y n tx ty:Int) (v4 v5:Value) (w:World) (hT:IntsV w 0 w.heap.size ts A c) (hx:Hid (tyAt ts x=tx)) (hy:Hid (tyAt ts y=ty)) (hn:¬ n=0) :
  Calls Tryz.prog 122 #[.slice A ts.length c,.agg #[.int .i64 7,.int .i64 x,.int .i64 y,.int .i64 n,v4,v5]] w fun e w'=>e=.returned (.bool (simpleB 7 tx ty x y n))∧Below w.heap.size w w':=by
 have hb0:=(Below.refl w.heap.size w).alloc (Nat.le_refl _) (.cells #[.int .i64 7,.int .i64 x,.int .i64 y,.int .i64 n,v4,v5] 121)
 have hn':(n != 0)=true:=by simpa using hn
 go_enter Tryz.func122,Tryz.ntmps122
 go_wp2_with fail
 refine (l1Type_any ts A c x _ (hT.below hb0 (by simp))).mono ?_
 rintro E w1 ⟨he,rfl⟩
 rw [hx.out] at he
 subst he
 go_wp2_with fail
 refine (l1Type_any ts A c y _ (hT.below hb0 (by simp))).mono ?_
 rintro E w1 ⟨he,rfl⟩
 rw [hy.out] at he
 subst he
 clear hb0 hx hy hT
 go_wp2_with fail
 all_goals
  go_ret
  refine ⟨ret_bool ?_,(Below.refl _ _).alloc (Nat.le_refl _) _⟩
  subst_vars
  first | rfl | (rw [Bool.eq_iff_iff];simp [simpleB,hn];done) | (rw [Bool.eq_iff_iff];simp [simpleB,hn];omega)
theorem l1Simple_8 (ts:List Int) (A:Option Addr) (c:Nat) (x y n tx ty:Int) (v4 v5:Value) (w:World) (hT:IntsV w 0 w.heap.size ts A c) (hx:Hid (tyAt ts x=tx)) (hy:Hid (tyAt ts y=ty)) (hn:n=0) :
  Calls Tryz.prog 122 #[.slice A ts.length c,.agg #[.int .i64 8,.int .i64 x,.int .i64 y,.int .i64 n,v4,v5]] w fun e w'=>e=.returned (.bool (simpleB 8 tx ty x y n))∧Below w.heap.size w w':=by
 have hb0:=(Below.refl w.heap.size w).alloc (Nat.le_refl _) (.cells #[.int .i64 8,.int .i64 x,.int .i64 y,.int .i64 n,v4,v5] 121)
 subst hn
 go_enter Tryz.func122,Tryz.ntmps122
 go_wp2_with fail
 refine (l1Type_any ts A c x _ (hT.below hb0 (by simp))).mono ?_
 rintro E w1 ⟨he,rfl⟩
 rw [hx.out] at he
 subst he
 go_wp2_with fail
 refine (l1Type_any ts A c y _ (hT.below hb0 (by simp))).mono ?_
 rintro E w1 ⟨he,rfl⟩
 rw [hy.out] at he
 subst he
 clear hb0 hx hy hT
 go_wp2_with fail
 all_goals
  go_ret
  refine ⟨ret_bool ?_,(Below.refl _ _).alloc (Nat.le_refl _) _⟩
  subst_vars
  first | rfl | (rw [Bool.eq_iff_iff];simp [simpleB];done) | (rw [Bool.eq_iff_iff];simp [simpleB];omega)
theorem l1Simple_8n (ts:List Int) (A:Option Addr) (c:Nat) (x y n tx ty:Int) (v4 v5:Value) (w:World) (hT:IntsV w 0 w.heap.size ts A c) (hx:Hid (tyAt ts x=tx)) (hy:Hid (tyAt ts y=ty)) (hn:¬ n=0) :
  Calls Tryz.prog 122 #[.slice A ts.length c,.agg #[.int .i64 8,.int .i64 x,.int .i64 y,.int .i64 n,v4,v5]] w fun e w'=>e=.returned (.bool (simpleB 8 tx ty x y n))∧Below w.heap.size w w':=by
 have hb0:=(Below.refl w.heap.size w).alloc (Nat.le_refl _) (.cells #[.int .i64 8,.int .i64 x,.int .i64 y,.int .i64 n,v4,v5] 121)
 have hn':(n != 0)=true:=by simpa using hn
 go_enter Tryz.func122,Tryz.ntmps122
 go_wp2_with fail
 refine (l1Type_any ts A c x _ (hT.below hb0 (by simp))).mono ?_
 rintro E w1 ⟨he,rfl⟩
 rw [hx.out] at he
 subst he
 go_wp2_with fail
 refine (l1Type_any ts A c y _ (hT.below hb0 (by simp))).mono ?_
 rintro E w1 ⟨he,rfl⟩
 rw [hy.out] at he
 subst he
 clear hb0 hx hy hT
 go_wp2_with fail
 all_goals
  go_ret
  refine ⟨ret_bool ?_,(Below.refl _ _).alloc (Nat.le_refl _) _⟩
  subst_vars
  first | rfl | (rw [Bool.eq_iff_iff];simp [simpleB,hn];done) | (rw [Bool.eq_iff_iff];simp [simpleB,hn];omega)
theorem l1Simple_0 (ts:List Int) (A:Option Addr) (c:Nat) (op x y n tx ty:Int) (v4 v5:Value) (w:World) (hT:IntsV w 0 w.heap.size ts A c) (hx:Hid (tyAt ts x=tx)) (hy:Hid (tyAt ts y=ty)) (h1:¬ op=1) (h2:¬ op=2) (h3:¬ op=3) (h4:¬ op=4) (h5:¬ op=5) (h6:¬ op=6) (h7:¬ op=7) (h8:¬ op=8) :
  Calls Tryz.prog 122 #[.slice A ts.length c,.agg #[.int .i64 op,.int .i64 x,.int .i64 y,.int .i64 n,v4,v5]] w fun e w'=>e=.returned (.bool (simpleB op tx ty x y n))∧Below w.heap.size w w':=by
 have hb0:=(Below.refl w.heap.size w).alloc (Nat.le_refl _) (.cells #[.int .i64 op,.int .i64 x,.int .i64 y,.int .i64 n,v4,v5] 121)
 have e0:simpleB op tx ty x y n=false:=by simp [simpleB,h1,h2,h3,h4,h5,h6,h7,h8]
 rw [e0]
 clear e0
 go_enter Tryz.func122,Tryz.ntmps122
 go_wp2_with fail
 refine (l1Type_any ts A c x _ (hT.below hb0 (by simp))).mono ?_
 rintro E w1 ⟨he,rfl⟩
 rw [hx.out] at he
 subst he
 go_wp2_with fail
 refine (l1Type_any ts A c y _ (hT.below hb0 (by simp))).mono ?_
 rintro E w1 ⟨he,rfl⟩
 rw [hy.out] at he
 subst he
 clear hb0 hx hy hT
 go_wp2_with fail
 all_goals
  go_ret
  refine ⟨ret_bool ?_,(Below.refl _ _).alloc (Nat.le_refl _) _⟩
  subst_vars
  first | rfl | (rw [Bool.eq_iff_iff];simp [simpleB];done) | (rw [Bool.eq_iff_iff];simp [simpleB];omega)
end Go.Proofs.YtedkkphogeealaaGreatDoor
