/- The program's check of one statement: operations 3 and 4. -/
import Derived.Test.YtedkkphogeealaaGreatDoorPStmtA
namespace Go.Proofs.YtedkkphogeealaaGreatDoor
open Go.RowKit Go.Deep
set_option linter.unusedVariables false
set_option maxRecDepth 100000
set_option maxHeartbeats 4000000
theorem sv_3_true (ts:List Int) (A:Option Addr) (c C:Nat) (x y n m d tx ty:Int) (At Ae:Option Addr) (nt ct ne ce:Nat) (w:World) (hT:IntsV w 0 C ts A c) (hC:w.heap[C]?=some (.cells #[.slice A ts.length c,.int .i64 m] 180 (0,0)))
  (hx:Hid (tyAt ts x=tx)) (hy:Hid (tyAt ts y=ty)) (hm:0≤m) (hm30:m<30) (hf:Hid (fitsB 3 tx ty x y n=true)) (hs:Hid (sameB 3 3 x x y y n 0 nt 0 ne 0=true)) :
  Calls Tryz.prog 123 #[.pointer (some ⟨C,0,none⟩),.agg #[.int .i64 3,.int .i64 x,.int .i64 y,.int .i64 n,.slice At nt ct,.slice Ae ne ce],.int .i64 d] w
   fun E w'=>E=.returned (.bool true)∧Chk C (.slice A ts.length c) w w' (m+1):=by
 have hlt:=heap_lt hC
 have c0:w.cell? ⟨C,0,none⟩=some (.slice A ts.length c):=(cB hC 0).trans rfl
 have c1:w.cell? ⟨C,1,none⟩=some (.int .i64 m):=(cB hC 1).trans rfl
 have f1:=fB hC 1
 have HC:=Lib.hid hC
 clear hC
 have na:=ahead_3
 have fa:=fitsAt_3
 have pa:=plainAt_3
 go_enter Tryz.func123,Tryz.ntmps123
 go_wp2_with fail
 refine (kindOf_3 x y n At Ae nt ct ne ce _).mono ?_
 rintro E w1 ⟨rfl,hb1⟩
 have hsz:(w.setCell ⟨C,1,none⟩ (.int .i64 (m+1))).heap.size=w.heap.size:=by simp [World.setCell]
 have hsz1:((w.setCell ⟨C,1,none⟩ (.int .i64 (m+1))).alloc (.cells #[.int .i64 3,.int .i64 x,.int .i64 y,.int .i64 n,.slice At nt ct,.slice Ae ne ce] 121)).heap.size=w.heap.size+1:=by simp [World.setCell]
 rw [hsz1] at hb1
 have hs1:=hb1.size
 rw [hsz1] at hs1
 have hB0:=heap_alloc_new (w.setCell ⟨C,1,none⟩ (.int .i64 (m+1))) (.cells #[.int .i64 3,.int .i64 x,.int .i64 y,.int .i64 n,.slice At nt ct,.slice Ae ne ce] 121)
 rw [hsz] at hB0
 have hB:=(hb1.block w.heap.size (by omega)).trans hB0
 have hCC:=(hb1.block C (by omega)).trans ((Below.heap_alloc _ _ C (by omega)).trans (block_set HC.out 1 _))
 have k0:w1.cell? ⟨C,0,none⟩=some (.slice A ts.length c):=(cB hCC 0).trans rfl
 have q0:w1.cell? ⟨w.heap.size,0,none⟩=some (.int .i64 3):=(cB hB 0).trans rfl
 have q1:w1.cell? ⟨w.heap.size,1,none⟩=some (.int .i64 x):=(cB hB 1).trans rfl
 have q2:w1.cell? ⟨w.heap.size,2,none⟩=some (.int .i64 y):=(cB hB 2).trans rfl
 have q3:w1.cell? ⟨w.heap.size,3,none⟩=some (.int .i64 n):=(cB hB 3).trans rfl
 have q4:w1.cell? ⟨w.heap.size,4,none⟩=some (.slice At nt ct):=(cB hB 4).trans rfl
 have q5:w1.cell? ⟨w.heap.size,5,none⟩=some (.slice Ae ne ce):=(cB hB 5).trans rfl
 have hT1:IntsV w1 0 C ts A c:=hT.keep (Nat.le_refl _) (Nat.le_refl _) fun p _ hp=>(hb1.cell (by omega)).trans ((World.cell?_alloc_lt _ _ _ (by omega)).trans (World.cell?_setCell_other _ _ _ _ (fun e=>by subst e;simp at hp)))
 have HB1:=Lib.hid hb1
 clear hb1 hB hCC hsz hsz1 hB0 c0 c1 f1
 go_wp2_with fail
 go_region_held3 (fun w'=>Below w1.heap.size w1 w'∧w'.cell? ⟨C,0,none⟩=some (.slice A ts.length c)∧w'.cell? ⟨w.heap.size,0,none⟩=some (.int .i64 3)∧w'.cell? ⟨w.heap.size,1,none⟩=some (.int .i64 x)∧w'.cell? ⟨w.heap.size,2,none⟩=some (.int .i64 y)∧w'.cell? ⟨w.heap.size,3,none⟩=some (.int .i64 n)∧w'.cell? ⟨w.heap.size,4,none⟩=some (.slice At nt ct)∧w'.cell? ⟨w.heap.size,5,none⟩=some (.slice Ae ne ce))
  (first | exact ⟨(Below.refl w1.heap.size w1).drew,k0,q0,q1,q2,q3,q4,q5⟩ | exact held_S hbn (And.left ‹Below w1.heap.size w1 _∧_›) rfl (by omega) (by omega) k0 q0 q1 q2 q3 q4 q5)
  (first
   | (go_at_call 179;refine (fits_3 ts A c x y n tx ty _ ?_ hx hy).mono ?_;(have hbx:=And.left ‹Below w1.heap.size w1 _∧_›;exact hT1.below (hbx.mono (by omega)) (by have:=hbx.size;omega));rintro E w' ⟨he,hbn⟩;rw [hf.out] at he;subst he)
   | (go_at_call 180;refine (plain_3 x y _).mono ?_;rintro E w' ⟨rfl,hbn⟩)
   | (go_at_call 138;refine (sameOutside_any _ _ _ _ _ _ _ _ _ _ _ _ _ _ _ _ _ _ _ _ _).mono ?_;rintro E w' ⟨he,hbn⟩;rw [hs.out] at he;subst he))
 have hbl:=And.left ‹Below w1.heap.size w1 _∧_›
 have hbq:=And.left (And.right (And.right ‹Below w1.heap.size w1 _∧_›))
 go_wp2_with fail
 go_ret
 exact ⟨rfl,chk_mk hlt HC.out HB1.out hbl⟩
theorem sv_3_same (ts:List Int) (A:Option Addr) (c C:Nat) (x y n m d tx ty:Int) (At Ae:Option Addr) (nt ct ne ce:Nat) (w:World) (hT:IntsV w 0 C ts A c) (hC:w.heap[C]?=some (.cells #[.slice A ts.length c,.int .i64 m] 180 (0,0)))
  (hx:Hid (tyAt ts x=tx)) (hy:Hid (tyAt ts y=ty)) (hm:0≤m) (hm30:m<30) (hf:Hid (fitsB 3 tx ty x y n=true)) (hs:Hid (sameB 3 3 x x y y n 0 nt 0 ne 0=false)) :
  Calls Tryz.prog 123 #[.pointer (some ⟨C,0,none⟩),.agg #[.int .i64 3,.int .i64 x,.int .i64 y,.int .i64 n,.slice At nt ct,.slice Ae ne ce],.int .i64 d] w
   fun E w'=>E=.returned (.bool false)∧Chk C (.slice A ts.length c) w w' (m+1):=by
 have hlt:=heap_lt hC
 have c0:w.cell? ⟨C,0,none⟩=some (.slice A ts.length c):=(cB hC 0).trans rfl
 have c1:w.cell? ⟨C,1,none⟩=some (.int .i64 m):=(cB hC 1).trans rfl
 have f1:=fB hC 1
 have HC:=Lib.hid hC
 clear hC
 have na:=ahead_3
 have fa:=fitsAt_3
 have pa:=plainAt_3
 go_enter Tryz.func123,Tryz.ntmps123
 go_wp2_with fail
 refine (kindOf_3 x y n At Ae nt ct ne ce _).mono ?_
 rintro E w1 ⟨rfl,hb1⟩
 have hsz:(w.setCell ⟨C,1,none⟩ (.int .i64 (m+1))).heap.size=w.heap.size:=by simp [World.setCell]
 have hsz1:((w.setCell ⟨C,1,none⟩ (.int .i64 (m+1))).alloc (.cells #[.int .i64 3,.int .i64 x,.int .i64 y,.int .i64 n,.slice At nt ct,.slice Ae ne ce] 121)).heap.size=w.heap.size+1:=by simp [World.setCell]
 rw [hsz1] at hb1
 have hs1:=hb1.size
 rw [hsz1] at hs1
 have hB0:=heap_alloc_new (w.setCell ⟨C,1,none⟩ (.int .i64 (m+1))) (.cells #[.int .i64 3,.int .i64 x,.int .i64 y,.int .i64 n,.slice At nt ct,.slice Ae ne ce] 121)
 rw [hsz] at hB0
 have hB:=(hb1.block w.heap.size (by omega)).trans hB0
 have hCC:=(hb1.block C (by omega)).trans ((Below.heap_alloc _ _ C (by omega)).trans (block_set HC.out 1 _))
 have k0:w1.cell? ⟨C,0,none⟩=some (.slice A ts.length c):=(cB hCC 0).trans rfl
 have q0:w1.cell? ⟨w.heap.size,0,none⟩=some (.int .i64 3):=(cB hB 0).trans rfl
 have q1:w1.cell? ⟨w.heap.size,1,none⟩=some (.int .i64 x):=(cB hB 1).trans rfl
 have q2:w1.cell? ⟨w.heap.size,2,none⟩=some (.int .i64 y):=(cB hB 2).trans rfl
 have q3:w1.cell? ⟨w.heap.size,3,none⟩=some (.int .i64 n):=(cB hB 3).trans rfl
 have q4:w1.cell? ⟨w.heap.size,4,none⟩=some (.slice At nt ct):=(cB hB 4).trans rfl
 have q5:w1.cell? ⟨w.heap.size,5,none⟩=some (.slice Ae ne ce):=(cB hB 5).trans rfl
 have hT1:IntsV w1 0 C ts A c:=hT.keep (Nat.le_refl _) (Nat.le_refl _) fun p _ hp=>(hb1.cell (by omega)).trans ((World.cell?_alloc_lt _ _ _ (by omega)).trans (World.cell?_setCell_other _ _ _ _ (fun e=>by subst e;simp at hp)))
 have HB1:=Lib.hid hb1
 clear hb1 hB hCC hsz hsz1 hB0 c0 c1 f1
 go_wp2_with fail
 go_region_held3 (fun w'=>Below w1.heap.size w1 w'∧w'.cell? ⟨C,0,none⟩=some (.slice A ts.length c)∧w'.cell? ⟨w.heap.size,0,none⟩=some (.int .i64 3)∧w'.cell? ⟨w.heap.size,1,none⟩=some (.int .i64 x)∧w'.cell? ⟨w.heap.size,2,none⟩=some (.int .i64 y)∧w'.cell? ⟨w.heap.size,3,none⟩=some (.int .i64 n)∧w'.cell? ⟨w.heap.size,4,none⟩=some (.slice At nt ct)∧w'.cell? ⟨w.heap.size,5,none⟩=some (.slice Ae ne ce))
  (first | exact ⟨(Below.refl w1.heap.size w1).drew,k0,q0,q1,q2,q3,q4,q5⟩ | exact held_S hbn (And.left ‹Below w1.heap.size w1 _∧_›) rfl (by omega) (by omega) k0 q0 q1 q2 q3 q4 q5)
  (first
   | (go_at_call 179;refine (fits_3 ts A c x y n tx ty _ ?_ hx hy).mono ?_;(have hbx:=And.left ‹Below w1.heap.size w1 _∧_›;exact hT1.below (hbx.mono (by omega)) (by have:=hbx.size;omega));rintro E w' ⟨he,hbn⟩;rw [hf.out] at he;subst he)
   | (go_at_call 180;refine (plain_3 x y _).mono ?_;rintro E w' ⟨rfl,hbn⟩)
   | (go_at_call 138;refine (sameOutside_any _ _ _ _ _ _ _ _ _ _ _ _ _ _ _ _ _ _ _ _ _).mono ?_;rintro E w' ⟨he,hbn⟩;rw [hs.out] at he;subst he))
 have hbl:=And.left ‹Below w1.heap.size w1 _∧_›
 have hbq:=And.left (And.right (And.right ‹Below w1.heap.size w1 _∧_›))
 go_wp2_with fail
 go_ret
 exact ⟨rfl,chk_mk hlt HC.out HB1.out hbl⟩
theorem sv_3_fit (ts:List Int) (A:Option Addr) (c C:Nat) (x y n m d tx ty:Int) (At Ae:Option Addr) (nt ct ne ce:Nat) (w:World) (hT:IntsV w 0 C ts A c) (hC:w.heap[C]?=some (.cells #[.slice A ts.length c,.int .i64 m] 180 (0,0)))
  (hx:Hid (tyAt ts x=tx)) (hy:Hid (tyAt ts y=ty)) (hm:0≤m) (hm30:m<30) (hf:Hid (fitsB 3 tx ty x y n=false)) :
  Calls Tryz.prog 123 #[.pointer (some ⟨C,0,none⟩),.agg #[.int .i64 3,.int .i64 x,.int .i64 y,.int .i64 n,.slice At nt ct,.slice Ae ne ce],.int .i64 d] w
   fun E w'=>E=.returned (.bool false)∧Chk C (.slice A ts.length c) w w' (m+1):=by
 have hlt:=heap_lt hC
 have c0:w.cell? ⟨C,0,none⟩=some (.slice A ts.length c):=(cB hC 0).trans rfl
 have c1:w.cell? ⟨C,1,none⟩=some (.int .i64 m):=(cB hC 1).trans rfl
 have f1:=fB hC 1
 have HC:=Lib.hid hC
 clear hC
 have na:=ahead_3
 have fa:=fitsAt_3
 have pa:=plainAt_3
 go_enter Tryz.func123,Tryz.ntmps123
 go_wp2_with fail
 refine (kindOf_3 x y n At Ae nt ct ne ce _).mono ?_
 rintro E w1 ⟨rfl,hb1⟩
 have hsz:(w.setCell ⟨C,1,none⟩ (.int .i64 (m+1))).heap.size=w.heap.size:=by simp [World.setCell]
 have hsz1:((w.setCell ⟨C,1,none⟩ (.int .i64 (m+1))).alloc (.cells #[.int .i64 3,.int .i64 x,.int .i64 y,.int .i64 n,.slice At nt ct,.slice Ae ne ce] 121)).heap.size=w.heap.size+1:=by simp [World.setCell]
 rw [hsz1] at hb1
 have hs1:=hb1.size
 rw [hsz1] at hs1
 have hB0:=heap_alloc_new (w.setCell ⟨C,1,none⟩ (.int .i64 (m+1))) (.cells #[.int .i64 3,.int .i64 x,.int .i64 y,.int .i64 n,.slice At nt ct,.slice Ae ne ce] 121)
 rw [hsz] at hB0
 have hB:=(hb1.block w.heap.size (by omega)).trans hB0
 have hCC:=(hb1.block C (by omega)).trans ((Below.heap_alloc _ _ C (by omega)).trans (block_set HC.out 1 _))
 have k0:w1.cell? ⟨C,0,none⟩=some (.slice A ts.length c):=(cB hCC 0).trans rfl
 have q0:w1.cell? ⟨w.heap.size,0,none⟩=some (.int .i64 3):=(cB hB 0).trans rfl
 have q1:w1.cell? ⟨w.heap.size,1,none⟩=some (.int .i64 x):=(cB hB 1).trans rfl
 have q2:w1.cell? ⟨w.heap.size,2,none⟩=some (.int .i64 y):=(cB hB 2).trans rfl
 have q3:w1.cell? ⟨w.heap.size,3,none⟩=some (.int .i64 n):=(cB hB 3).trans rfl
 have q4:w1.cell? ⟨w.heap.size,4,none⟩=some (.slice At nt ct):=(cB hB 4).trans rfl
 have q5:w1.cell? ⟨w.heap.size,5,none⟩=some (.slice Ae ne ce):=(cB hB 5).trans rfl
 have hT1:IntsV w1 0 C ts A c:=hT.keep (Nat.le_refl _) (Nat.le_refl _) fun p _ hp=>(hb1.cell (by omega)).trans ((World.cell?_alloc_lt _ _ _ (by omega)).trans (World.cell?_setCell_other _ _ _ _ (fun e=>by subst e;simp at hp)))
 have HB1:=Lib.hid hb1
 clear hb1 hB hCC hsz hsz1 hB0 c0 c1 f1
 go_wp2_with fail
 first
  | (go_region_with (first | (go_at_call 179;refine (fits_3 ts A c x y n tx ty _ ?_ hx hy).mono ?_;(exact hT1.keep (Nat.le_refl _) (by simp;omega) fun _ _ _=>rfl);rintro E w' ⟨he,hbn⟩;rw [hf.out] at he;subst he)))
  | fail
 all_goals
  go_wp2_with fail
  go_ret
  exact ⟨rfl,chk_mk hlt HC.out HB1.out (Below.mono (Below.trans ((Below.refl w1.heap.size w1).drew) ‹Below _ _ _›) (Nat.le_refl _))⟩
theorem sv_4_true (ts:List Int) (A:Option Addr) (c C:Nat) (x y n m d tx ty:Int) (At Ae:Option Addr) (nt ct ne ce:Nat) (w:World) (hT:IntsV w 0 C ts A c) (hC:w.heap[C]?=some (.cells #[.slice A ts.length c,.int .i64 m] 180 (0,0)))
  (hx:Hid (tyAt ts x=tx)) (hy:Hid (tyAt ts y=ty)) (hm:0≤m) (hm30:m<30) (hf:Hid (fitsB 4 tx ty x y n=true)) (hs:Hid (sameB 4 4 x x y y n 0 nt 0 ne 0=true)) :
  Calls Tryz.prog 123 #[.pointer (some ⟨C,0,none⟩),.agg #[.int .i64 4,.int .i64 x,.int .i64 y,.int .i64 n,.slice At nt ct,.slice Ae ne ce],.int .i64 d] w
   fun E w'=>E=.returned (.bool true)∧Chk C (.slice A ts.length c) w w' (m+1):=by
 have hlt:=heap_lt hC
 have c0:w.cell? ⟨C,0,none⟩=some (.slice A ts.length c):=(cB hC 0).trans rfl
 have c1:w.cell? ⟨C,1,none⟩=some (.int .i64 m):=(cB hC 1).trans rfl
 have f1:=fB hC 1
 have HC:=Lib.hid hC
 clear hC
 have na:=ahead_4
 have fa:=fitsAt_4
 have pa:=plainAt_4
 go_enter Tryz.func123,Tryz.ntmps123
 go_wp2_with fail
 refine (kindOf_4 x y n At Ae nt ct ne ce _).mono ?_
 rintro E w1 ⟨rfl,hb1⟩
 have hsz:(w.setCell ⟨C,1,none⟩ (.int .i64 (m+1))).heap.size=w.heap.size:=by simp [World.setCell]
 have hsz1:((w.setCell ⟨C,1,none⟩ (.int .i64 (m+1))).alloc (.cells #[.int .i64 4,.int .i64 x,.int .i64 y,.int .i64 n,.slice At nt ct,.slice Ae ne ce] 121)).heap.size=w.heap.size+1:=by simp [World.setCell]
 rw [hsz1] at hb1
 have hs1:=hb1.size
 rw [hsz1] at hs1
 have hB0:=heap_alloc_new (w.setCell ⟨C,1,none⟩ (.int .i64 (m+1))) (.cells #[.int .i64 4,.int .i64 x,.int .i64 y,.int .i64 n,.slice At nt ct,.slice Ae ne ce] 121)
 rw [hsz] at hB0
 have hB:=(hb1.block w.heap.size (by omega)).trans hB0
 have hCC:=(hb1.block C (by omega)).trans ((Below.heap_alloc _ _ C (by omega)).trans (block_set HC.out 1 _))
 have k0:w1.cell? ⟨C,0,none⟩=some (.slice A ts.length c):=(cB hCC 0).trans rfl
 have q0:w1.cell? ⟨w.heap.size,0,none⟩=some (.int .i64 4):=(cB hB 0).trans rfl
 have q1:w1.cell? ⟨w.heap.size,1,none⟩=some (.int .i64 x):=(cB hB 1).trans rfl
 have q2:w1.cell? ⟨w.heap.size,2,none⟩=some (.int .i64 y):=(cB hB 2).trans rfl
 have q3:w1.cell? ⟨w.heap.size,3,none⟩=some (.int .i64 n):=(cB hB 3).trans rfl
 have q4:w1.cell? ⟨w.heap.size,4,none⟩=some (.slice At nt ct):=(cB hB 4).trans rfl
 have q5:w1.cell? ⟨w.heap.size,5,none⟩=some (.slice Ae ne ce):=(cB hB 5).trans rfl
 have hT1:IntsV w1 0 C ts A c:=hT.keep (Nat.le_refl _) (Nat.le_refl _) fun p _ hp=>(hb1.cell (by omega)).trans ((World.cell?_alloc_lt _ _ _ (by omega)).trans (World.cell?_setCell_other _ _ _ _ (fun e=>by subst e;simp at hp)))
 have HB1:=Lib.hid hb1
 clear hb1 hB hCC hsz hsz1 hB0 c0 c1 f1
 go_wp2_with fail
 go_region_held3 (fun w'=>Below w1.heap.size w1 w'∧w'.cell? ⟨C,0,none⟩=some (.slice A ts.length c)∧w'.cell? ⟨w.heap.size,0,none⟩=some (.int .i64 4)∧w'.cell? ⟨w.heap.size,1,none⟩=some (.int .i64 x)∧w'.cell? ⟨w.heap.size,2,none⟩=some (.int .i64 y)∧w'.cell? ⟨w.heap.size,3,none⟩=some (.int .i64 n)∧w'.cell? ⟨w.heap.size,4,none⟩=some (.slice At nt ct)∧w'.cell? ⟨w.heap.size,5,none⟩=some (.slice Ae ne ce))
  (first | exact ⟨(Below.refl w1.heap.size w1).drew,k0,q0,q1,q2,q3,q4,q5⟩ | exact held_S hbn (And.left ‹Below w1.heap.size w1 _∧_›) rfl (by omega) (by omega) k0 q0 q1 q2 q3 q4 q5)
  (first
   | (go_at_call 182;refine (fits_4 ts A c x y n tx ty _ ?_ hx hy).mono ?_;(have hbx:=And.left ‹Below w1.heap.size w1 _∧_›;exact hT1.below (hbx.mono (by omega)) (by have:=hbx.size;omega));rintro E w' ⟨he,hbn⟩;rw [hf.out] at he;subst he)
   | (go_at_call 183;refine (plain_4 x y _).mono ?_;rintro E w' ⟨rfl,hbn⟩)
   | (go_at_call 138;refine (sameOutside_any _ _ _ _ _ _ _ _ _ _ _ _ _ _ _ _ _ _ _ _ _).mono ?_;rintro E w' ⟨he,hbn⟩;rw [hs.out] at he;subst he))
 have hbl:=And.left ‹Below w1.heap.size w1 _∧_›
 have hbq:=And.left (And.right (And.right ‹Below w1.heap.size w1 _∧_›))
 go_wp2_with fail
 go_ret
 exact ⟨rfl,chk_mk hlt HC.out HB1.out hbl⟩
theorem sv_4_same (ts:List Int) (A:Option Addr) (c C:Nat) (x y n m d tx ty:Int) (At Ae:Option Addr) (nt ct ne ce:Nat) (w:World) (hT:IntsV w 0 C ts A c) (hC:w.heap[C]?=some (.cells #[.slice A ts.length c,.int .i64 m] 180 (0,0)))
  (hx:Hid (tyAt ts x=tx)) (hy:Hid (tyAt ts y=ty)) (hm:0≤m) (hm30:m<30) (hf:Hid (fitsB 4 tx ty x y n=true)) (hs:Hid (sameB 4 4 x x y y n 0 nt 0 ne 0=false)) :
  Calls Tryz.prog 123 #[.pointer (some ⟨C,0,none⟩),.agg #[.int .i64 4,.int .i64 x,.int .i64 y,.int .i64 n,.slice At nt ct,.slice Ae ne ce],.int .i64 d] w
   fun E w'=>E=.returned (.bool false)∧Chk C (.slice A ts.length c) w w' (m+1):=by
 have hlt:=heap_lt hC
 have c0:w.cell? ⟨C,0,none⟩=some (.slice A ts.length c):=(cB hC 0).trans rfl
 have c1:w.cell? ⟨C,1,none⟩=some (.int .i64 m):=(cB hC 1).trans rfl
 have f1:=fB hC 1
 have HC:=Lib.hid hC
 clear hC
 have na:=ahead_4
 have fa:=fitsAt_4
 have pa:=plainAt_4
 go_enter Tryz.func123,Tryz.ntmps123
 go_wp2_with fail
 refine (kindOf_4 x y n At Ae nt ct ne ce _).mono ?_
 rintro E w1 ⟨rfl,hb1⟩
 have hsz:(w.setCell ⟨C,1,none⟩ (.int .i64 (m+1))).heap.size=w.heap.size:=by simp [World.setCell]
 have hsz1:((w.setCell ⟨C,1,none⟩ (.int .i64 (m+1))).alloc (.cells #[.int .i64 4,.int .i64 x,.int .i64 y,.int .i64 n,.slice At nt ct,.slice Ae ne ce] 121)).heap.size=w.heap.size+1:=by simp [World.setCell]
 rw [hsz1] at hb1
 have hs1:=hb1.size
 rw [hsz1] at hs1
 have hB0:=heap_alloc_new (w.setCell ⟨C,1,none⟩ (.int .i64 (m+1))) (.cells #[.int .i64 4,.int .i64 x,.int .i64 y,.int .i64 n,.slice At nt ct,.slice Ae ne ce] 121)
 rw [hsz] at hB0
 have hB:=(hb1.block w.heap.size (by omega)).trans hB0
 have hCC:=(hb1.block C (by omega)).trans ((Below.heap_alloc _ _ C (by omega)).trans (block_set HC.out 1 _))
 have k0:w1.cell? ⟨C,0,none⟩=some (.slice A ts.length c):=(cB hCC 0).trans rfl
 have q0:w1.cell? ⟨w.heap.size,0,none⟩=some (.int .i64 4):=(cB hB 0).trans rfl
 have q1:w1.cell? ⟨w.heap.size,1,none⟩=some (.int .i64 x):=(cB hB 1).trans rfl
 have q2:w1.cell? ⟨w.heap.size,2,none⟩=some (.int .i64 y):=(cB hB 2).trans rfl
 have q3:w1.cell? ⟨w.heap.size,3,none⟩=some (.int .i64 n):=(cB hB 3).trans rfl
 have q4:w1.cell? ⟨w.heap.size,4,none⟩=some (.slice At nt ct):=(cB hB 4).trans rfl
 have q5:w1.cell? ⟨w.heap.size,5,none⟩=some (.slice Ae ne ce):=(cB hB 5).trans rfl
 have hT1:IntsV w1 0 C ts A c:=hT.keep (Nat.le_refl _) (Nat.le_refl _) fun p _ hp=>(hb1.cell (by omega)).trans ((World.cell?_alloc_lt _ _ _ (by omega)).trans (World.cell?_setCell_other _ _ _ _ (fun e=>by subst e;simp at hp)))
 have HB1:=Lib.hid hb1
 clear hb1 hB hCC hsz hsz1 hB0 c0 c1 f1
 go_wp2_with fail
 go_region_held3 (fun w'=>Below w1.heap.size w1 w'∧w'.cell? ⟨C,0,none⟩=some (.slice A ts.length c)∧w'.cell? ⟨w.heap.size,0,none⟩=some (.int .i64 4)∧w'.cell? ⟨w.heap.size,1,none⟩=some (.int .i64 x)∧w'.cell? ⟨w.heap.size,2,none⟩=some (.int .i64 y)∧w'.cell? ⟨w.heap.size,3,none⟩=some (.int .i64 n)∧w'.cell? ⟨w.heap.size,4,none⟩=some (.slice At nt ct)∧w'.cell? ⟨w.heap.size,5,none⟩=some (.slice Ae ne ce))
  (first | exact ⟨(Below.refl w1.heap.size w1).drew,k0,q0,q1,q2,q3,q4,q5⟩ | exact held_S hbn (And.left ‹Below w1.heap.size w1 _∧_›) rfl (by omega) (by omega) k0 q0 q1 q2 q3 q4 q5)
  (first
   | (go_at_call 182;refine (fits_4 ts A c x y n tx ty _ ?_ hx hy).mono ?_;(have hbx:=And.left ‹Below w1.heap.size w1 _∧_›;exact hT1.below (hbx.mono (by omega)) (by have:=hbx.size;omega));rintro E w' ⟨he,hbn⟩;rw [hf.out] at he;subst he)
   | (go_at_call 183;refine (plain_4 x y _).mono ?_;rintro E w' ⟨rfl,hbn⟩)
   | (go_at_call 138;refine (sameOutside_any _ _ _ _ _ _ _ _ _ _ _ _ _ _ _ _ _ _ _ _ _).mono ?_;rintro E w' ⟨he,hbn⟩;rw [hs.out] at he;subst he))
 have hbl:=And.left ‹Below w1.heap.size w1 _∧_›
 have hbq:=And.left (And.right (And.right ‹Below w1.heap.size w1 _∧_›))
 go_wp2_with fail
 go_ret
 exact ⟨rfl,chk_mk hlt HC.out HB1.out hbl⟩
theorem sv_4_fit (ts:List Int) (A:Option Addr) (c C:Nat) (x y n m d tx ty:Int) (At Ae:Option Addr) (nt ct ne ce:Nat) (w:World) (hT:IntsV w 0 C ts A c) (hC:w.heap[C]?=some (.cells #[.slice A ts.length c,.int .i64 m] 180 (0,0)))
  (hx:Hid (tyAt ts x=tx)) (hy:Hid (tyAt ts y=ty)) (hm:0≤m) (hm30:m<30) (hf:Hid (fitsB 4 tx ty x y n=false)) :
  Calls Tryz.prog 123 #[.pointer (some ⟨C,0,none⟩),.agg #[.int .i64 4,.int .i64 x,.int .i64 y,.int .i64 n,.slice At nt ct,.slice Ae ne ce],.int .i64 d] w
   fun E w'=>E=.returned (.bool false)∧Chk C (.slice A ts.length c) w w' (m+1):=by
 have hlt:=heap_lt hC
 have c0:w.cell? ⟨C,0,none⟩=some (.slice A ts.length c):=(cB hC 0).trans rfl
 have c1:w.cell? ⟨C,1,none⟩=some (.int .i64 m):=(cB hC 1).trans rfl
 have f1:=fB hC 1
 have HC:=Lib.hid hC
 clear hC
 have na:=ahead_4
 have fa:=fitsAt_4
 have pa:=plainAt_4
 go_enter Tryz.func123,Tryz.ntmps123
 go_wp2_with fail
 refine (kindOf_4 x y n At Ae nt ct ne ce _).mono ?_
 rintro E w1 ⟨rfl,hb1⟩
 have hsz:(w.setCell ⟨C,1,none⟩ (.int .i64 (m+1))).heap.size=w.heap.size:=by simp [World.setCell]
 have hsz1:((w.setCell ⟨C,1,none⟩ (.int .i64 (m+1))).alloc (.cells #[.int .i64 4,.int .i64 x,.int .i64 y,.int .i64 n,.slice At nt ct,.slice Ae ne ce] 121)).heap.size=w.heap.size+1:=by simp [World.setCell]
 rw [hsz1] at hb1
 have hs1:=hb1.size
 rw [hsz1] at hs1
 have hB0:=heap_alloc_new (w.setCell ⟨C,1,none⟩ (.int .i64 (m+1))) (.cells #[.int .i64 4,.int .i64 x,.int .i64 y,.int .i64 n,.slice At nt ct,.slice Ae ne ce] 121)
 rw [hsz] at hB0
 have hB:=(hb1.block w.heap.size (by omega)).trans hB0
 have hCC:=(hb1.block C (by omega)).trans ((Below.heap_alloc _ _ C (by omega)).trans (block_set HC.out 1 _))
 have k0:w1.cell? ⟨C,0,none⟩=some (.slice A ts.length c):=(cB hCC 0).trans rfl
 have q0:w1.cell? ⟨w.heap.size,0,none⟩=some (.int .i64 4):=(cB hB 0).trans rfl
 have q1:w1.cell? ⟨w.heap.size,1,none⟩=some (.int .i64 x):=(cB hB 1).trans rfl
 have q2:w1.cell? ⟨w.heap.size,2,none⟩=some (.int .i64 y):=(cB hB 2).trans rfl
 have q3:w1.cell? ⟨w.heap.size,3,none⟩=some (.int .i64 n):=(cB hB 3).trans rfl
 have q4:w1.cell? ⟨w.heap.size,4,none⟩=some (.slice At nt ct):=(cB hB 4).trans rfl
 have q5:w1.cell? ⟨w.heap.size,5,none⟩=some (.slice Ae ne ce):=(cB hB 5).trans rfl
 have hT1:IntsV w1 0 C ts A c:=hT.keep (Nat.le_refl _) (Nat.le_refl _) fun p _ hp=>(hb1.cell (by omega)).trans ((World.cell?_alloc_lt _ _ _ (by omega)).trans (World.cell?_setCell_other _ _ _ _ (fun e=>by subst e;simp at hp)))
 have HB1:=Lib.hid hb1
 clear hb1 hB hCC hsz hsz1 hB0 c0 c1 f1
 go_wp2_with fail
 first
  | (go_region_with (first | (go_at_call 182;refine (fits_4 ts A c x y n tx ty _ ?_ hx hy).mono ?_;(exact hT1.keep (Nat.le_refl _) (by simp;omega) fun _ _ _=>rfl);rintro E w' ⟨he,hbn⟩;rw [hf.out] at he;subst he)))
  | fail
 all_goals
  go_wp2_with fail
  go_ret
  exact ⟨rfl,chk_mk hlt HC.out HB1.out (Below.mono (Below.trans ((Below.refl w1.heap.size w1).drew) ‹Below _ _ _›) (Nat.le_refl _))⟩
end Go.Proofs.YtedkkphogeealaaGreatDoor
