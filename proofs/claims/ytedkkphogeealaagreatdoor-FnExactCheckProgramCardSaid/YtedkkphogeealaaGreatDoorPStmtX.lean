/- The program's check of one statement: a choice or a loop whose fields are not zero. -/
import Derived.Test.YtedkkphogeealaaGreatDoorPStmtA
import Derived.Deep.QuietTactic
import Derived.BigQuiet
namespace Go.Proofs.YtedkkphogeealaaGreatDoor
open Go.RowKit Go.Deep
set_option linter.unusedVariables false
set_option maxRecDepth 100000
set_option maxHeartbeats 4000000
theorem sv_9_same (ts:List Int) (A:Option Addr) (c C:Nat) (x y n m d tx ty:Int) (At Ae:Option Addr) (nt ct ne ce:Nat) (w:World) (hT:IntsV w 0 C ts A c) (hC:w.heap[C]?=some (.cells #[.slice A ts.length c,.int .i64 m] 180 (0,0)))
  (hx:Hid (tyAt ts x=tx)) (hy:Hid (tyAt ts y=ty)) (hm:0≤m) (hm30:m<30)  (hs:Hid (sameB 9 9 x 0 y 0 n 0 nt nt ne ne=false)) :
  Calls Tryz.prog 123 #[.pointer (some ⟨C,0,none⟩),.agg #[.int .i64 9,.int .i64 x,.int .i64 y,.int .i64 n,.slice At nt ct,.slice Ae ne ce],.int .i64 d] w
   fun E w'=>E=.returned (.bool false)∧Chk C (.slice A ts.length c) w w' (m+1):=by
 have hlt:=heap_lt hC
 have c0:w.cell? ⟨C,0,none⟩=some (.slice A ts.length c):=(cB hC 0).trans rfl
 have c1:w.cell? ⟨C,1,none⟩=some (.int .i64 m):=(cB hC 1).trans rfl
 have f1:=fB hC 1
 have HC:=Lib.hid hC
 clear hC
 have na:=ahead_9
 have fa:=fitsAt_9
 have pa:=plainAt_9
 go_enter Tryz.func123,Tryz.ntmps123
 go_wp2_with fail
 refine (kindOf_9 x y n At Ae nt ct ne ce _).mono ?_
 rintro E w1 ⟨rfl,hb1⟩
 have hsz:(w.setCell ⟨C,1,none⟩ (.int .i64 (m+1))).heap.size=w.heap.size:=by simp [World.setCell]
 have hsz1:((w.setCell ⟨C,1,none⟩ (.int .i64 (m+1))).alloc (.cells #[.int .i64 9,.int .i64 x,.int .i64 y,.int .i64 n,.slice At nt ct,.slice Ae ne ce] 121)).heap.size=w.heap.size+1:=by simp [World.setCell]
 rw [hsz1] at hb1
 have hs1:=hb1.size
 rw [hsz1] at hs1
 have hB0:=heap_alloc_new (w.setCell ⟨C,1,none⟩ (.int .i64 (m+1))) (.cells #[.int .i64 9,.int .i64 x,.int .i64 y,.int .i64 n,.slice At nt ct,.slice Ae ne ce] 121)
 rw [hsz] at hB0
 have hB:=(hb1.block w.heap.size (by omega)).trans hB0
 have hCC:=(hb1.block C (by omega)).trans ((Below.heap_alloc _ _ C (by omega)).trans (block_set HC.out 1 _))
 have k0:w1.cell? ⟨C,0,none⟩=some (.slice A ts.length c):=(cB hCC 0).trans rfl
 have q0:w1.cell? ⟨w.heap.size,0,none⟩=some (.int .i64 9):=(cB hB 0).trans rfl
 have q1:w1.cell? ⟨w.heap.size,1,none⟩=some (.int .i64 x):=(cB hB 1).trans rfl
 have q2:w1.cell? ⟨w.heap.size,2,none⟩=some (.int .i64 y):=(cB hB 2).trans rfl
 have q3:w1.cell? ⟨w.heap.size,3,none⟩=some (.int .i64 n):=(cB hB 3).trans rfl
 have q4:w1.cell? ⟨w.heap.size,4,none⟩=some (.slice At nt ct):=(cB hB 4).trans rfl
 have q5:w1.cell? ⟨w.heap.size,5,none⟩=some (.slice Ae ne ce):=(cB hB 5).trans rfl
 have hT1:IntsV w1 0 C ts A c:=hT.keep (Nat.le_refl _) (Nat.le_refl _) fun p _ hp=>(hb1.cell (by omega)).trans ((World.cell?_alloc_lt _ _ _ (by omega)).trans (World.cell?_setCell_other _ _ _ _ (fun e=>by subst e;simp at hp)))
 have HB1:=Lib.hid hb1
 clear hb1 hB hCC hsz hsz1 hB0 c0 c1 f1
 go_wp2_with fail
 go_region_held3 (fun w'=>Below w1.heap.size w1 w'∧w'.cell? ⟨C,0,none⟩=some (.slice A ts.length c)∧w'.cell? ⟨w.heap.size,0,none⟩=some (.int .i64 9)∧w'.cell? ⟨w.heap.size,1,none⟩=some (.int .i64 x)∧w'.cell? ⟨w.heap.size,2,none⟩=some (.int .i64 y)∧w'.cell? ⟨w.heap.size,3,none⟩=some (.int .i64 n)∧w'.cell? ⟨w.heap.size,4,none⟩=some (.slice At nt ct)∧w'.cell? ⟨w.heap.size,5,none⟩=some (.slice Ae ne ce))
  (first | exact ⟨(Below.refl w1.heap.size w1).drew,k0,q0,q1,q2,q3,q4,q5⟩ | exact held_S hbn (And.left ‹Below w1.heap.size w1 _∧_›) rfl (by omega) (by omega) k0 q0 q1 q2 q3 q4 q5)
  (first
   | (go_at_call 198;refine (fits_9 At Ae nt ct ne ce _ _).mono ?_;rintro E w' ⟨he,hbn⟩;subst he)
   | (go_at_call 199;refine (plain_9 At Ae nt ct ne ce _).mono ?_;rintro E w' ⟨rfl,hbn⟩)
   | (go_at_call 138;refine (sameOutside_any _ _ _ _ _ _ _ _ _ _ _ _ _ _ _ _ _ _ _ _ _).mono ?_;rintro E w' ⟨he,hbn⟩;rw [hs.out] at he;subst he))
 have hbl:=And.left ‹Below w1.heap.size w1 _∧_›
 have hbq:=And.left (And.right (And.right ‹Below w1.heap.size w1 _∧_›))
 go_wp2_with fail
 go_ret
 exact ⟨rfl,chk_mk hlt HC.out HB1.out hbl⟩
theorem sv_10_same (ts:List Int) (A:Option Addr) (c C:Nat) (x y n m d tx ty:Int) (At Ae:Option Addr) (nt ct ne ce:Nat) (w:World) (hT:IntsV w 0 C ts A c) (hC:w.heap[C]?=some (.cells #[.slice A ts.length c,.int .i64 m] 180 (0,0)))
  (hx:Hid (tyAt ts x=tx)) (hy:Hid (tyAt ts y=ty)) (hm:0≤m) (hm30:m<30)  (hs:Hid (sameB 10 10 x 0 y 0 n 0 nt nt ne 0=false)) :
  Calls Tryz.prog 123 #[.pointer (some ⟨C,0,none⟩),.agg #[.int .i64 10,.int .i64 x,.int .i64 y,.int .i64 n,.slice At nt ct,.slice Ae ne ce],.int .i64 d] w
   fun E w'=>E=.returned (.bool false)∧Chk C (.slice A ts.length c) w w' (m+1):=by
 have hlt:=heap_lt hC
 have c0:w.cell? ⟨C,0,none⟩=some (.slice A ts.length c):=(cB hC 0).trans rfl
 have c1:w.cell? ⟨C,1,none⟩=some (.int .i64 m):=(cB hC 1).trans rfl
 have f1:=fB hC 1
 have HC:=Lib.hid hC
 clear hC
 have na:=ahead_10
 have fa:=fitsAt_10
 have pa:=plainAt_10
 go_enter Tryz.func123,Tryz.ntmps123
 go_wp2_with fail
 refine (kindOf_10 x y n At Ae nt ct ne ce _).mono ?_
 rintro E w1 ⟨rfl,hb1⟩
 have hsz:(w.setCell ⟨C,1,none⟩ (.int .i64 (m+1))).heap.size=w.heap.size:=by simp [World.setCell]
 have hsz1:((w.setCell ⟨C,1,none⟩ (.int .i64 (m+1))).alloc (.cells #[.int .i64 10,.int .i64 x,.int .i64 y,.int .i64 n,.slice At nt ct,.slice Ae ne ce] 121)).heap.size=w.heap.size+1:=by simp [World.setCell]
 rw [hsz1] at hb1
 have hs1:=hb1.size
 rw [hsz1] at hs1
 have hB0:=heap_alloc_new (w.setCell ⟨C,1,none⟩ (.int .i64 (m+1))) (.cells #[.int .i64 10,.int .i64 x,.int .i64 y,.int .i64 n,.slice At nt ct,.slice Ae ne ce] 121)
 rw [hsz] at hB0
 have hB:=(hb1.block w.heap.size (by omega)).trans hB0
 have hCC:=(hb1.block C (by omega)).trans ((Below.heap_alloc _ _ C (by omega)).trans (block_set HC.out 1 _))
 have k0:w1.cell? ⟨C,0,none⟩=some (.slice A ts.length c):=(cB hCC 0).trans rfl
 have q0:w1.cell? ⟨w.heap.size,0,none⟩=some (.int .i64 10):=(cB hB 0).trans rfl
 have q1:w1.cell? ⟨w.heap.size,1,none⟩=some (.int .i64 x):=(cB hB 1).trans rfl
 have q2:w1.cell? ⟨w.heap.size,2,none⟩=some (.int .i64 y):=(cB hB 2).trans rfl
 have q3:w1.cell? ⟨w.heap.size,3,none⟩=some (.int .i64 n):=(cB hB 3).trans rfl
 have q4:w1.cell? ⟨w.heap.size,4,none⟩=some (.slice At nt ct):=(cB hB 4).trans rfl
 have q5:w1.cell? ⟨w.heap.size,5,none⟩=some (.slice Ae ne ce):=(cB hB 5).trans rfl
 have hT1:IntsV w1 0 C ts A c:=hT.keep (Nat.le_refl _) (Nat.le_refl _) fun p _ hp=>(hb1.cell (by omega)).trans ((World.cell?_alloc_lt _ _ _ (by omega)).trans (World.cell?_setCell_other _ _ _ _ (fun e=>by subst e;simp at hp)))
 have HB1:=Lib.hid hb1
 clear hb1 hB hCC hsz hsz1 hB0 c0 c1 f1
 go_wp2_with fail
 go_region_held3 (fun w'=>Below w1.heap.size w1 w'∧w'.cell? ⟨C,0,none⟩=some (.slice A ts.length c)∧w'.cell? ⟨w.heap.size,0,none⟩=some (.int .i64 10)∧w'.cell? ⟨w.heap.size,1,none⟩=some (.int .i64 x)∧w'.cell? ⟨w.heap.size,2,none⟩=some (.int .i64 y)∧w'.cell? ⟨w.heap.size,3,none⟩=some (.int .i64 n)∧w'.cell? ⟨w.heap.size,4,none⟩=some (.slice At nt ct)∧w'.cell? ⟨w.heap.size,5,none⟩=some (.slice Ae ne ce))
  (first | exact ⟨(Below.refl w1.heap.size w1).drew,k0,q0,q1,q2,q3,q4,q5⟩ | exact held_S hbn (And.left ‹Below w1.heap.size w1 _∧_›) rfl (by omega) (by omega) k0 q0 q1 q2 q3 q4 q5)
  (first
   | (go_at_call 201;refine (fits_10 At nt ct _ _).mono ?_;rintro E w' ⟨he,hbn⟩;subst he)
   | (go_at_call 202;refine (plain_10 At nt ct _).mono ?_;rintro E w' ⟨rfl,hbn⟩)
   | (go_at_call 138;refine (sameOutside_any _ _ _ _ _ _ _ _ _ _ _ _ _ _ _ _ _ _ _ _ _).mono ?_;rintro E w' ⟨he,hbn⟩;rw [hs.out] at he;subst he))
 have hbl:=And.left ‹Below w1.heap.size w1 _∧_›
 have hbq:=And.left (And.right (And.right ‹Below w1.heap.size w1 _∧_›))
 go_wp2_with fail
 go_ret
 exact ⟨rfl,chk_mk hlt HC.out HB1.out hbl⟩
theorem Chk.trans {C:Nat} {vs:Value} {a b c:World} {m m':Int} (h:Chk C vs a b m) (k:Chk C vs b c m'):Chk C vs a c m' :=
 ⟨k.os.trans h.os,k.tape.trans h.tape,k.output.trans h.output,Nat.le_trans h.size k.size,fun i hi hne=>(k.block i (Nat.lt_of_lt_of_le hi h.size) hne).trans (h.block i hi hne),k.cell⟩
theorem Chk.alloc {C:Nat} {vs:Value} {a b:World} {m:Int} (h:Chk C vs a b m) (o:Obj):Chk C vs a (b.alloc o) m :=
 ⟨h.os,h.tape,h.output,by have:=h.size;simp;omega,fun i hi hne=>(Below.heap_alloc _ _ i (Nat.lt_of_lt_of_le hi h.size)).trans (h.block i hi hne),(Below.heap_alloc _ _ C (heap_lt h.cell)).trans h.cell⟩
theorem Chk.cellAt {C:Nat} {vs:Value} {a b:World} {m:Int} (h:Chk C vs a b m) {p:Addr} (hp:p.block<a.heap.size) (hne:p.block≠C):b.cell? p=a.cell? p:=World.cell?_of_block (w:=a) (h.block p.block hp hne)
def ListPost (C:Nat) (vs:Value) (w:World) (m:Int) (ok:Bool) (sz:Nat) (E:Ending) (w':World):Prop :=
 ∃ m',E=.returned (.bool (ok && decide (m+sz≤30)))∧Chk C vs w w' m'∧(ok=true→m+sz≤30→m'=m+sz)
theorem sv_full (A:Option Addr) (c C nts:Nat) (op x y n d:Int) (At Ae:Option Addr) (nt ct ne ce:Nat) (w:World) (hC:w.heap[C]?=some (.cells #[.slice A nts c,.int .i64 30] 180 (0,0))) :
  Calls Tryz.prog 123 #[.pointer (some ⟨C,0,none⟩),.agg #[.int .i64 op,.int .i64 x,.int .i64 y,.int .i64 n,.slice At nt ct,.slice Ae ne ce],.int .i64 d] w fun E w'=>E=.returned (.bool false)∧Chk C (.slice A nts c) w w' 31:=by
 have hlt:=heap_lt hC
 have c1:w.cell? ⟨C,1,none⟩=some (.int .i64 30):=(cB hC 1).trans rfl
 have f1:=fB hC 1
 have HC:=Lib.hid hC
 clear hC
 go_enter Tryz.func123,Tryz.ntmps123
 go_wp2_with fail
 go_ret
 exact ⟨rfl,chk_mk hlt HC.out (m':=31) (Below.refl _ _) (Below.refl _ _)⟩
theorem sv_0 (A:Option Addr) (c C nts:Nat) (op x y n d m:Int) (At Ae:Option Addr) (nt ct ne ce:Nat) (w:World) (hC:w.heap[C]?=some (.cells #[.slice A nts c,.int .i64 m] 180 (0,0))) (hm:0≤m) (hm30:m<30) (h1:(op==1)=false) (h2:(op==2)=false) (h3:(op==3)=false) (h4:(op==4)=false) (h5:(op==5)=false) (h6:(op==6)=false) (h7:(op==7)=false) (h8:(op==8)=false) (h9:(op==9)=false) (h10:(op==10)=false) :
  Calls Tryz.prog 123 #[.pointer (some ⟨C,0,none⟩),.agg #[.int .i64 op,.int .i64 x,.int .i64 y,.int .i64 n,.slice At nt ct,.slice Ae ne ce],.int .i64 d] w fun E w'=>E=.returned (.bool false)∧Chk C (.slice A nts c) w w' (m+1):=by
 have hlt:=heap_lt hC
 have c1:w.cell? ⟨C,1,none⟩=some (.int .i64 m):=(cB hC 1).trans rfl
 have f1:=fB hC 1
 have HC:=Lib.hid hC
 clear hC
 go_enter Tryz.func123,Tryz.ntmps123
 go_wp2_with fail
 refine (kindOf_0 op x y n At Ae nt ct ne ce _ h1 h2 h3 h4 h5 h6 h7 h8 h9 h10).mono ?_
 rintro E w1 ⟨rfl,hb1⟩
 have hsz1:((w.setCell ⟨C,1,none⟩ (.int .i64 (m+1))).alloc (.cells #[.int .i64 op,.int .i64 x,.int .i64 y,.int .i64 n,.slice At nt ct,.slice Ae ne ce] 121)).heap.size=w.heap.size+1:=by simp [World.setCell]
 rw [hsz1] at hb1
 have HB1:=Lib.hid hb1
 clear hb1 hsz1 c1 f1 h1 h2 h3 h4 h5 h6 h7 h8 h9 h10
 go_wp2_with fail
 go_quiet (fail)
 go_wp2_with fail
 go_ret
 exact ⟨rfl,chk_mk hlt HC.out HB1.out ⟨rfl,rfl,rfl,Nat.le_refl _,fun _ _=>rfl⟩⟩
theorem sv_9_true (ts:List Int) (A:Option Addr) (c C:Nat) (x y n m d tx ty:Int) (At Ae:Option Addr) (nt ct ne ce:Nat) (w:World) (hT:IntsV w 0 C ts A c) (hC:w.heap[C]?=some (.cells #[.slice A ts.length c,.int .i64 m] 180 (0,0)))
  (hx:Hid (tyAt ts x=tx)) (hy:Hid (tyAt ts y=ty)) (hm:0≤m) (hm30:m<30)  (hs:Hid (sameB 9 9 x 0 y 0 n 0 nt nt ne ne=true)) (hd0:0≤d) (hd4:d≤4) (okT okE:Bool) (szT szE:Nat) (hC':C<w.heap.size)
  (HT:∀ (w':World) (m':Int),Chk C (.slice A ts.length c) w w' m'→0≤m'→m'≤30→d<4→Calls Tryz.prog 102 #[.pointer (some ⟨C,0,none⟩),.slice At nt ct,.int .i64 (d+1)] w' (ListPost C (.slice A ts.length c) w' m' okT szT))
  (HE:∀ (w':World) (m':Int),Chk C (.slice A ts.length c) w w' m'→0≤m'→m'≤30→d<4→Calls Tryz.prog 102 #[.pointer (some ⟨C,0,none⟩),.slice Ae ne ce,.int .i64 (d+1)] w' (ListPost C (.slice A ts.length c) w' m' okE szE)) :
  Calls Tryz.prog 123 #[.pointer (some ⟨C,0,none⟩),.agg #[.int .i64 9,.int .i64 x,.int .i64 y,.int .i64 n,.slice At nt ct,.slice Ae ne ce],.int .i64 d] w
   (ListPost C (.slice A ts.length c) w m (decide (d<4) && (okT && okE)) (1+szT+szE)):=by
 have hlt:=heap_lt hC
 have c0:w.cell? ⟨C,0,none⟩=some (.slice A ts.length c):=(cB hC 0).trans rfl
 have c1:w.cell? ⟨C,1,none⟩=some (.int .i64 m):=(cB hC 1).trans rfl
 have f1:=fB hC 1
 have HC:=Lib.hid hC
 clear hC
 have na:=ahead_9
 have fa:=fitsAt_9
 have pa:=plainAt_9
 go_enter Tryz.func123,Tryz.ntmps123
 go_wp2_with fail
 refine (kindOf_9 x y n At Ae nt ct ne ce _).mono ?_
 rintro E w1 ⟨rfl,hb1⟩
 have hsz:(w.setCell ⟨C,1,none⟩ (.int .i64 (m+1))).heap.size=w.heap.size:=by simp [World.setCell]
 have hsz1:((w.setCell ⟨C,1,none⟩ (.int .i64 (m+1))).alloc (.cells #[.int .i64 9,.int .i64 x,.int .i64 y,.int .i64 n,.slice At nt ct,.slice Ae ne ce] 121)).heap.size=w.heap.size+1:=by simp [World.setCell]
 rw [hsz1] at hb1
 have hs1:=hb1.size
 rw [hsz1] at hs1
 have hB0:=heap_alloc_new (w.setCell ⟨C,1,none⟩ (.int .i64 (m+1))) (.cells #[.int .i64 9,.int .i64 x,.int .i64 y,.int .i64 n,.slice At nt ct,.slice Ae ne ce] 121)
 rw [hsz] at hB0
 have hB:=(hb1.block w.heap.size (by omega)).trans hB0
 have hCC:=(hb1.block C (by omega)).trans ((Below.heap_alloc _ _ C (by omega)).trans (block_set HC.out 1 _))
 have k0:w1.cell? ⟨C,0,none⟩=some (.slice A ts.length c):=(cB hCC 0).trans rfl
 have q0:w1.cell? ⟨w.heap.size,0,none⟩=some (.int .i64 9):=(cB hB 0).trans rfl
 have q1:w1.cell? ⟨w.heap.size,1,none⟩=some (.int .i64 x):=(cB hB 1).trans rfl
 have q2:w1.cell? ⟨w.heap.size,2,none⟩=some (.int .i64 y):=(cB hB 2).trans rfl
 have q3:w1.cell? ⟨w.heap.size,3,none⟩=some (.int .i64 n):=(cB hB 3).trans rfl
 have q4:w1.cell? ⟨w.heap.size,4,none⟩=some (.slice At nt ct):=(cB hB 4).trans rfl
 have q5:w1.cell? ⟨w.heap.size,5,none⟩=some (.slice Ae ne ce):=(cB hB 5).trans rfl
 have hT1:IntsV w1 0 C ts A c:=hT.keep (Nat.le_refl _) (Nat.le_refl _) fun p _ hp=>(hb1.cell (by omega)).trans ((World.cell?_alloc_lt _ _ _ (by omega)).trans (World.cell?_setCell_other _ _ _ _ (fun e=>by subst e;simp at hp)))
 have HB1:=Lib.hid hb1
 clear hb1 hB hCC hsz hsz1 hB0 c0 c1 f1
 go_wp2_with fail
 go_region_held3 (fun w'=>Below w1.heap.size w1 w'∧w'.cell? ⟨C,0,none⟩=some (.slice A ts.length c)∧w'.cell? ⟨w.heap.size,0,none⟩=some (.int .i64 9)∧w'.cell? ⟨w.heap.size,1,none⟩=some (.int .i64 x)∧w'.cell? ⟨w.heap.size,2,none⟩=some (.int .i64 y)∧w'.cell? ⟨w.heap.size,3,none⟩=some (.int .i64 n)∧w'.cell? ⟨w.heap.size,4,none⟩=some (.slice At nt ct)∧w'.cell? ⟨w.heap.size,5,none⟩=some (.slice Ae ne ce))
  (first | exact ⟨(Below.refl w1.heap.size w1).drew,k0,q0,q1,q2,q3,q4,q5⟩ | exact held_S hbn (And.left ‹Below w1.heap.size w1 _∧_›) rfl (by omega) (by omega) k0 q0 q1 q2 q3 q4 q5)
  (first
   | (go_at_call 198;refine (fits_9 At Ae nt ct ne ce _ _).mono ?_;rintro E w' ⟨he,hbn⟩;subst he)
   | (go_at_call 199;refine (plain_9 At Ae nt ct ne ce _).mono ?_;rintro E w' ⟨rfl,hbn⟩)
   | (go_at_call 138;refine (sameOutside_any _ _ _ _ _ _ _ _ _ _ _ _ _ _ _ _ _ _ _ _ _).mono ?_;rintro E w' ⟨he,hbn⟩;rw [hs.out] at he;subst he))
 have hbl:=And.left ‹Below w1.heap.size w1 _∧_›
 have hk0:=chk_mk hlt HC.out HB1.out hbl
 obtain ⟨-,-,p0,-,-,-,p4,p5⟩:=‹Below w1.heap.size w1 _∧_›
 have hbz:=hbl.size
 clear hbl k0 q0 q1 q2 q3 q4 q5 hT1 hT na fa pa hx hy hs
 by_cases hd:d<4
 ·by_cases hbT:(okT && decide (m+1+szT≤30))=true
  ·have BT:=Lib.hid hbT
   simp only [Bool.and_eq_true,decide_eq_true_eq] at hbT
   obtain ⟨hokT,hszT⟩:=hbT
   have OT:=Lib.hid hokT
   clear hokT
   go_wp2_with fail
   refine (HT _ (m+1) hk0 (by omega) (by omega) hd).mono ?_
   rintro E w3 ⟨m3,he,hk3,hm3⟩
   rw [BT.out] at he
   subst he
   have hm3':=hm3 OT.out hszT
   subst hm3'
   have p5':w3.cell? ⟨w.heap.size,5,none⟩=some (.slice Ae ne ce):=(hk3.cellAt (by simp;omega) (by simp;omega)).trans p5
   have hk4:=hk0.trans hk3
   clear hm3 hk3
   by_cases hbE:(okE && decide (m+1+szT+szE≤30))=true
   ·have BE:=Lib.hid hbE
    simp only [Bool.and_eq_true,decide_eq_true_eq] at hbE
    obtain ⟨hokE,hszE⟩:=hbE
    have OE:=Lib.hid hokE
    clear hokE
    go_wp2_with fail
    refine (HE _ (m+1+szT) hk4 (by omega) (by omega) hd).mono ?_
    rintro E w5 ⟨m5,he,hk5,hm5⟩
    rw [BE.out] at he
    subst he
    have hm5':=hm5 OE.out hszE
    have hk6:=hk4.trans hk5
    have M5:=Lib.hid hm5'
    clear hm5 hk5 hm5'
    go_wp2_with fail
    go_ret
    refine ⟨m5,ret_bool ?_,hk6,fun _ _=>by rw [M5.out];omega⟩
    have e1:=OT.out
    have e2:=OE.out
    subst e1 e2
    simp [hd]
    omega
   ·have hbE':(okE && decide (m+1+szT+szE≤30))=false:=by simpa using hbE
    have BE:=Lib.hid hbE'
    clear hbE hbE'
    go_wp2_with fail
    refine (HE _ (m+1+szT) hk4 (by omega) (by omega) hd).mono ?_
    rintro E w5 ⟨m5,he,hk5,hm5⟩
    rw [BE.out] at he
    subst he
    have hk6:=hk4.trans hk5
    clear hm5 hk5
    have hfin:Hid ((decide (d<4) && (okT && okE) && decide (m+(1+szT+szE:Nat)≤30))=false):=by
     unfold Hid
     have e1:=OT.out
     have e2:=BE.out
     subst e1
     cases okE with
     | false=>simp
     | true=>simp at e2;simp;omega
    go_wp2_with fail
    go_ret
    refine ⟨m5,ret_bool hfin.out.symm,hk6,fun h1 h2=>?_⟩
    exfalso
    have:=hfin.out
    rw [h1] at this
    simp at this
    omega
  ·have hbT':(okT && decide (m+1+szT≤30))=false:=by simpa using hbT
   have BT:=Lib.hid hbT'
   clear hbT hbT'
   go_wp2_with fail
   refine (HT _ (m+1) hk0 (by omega) (by omega) hd).mono ?_
   rintro E w3 ⟨m3,he,hk3,hm3⟩
   rw [BT.out] at he
   subst he
   have hk4:=hk0.trans hk3
   clear hm3 hk3
   have hfin:Hid ((decide (d<4) && (okT && okE) && decide (m+(1+szT+szE:Nat)≤30))=false):=by
    unfold Hid
    have e2:=BT.out
    cases okT with
    | false=>simp
    | true=>simp at e2;simp;intros;omega
   go_wp2_with fail
   go_ret
   refine ⟨m3,ret_bool hfin.out.symm,hk4,fun h1 h2=>?_⟩
   exfalso
   have:=hfin.out
   rw [h1] at this
   simp at this
   omega
 ·have hd5:4≤d:=by omega
  have hfin:Hid ((decide (d<4) && (okT && okE) && decide (m+(1+szT+szE:Nat)≤30))=false):=by simp [Hid,hd]
  go_wp2_with fail
  go_ret
  refine ⟨m+1,ret_bool hfin.out.symm,hk0,fun h1 h2=>?_⟩
  exfalso
  have:=hfin.out
  rw [h1] at this
  simp at this
  omega
theorem sv_10_true (ts:List Int) (A:Option Addr) (c C:Nat) (x y n m d tx ty:Int) (At Ae:Option Addr) (nt ct ne ce:Nat) (w:World) (hT:IntsV w 0 C ts A c) (hC:w.heap[C]?=some (.cells #[.slice A ts.length c,.int .i64 m] 180 (0,0)))
  (hx:Hid (tyAt ts x=tx)) (hy:Hid (tyAt ts y=ty)) (hm:0≤m) (hm30:m<30)  (hs:Hid (sameB 10 10 x 0 y 0 n 0 nt nt ne 0=true)) (hd0:0≤d) (hd4:d≤4) (okT okE:Bool) (szT szE:Nat) (hC':C<w.heap.size)
  (HT:∀ (w':World) (m':Int),Chk C (.slice A ts.length c) w w' m'→0≤m'→m'≤30→d<4→Calls Tryz.prog 102 #[.pointer (some ⟨C,0,none⟩),.slice At nt ct,.int .i64 (d+1)] w' (ListPost C (.slice A ts.length c) w' m' okT szT))
  (HE:∀ (w':World) (m':Int),Chk C (.slice A ts.length c) w w' m'→0≤m'→m'≤30→d<4→Calls Tryz.prog 102 #[.pointer (some ⟨C,0,none⟩),.slice Ae ne ce,.int .i64 (d+1)] w' (ListPost C (.slice A ts.length c) w' m' okE szE)) :
  Calls Tryz.prog 123 #[.pointer (some ⟨C,0,none⟩),.agg #[.int .i64 10,.int .i64 x,.int .i64 y,.int .i64 n,.slice At nt ct,.slice Ae ne ce],.int .i64 d] w
   (ListPost C (.slice A ts.length c) w m (decide (d<4) && (okT && okE)) (1+szT+szE)):=by
 have hlt:=heap_lt hC
 have c0:w.cell? ⟨C,0,none⟩=some (.slice A ts.length c):=(cB hC 0).trans rfl
 have c1:w.cell? ⟨C,1,none⟩=some (.int .i64 m):=(cB hC 1).trans rfl
 have f1:=fB hC 1
 have HC:=Lib.hid hC
 clear hC
 have na:=ahead_10
 have fa:=fitsAt_10
 have pa:=plainAt_10
 go_enter Tryz.func123,Tryz.ntmps123
 go_wp2_with fail
 refine (kindOf_10 x y n At Ae nt ct ne ce _).mono ?_
 rintro E w1 ⟨rfl,hb1⟩
 have hsz:(w.setCell ⟨C,1,none⟩ (.int .i64 (m+1))).heap.size=w.heap.size:=by simp [World.setCell]
 have hsz1:((w.setCell ⟨C,1,none⟩ (.int .i64 (m+1))).alloc (.cells #[.int .i64 10,.int .i64 x,.int .i64 y,.int .i64 n,.slice At nt ct,.slice Ae ne ce] 121)).heap.size=w.heap.size+1:=by simp [World.setCell]
 rw [hsz1] at hb1
 have hs1:=hb1.size
 rw [hsz1] at hs1
 have hB0:=heap_alloc_new (w.setCell ⟨C,1,none⟩ (.int .i64 (m+1))) (.cells #[.int .i64 10,.int .i64 x,.int .i64 y,.int .i64 n,.slice At nt ct,.slice Ae ne ce] 121)
 rw [hsz] at hB0
 have hB:=(hb1.block w.heap.size (by omega)).trans hB0
 have hCC:=(hb1.block C (by omega)).trans ((Below.heap_alloc _ _ C (by omega)).trans (block_set HC.out 1 _))
 have k0:w1.cell? ⟨C,0,none⟩=some (.slice A ts.length c):=(cB hCC 0).trans rfl
 have q0:w1.cell? ⟨w.heap.size,0,none⟩=some (.int .i64 10):=(cB hB 0).trans rfl
 have q1:w1.cell? ⟨w.heap.size,1,none⟩=some (.int .i64 x):=(cB hB 1).trans rfl
 have q2:w1.cell? ⟨w.heap.size,2,none⟩=some (.int .i64 y):=(cB hB 2).trans rfl
 have q3:w1.cell? ⟨w.heap.size,3,none⟩=some (.int .i64 n):=(cB hB 3).trans rfl
 have q4:w1.cell? ⟨w.heap.size,4,none⟩=some (.slice At nt ct):=(cB hB 4).trans rfl
 have q5:w1.cell? ⟨w.heap.size,5,none⟩=some (.slice Ae ne ce):=(cB hB 5).trans rfl
 have hT1:IntsV w1 0 C ts A c:=hT.keep (Nat.le_refl _) (Nat.le_refl _) fun p _ hp=>(hb1.cell (by omega)).trans ((World.cell?_alloc_lt _ _ _ (by omega)).trans (World.cell?_setCell_other _ _ _ _ (fun e=>by subst e;simp at hp)))
 have HB1:=Lib.hid hb1
 clear hb1 hB hCC hsz hsz1 hB0 c0 c1 f1
 go_wp2_with fail
 go_region_held3 (fun w'=>Below w1.heap.size w1 w'∧w'.cell? ⟨C,0,none⟩=some (.slice A ts.length c)∧w'.cell? ⟨w.heap.size,0,none⟩=some (.int .i64 10)∧w'.cell? ⟨w.heap.size,1,none⟩=some (.int .i64 x)∧w'.cell? ⟨w.heap.size,2,none⟩=some (.int .i64 y)∧w'.cell? ⟨w.heap.size,3,none⟩=some (.int .i64 n)∧w'.cell? ⟨w.heap.size,4,none⟩=some (.slice At nt ct)∧w'.cell? ⟨w.heap.size,5,none⟩=some (.slice Ae ne ce))
  (first | exact ⟨(Below.refl w1.heap.size w1).drew,k0,q0,q1,q2,q3,q4,q5⟩ | exact held_S hbn (And.left ‹Below w1.heap.size w1 _∧_›) rfl (by omega) (by omega) k0 q0 q1 q2 q3 q4 q5)
  (first
   | (go_at_call 201;refine (fits_10 At nt ct _ _).mono ?_;rintro E w' ⟨he,hbn⟩;subst he)
   | (go_at_call 202;refine (plain_10 At nt ct _).mono ?_;rintro E w' ⟨rfl,hbn⟩)
   | (go_at_call 138;refine (sameOutside_any _ _ _ _ _ _ _ _ _ _ _ _ _ _ _ _ _ _ _ _ _).mono ?_;rintro E w' ⟨he,hbn⟩;rw [hs.out] at he;subst he))
 have hbl:=And.left ‹Below w1.heap.size w1 _∧_›
 have hk0:=chk_mk hlt HC.out HB1.out hbl
 obtain ⟨-,-,p0,-,-,-,p4,p5⟩:=‹Below w1.heap.size w1 _∧_›
 have hbz:=hbl.size
 clear hbl k0 q0 q1 q2 q3 q4 q5 hT1 hT na fa pa hx hy hs
 by_cases hd:d<4
 ·by_cases hbT:(okT && decide (m+1+szT≤30))=true
  ·have BT:=Lib.hid hbT
   simp only [Bool.and_eq_true,decide_eq_true_eq] at hbT
   obtain ⟨hokT,hszT⟩:=hbT
   have OT:=Lib.hid hokT
   clear hokT
   go_wp2_with fail
   refine (HT _ (m+1) hk0 (by omega) (by omega) hd).mono ?_
   rintro E w3 ⟨m3,he,hk3,hm3⟩
   rw [BT.out] at he
   subst he
   have hm3':=hm3 OT.out hszT
   subst hm3'
   have p5':w3.cell? ⟨w.heap.size,5,none⟩=some (.slice Ae ne ce):=(hk3.cellAt (by simp;omega) (by simp;omega)).trans p5
   have hk4:=hk0.trans hk3
   clear hm3 hk3
   by_cases hbE:(okE && decide (m+1+szT+szE≤30))=true
   ·have BE:=Lib.hid hbE
    simp only [Bool.and_eq_true,decide_eq_true_eq] at hbE
    obtain ⟨hokE,hszE⟩:=hbE
    have OE:=Lib.hid hokE
    clear hokE
    go_wp2_with fail
    refine (HE _ (m+1+szT) hk4 (by omega) (by omega) hd).mono ?_
    rintro E w5 ⟨m5,he,hk5,hm5⟩
    rw [BE.out] at he
    subst he
    have hm5':=hm5 OE.out hszE
    have hk6:=hk4.trans hk5
    have M5:=Lib.hid hm5'
    clear hm5 hk5 hm5'
    go_wp2_with fail
    go_ret
    refine ⟨m5,ret_bool ?_,hk6,fun _ _=>by rw [M5.out];omega⟩
    have e1:=OT.out
    have e2:=OE.out
    subst e1 e2
    simp [hd]
    omega
   ·have hbE':(okE && decide (m+1+szT+szE≤30))=false:=by simpa using hbE
    have BE:=Lib.hid hbE'
    clear hbE hbE'
    go_wp2_with fail
    refine (HE _ (m+1+szT) hk4 (by omega) (by omega) hd).mono ?_
    rintro E w5 ⟨m5,he,hk5,hm5⟩
    rw [BE.out] at he
    subst he
    have hk6:=hk4.trans hk5
    clear hm5 hk5
    have hfin:Hid ((decide (d<4) && (okT && okE) && decide (m+(1+szT+szE:Nat)≤30))=false):=by
     unfold Hid
     have e1:=OT.out
     have e2:=BE.out
     subst e1
     cases okE with
     | false=>simp
     | true=>simp at e2;simp;omega
    go_wp2_with fail
    go_ret
    refine ⟨m5,ret_bool hfin.out.symm,hk6,fun h1 h2=>?_⟩
    exfalso
    have:=hfin.out
    rw [h1] at this
    simp at this
    omega
  ·have hbT':(okT && decide (m+1+szT≤30))=false:=by simpa using hbT
   have BT:=Lib.hid hbT'
   clear hbT hbT'
   go_wp2_with fail
   refine (HT _ (m+1) hk0 (by omega) (by omega) hd).mono ?_
   rintro E w3 ⟨m3,he,hk3,hm3⟩
   rw [BT.out] at he
   subst he
   have hk4:=hk0.trans hk3
   clear hm3 hk3
   have hfin:Hid ((decide (d<4) && (okT && okE) && decide (m+(1+szT+szE:Nat)≤30))=false):=by
    unfold Hid
    have e2:=BT.out
    cases okT with
    | false=>simp
    | true=>simp at e2;simp;intros;omega
   go_wp2_with fail
   go_ret
   refine ⟨m3,ret_bool hfin.out.symm,hk4,fun h1 h2=>?_⟩
   exfalso
   have:=hfin.out
   rw [h1] at this
   simp at this
   omega
 ·have hd5:4≤d:=by omega
  have hfin:Hid ((decide (d<4) && (okT && okE) && decide (m+(1+szT+szE:Nat)≤30))=false):=by simp [Hid,hd]
  go_wp2_with fail
  go_ret
  refine ⟨m+1,ret_bool hfin.out.symm,hk0,fun h1 h2=>?_⟩
  exfalso
  have:=hfin.out
  rw [h1] at this
  simp at this
  omega
end Go.Proofs.YtedkkphogeealaaGreatDoor
