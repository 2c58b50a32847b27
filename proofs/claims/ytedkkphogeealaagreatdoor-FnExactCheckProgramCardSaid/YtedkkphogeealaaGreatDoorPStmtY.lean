/- The program's tests of a statement and the model's are the same. -/
import Derived.Test.YtedkkphogeealaaGreatDoorPSpecX
import Derived.Test.YtedkkphogeealaaGreatDoorPStmtB1
import Derived.Test.YtedkkphogeealaaGreatDoorPStmtB2
import Derived.Test.YtedkkphogeealaaGreatDoorPStmtB3
import Derived.Test.YtedkkphogeealaaGreatDoorPStmtB4
import Derived.Test.YtedkkphogeealaaGreatDoorPStmtX
import Derived.Test.YtedkkphogeealaaGreatDoorPGrX
import Derived.Deep.RegionWith
import Derived.Test.YtedkkphogeealaaGreatDoorPMem
import Derived.Test.YtedkkphogeealaaGreatDoorPBase
import Derived.Deep.RegionHeld3
import Derived.Deep.MidRow
import Derived.Deep.WholeRow
namespace Go.Proofs.YtedkkphogeealaaGreatDoor
open Go.RowKit Go.Deep
set_option linter.unusedVariables false
set_option maxRecDepth 100000
set_option maxHeartbeats 4000000
theorem tyAt_bound {ts:List Int} (h:typesB ts=true) (v:Int):0≤tyAt ts v∧tyAt ts v≤4:=by
 unfold tyAt
 by_cases hv:v<0∨(ts.length:Int)≤v
 ·rw [if_pos hv];omega
 ·rw [if_neg hv]
  have hl:v.toNat<ts.length:=by omega
  simp only [typesB,Bool.and_eq_true,List.all_eq_true,decide_eq_true_eq] at h
  have:=h.1 ts[v.toNat] (List.getElem_mem hl)
  rw [List.getD_eq_getElem?_getD,List.getElem?_eq_getElem hl]
  simp only [Option.getD_some]
  omega
theorem size_of_len {s:Sts} (h:s.len=0):s.size=0:=by
 cases s with
 | nil=>rfl
 | cons=>simp [Sts.len] at h
theorem simple_eq_1 (tx ty x y n:Int) (nt ne:Nat) (h1:0≤tx) (h2:tx≤4) (h3:0≤ty) (h4:ty≤4):(decide (nt=0∧ne=0) && simpleB 1 tx ty x y n)=(fitsB 1 tx ty x y n && sameB 1 1 x x y 0 n n nt 0 ne 0):=by
 rw [Bool.eq_iff_iff]
 simp [simpleB,fitsB,sameB] <;> omega
theorem simple_eq_2 (tx ty x y n:Int) (nt ne:Nat) (h1:0≤tx) (h2:tx≤4) (h3:0≤ty) (h4:ty≤4):(decide (nt=0∧ne=0) && simpleB 2 tx ty x y n)=(fitsB 2 tx ty x y n && sameB 2 2 x x y 0 n n nt 0 ne 0):=by
 rw [Bool.eq_iff_iff]
 simp [simpleB,fitsB,sameB] <;> omega
theorem simple_eq_3 (tx ty x y n:Int) (nt ne:Nat) (h1:0≤tx) (h2:tx≤4) (h3:0≤ty) (h4:ty≤4):(decide (nt=0∧ne=0) && simpleB 3 tx ty x y n)=(fitsB 3 tx ty x y n && sameB 3 3 x x y y n 0 nt 0 ne 0):=by
 rw [Bool.eq_iff_iff]
 by_cases hn:n=0 <;> simp [simpleB,fitsB,sameB,hn] <;> omega
theorem simple_eq_4 (tx ty x y n:Int) (nt ne:Nat) (h1:0≤tx) (h2:tx≤4) (h3:0≤ty) (h4:ty≤4):(decide (nt=0∧ne=0) && simpleB 4 tx ty x y n)=(fitsB 4 tx ty x y n && sameB 4 4 x x y y n 0 nt 0 ne 0):=by
 rw [Bool.eq_iff_iff]
 by_cases hn:n=0 <;> simp [simpleB,fitsB,sameB,hn] <;> omega
theorem simple_eq_5 (tx ty x y n:Int) (nt ne:Nat) (h1:0≤tx) (h2:tx≤4) (h3:0≤ty) (h4:ty≤4):(decide (nt=0∧ne=0) && simpleB 5 tx ty x y n)=(fitsB 5 tx ty x y n && sameB 5 5 x x y y n 0 nt 0 ne 0):=by
 rw [Bool.eq_iff_iff]
 by_cases hn:n=0 <;> simp [simpleB,fitsB,sameB,hn] <;> omega
theorem simple_eq_6 (tx ty x y n:Int) (nt ne:Nat) (h1:0≤tx) (h2:tx≤4) (h3:0≤ty) (h4:ty≤4):(decide (nt=0∧ne=0) && simpleB 6 tx ty x y n)=(fitsB 6 tx ty x y n && sameB 6 6 x x y y n 0 nt 0 ne 0):=by
 rw [Bool.eq_iff_iff]
 by_cases hn:n=0 <;> simp [simpleB,fitsB,sameB,hn] <;> omega
theorem simple_eq_7 (tx ty x y n:Int) (nt ne:Nat) (h1:0≤tx) (h2:tx≤4) (h3:0≤ty) (h4:ty≤4):(decide (nt=0∧ne=0) && simpleB 7 tx ty x y n)=(fitsB 7 tx ty x y n && sameB 7 7 x x y y n 0 nt 0 ne 0):=by
 rw [Bool.eq_iff_iff]
 by_cases hn:n=0 <;> simp [simpleB,fitsB,sameB,hn] <;> omega
theorem simple_eq_8 (tx ty x y n:Int) (nt ne:Nat) (h1:0≤tx) (h2:tx≤4) (h3:0≤ty) (h4:ty≤4):(decide (nt=0∧ne=0) && simpleB 8 tx ty x y n)=(fitsB 8 tx ty x y n && sameB 8 8 x x y 0 n 0 nt 0 ne 0):=by
 rw [Bool.eq_iff_iff]
 by_cases hn:n=0 <;> simp [simpleB,fitsB,sameB,hn] <;> omega
theorem stmt_op_1 (ts:List Int) (A:Option Addr) (c C:Nat) (x y n m d:Int) (t e:Sts) (At Ae:Option Addr) (ct ce:Nat) (w:World) (hty:typesB ts=true) (hT:IntsV w 0 C ts A c) (hC:w.heap[C]?=some (.cells #[.slice A ts.length c,.int .i64 m] 180 (0,0))) (hm:0≤m) (hm30:m<30) :
  Calls Tryz.prog 123 #[.pointer (some ⟨C,0,none⟩),.agg #[.int .i64 1,.int .i64 x,.int .i64 y,.int .i64 n,.slice At t.len ct,.slice Ae e.len ce],.int .i64 d] w (ListPost C (.slice A ts.length c) w m (stmtB ts (4-d) 1 x y n t e) (1+t.size+e.size)):=by
 have hx:=tyAt_bound hty x
 have hy:=tyAt_bound hty y
 have heq:stmtB ts (4-d) 1 x y n t e=(fitsB 1 (tyAt ts x) (tyAt ts y) x y n && sameB 1 1 x x y 0 n n t.len 0 e.len 0):=by
  rw [← simple_eq_1 (tyAt ts x) (tyAt ts y) x y n t.len e.len hx.1 hx.2 hy.1 hy.2]
  simp [stmtB]
 by_cases hf:fitsB 1 (tyAt ts x) (tyAt ts y) x y n=true
 ·by_cases hs:sameB 1 1 x x y 0 n n t.len 0 e.len 0=true
  ·refine (sv_1_true ts A c C x y n m d _ _ At Ae _ ct _ ce w hT hC rfl rfl hm hm30 hf hs).mono ?_
   rintro E w' ⟨rfl,hk⟩
   have hl:t.len=0∧e.len=0:=by
    simp only [sameB,decide_eq_true_eq] at hs
    exact ⟨hs.2.2.2.2.1,hs.2.2.2.2.2⟩
   have h1:=size_of_len hl.1
   have h2:=size_of_len hl.2
   refine ⟨m+1,ret_bool ?_,hk,fun _ _=>by rw [h1,h2];simp⟩
   rw [heq,hf,hs,h1,h2]
   simp
   omega
  ·have hs':sameB 1 1 x x y 0 n n t.len 0 e.len 0=false:=by simpa using hs
   refine (sv_1_same ts A c C x y n m d _ _ At Ae _ ct _ ce w hT hC rfl rfl hm hm30 hf hs').mono ?_
   rintro E w' ⟨rfl,hk⟩
   have h0:stmtB ts (4-d) 1 x y n t e=false:=by rw [heq,hf,hs'];rfl
   rw [h0]
   exact ⟨m+1,rfl,hk,fun h=>by cases h⟩
 ·have hf':fitsB 1 (tyAt ts x) (tyAt ts y) x y n=false:=by simpa using hf
  refine (sv_1_fit ts A c C x y n m d _ _ At Ae _ ct _ ce w hT hC rfl rfl hm hm30 hf').mono ?_
  rintro E w' ⟨rfl,hk⟩
  have h0:stmtB ts (4-d) 1 x y n t e=false:=by rw [heq,hf'];rfl
  rw [h0]
  exact ⟨m+1,rfl,hk,fun h=>by cases h⟩
theorem stmt_op_2 (ts:List Int) (A:Option Addr) (c C:Nat) (x y n m d:Int) (t e:Sts) (At Ae:Option Addr) (ct ce:Nat) (w:World) (hty:typesB ts=true) (hT:IntsV w 0 C ts A c) (hC:w.heap[C]?=some (.cells #[.slice A ts.length c,.int .i64 m] 180 (0,0))) (hm:0≤m) (hm30:m<30) :
  Calls Tryz.prog 123 #[.pointer (some ⟨C,0,none⟩),.agg #[.int .i64 2,.int .i64 x,.int .i64 y,.int .i64 n,.slice At t.len ct,.slice Ae e.len ce],.int .i64 d] w (ListPost C (.slice A ts.length c) w m (stmtB ts (4-d) 2 x y n t e) (1+t.size+e.size)):=by
 have hx:=tyAt_bound hty x
 have hy:=tyAt_bound hty y
 have heq:stmtB ts (4-d) 2 x y n t e=(fitsB 2 (tyAt ts x) (tyAt ts y) x y n && sameB 2 2 x x y 0 n n t.len 0 e.len 0):=by
  rw [← simple_eq_2 (tyAt ts x) (tyAt ts y) x y n t.len e.len hx.1 hx.2 hy.1 hy.2]
  simp [stmtB]
 by_cases hf:fitsB 2 (tyAt ts x) (tyAt ts y) x y n=true
 ·by_cases hs:sameB 2 2 x x y 0 n n t.len 0 e.len 0=true
  ·refine (sv_2_true ts A c C x y n m d _ _ At Ae _ ct _ ce w hT hC rfl rfl hm hm30 hf hs).mono ?_
   rintro E w' ⟨rfl,hk⟩
   have hl:t.len=0∧e.len=0:=by
    simp only [sameB,decide_eq_true_eq] at hs
    exact ⟨hs.2.2.2.2.1,hs.2.2.2.2.2⟩
   have h1:=size_of_len hl.1
   have h2:=size_of_len hl.2
   refine ⟨m+1,ret_bool ?_,hk,fun _ _=>by rw [h1,h2];simp⟩
   rw [heq,hf,hs,h1,h2]
   simp
   omega
  ·have hs':sameB 2 2 x x y 0 n n t.len 0 e.len 0=false:=by simpa using hs
   refine (sv_2_same ts A c C x y n m d _ _ At Ae _ ct _ ce w hT hC rfl rfl hm hm30 hf hs').mono ?_
   rintro E w' ⟨rfl,hk⟩
   have h0:stmtB ts (4-d) 2 x y n t e=false:=by rw [heq,hf,hs'];rfl
   rw [h0]
   exact ⟨m+1,rfl,hk,fun h=>by cases h⟩
 ·have hf':fitsB 2 (tyAt ts x) (tyAt ts y) x y n=false:=by simpa using hf
  refine (sv_2_fit ts A c C x y n m d _ _ At Ae _ ct _ ce w hT hC rfl rfl hm hm30 hf').mono ?_
  rintro E w' ⟨rfl,hk⟩
  have h0:stmtB ts (4-d) 2 x y n t e=false:=by rw [heq,hf'];rfl
  rw [h0]
  exact ⟨m+1,rfl,hk,fun h=>by cases h⟩
theorem stmt_op_3 (ts:List Int) (A:Option Addr) (c C:Nat) (x y n m d:Int) (t e:Sts) (At Ae:Option Addr) (ct ce:Nat) (w:World) (hty:typesB ts=true) (hT:IntsV w 0 C ts A c) (hC:w.heap[C]?=some (.cells #[.slice A ts.length c,.int .i64 m] 180 (0,0))) (hm:0≤m) (hm30:m<30) :
  Calls Tryz.prog 123 #[.pointer (some ⟨C,0,none⟩),.agg #[.int .i64 3,.int .i64 x,.int .i64 y,.int .i64 n,.slice At t.len ct,.slice Ae e.len ce],.int .i64 d] w (ListPost C (.slice A ts.length c) w m (stmtB ts (4-d) 3 x y n t e) (1+t.size+e.size)):=by
 have hx:=tyAt_bound hty x
 have hy:=tyAt_bound hty y
 have heq:stmtB ts (4-d) 3 x y n t e=(fitsB 3 (tyAt ts x) (tyAt ts y) x y n && sameB 3 3 x x y y n 0 t.len 0 e.len 0):=by
  rw [← simple_eq_3 (tyAt ts x) (tyAt ts y) x y n t.len e.len hx.1 hx.2 hy.1 hy.2]
  simp [stmtB]
 by_cases hf:fitsB 3 (tyAt ts x) (tyAt ts y) x y n=true
 ·by_cases hs:sameB 3 3 x x y y n 0 t.len 0 e.len 0=true
  ·refine (sv_3_true ts A c C x y n m d _ _ At Ae _ ct _ ce w hT hC rfl rfl hm hm30 hf hs).mono ?_
   rintro E w' ⟨rfl,hk⟩
   have hl:t.len=0∧e.len=0:=by
    simp only [sameB,decide_eq_true_eq] at hs
    exact ⟨hs.2.2.2.2.1,hs.2.2.2.2.2⟩
   have h1:=size_of_len hl.1
   have h2:=size_of_len hl.2
   refine ⟨m+1,ret_bool ?_,hk,fun _ _=>by rw [h1,h2];simp⟩
   rw [heq,hf,hs,h1,h2]
   simp
   omega
  ·have hs':sameB 3 3 x x y y n 0 t.len 0 e.len 0=false:=by simpa using hs
   refine (sv_3_same ts A c C x y n m d _ _ At Ae _ ct _ ce w hT hC rfl rfl hm hm30 hf hs').mono ?_
   rintro E w' ⟨rfl,hk⟩
   have h0:stmtB ts (4-d) 3 x y n t e=false:=by rw [heq,hf,hs'];rfl
   rw [h0]
   exact ⟨m+1,rfl,hk,fun h=>by cases h⟩
 ·have hf':fitsB 3 (tyAt ts x) (tyAt ts y) x y n=false:=by simpa using hf
  refine (sv_3_fit ts A c C x y n m d _ _ At Ae _ ct _ ce w hT hC rfl rfl hm hm30 hf').mono ?_
  rintro E w' ⟨rfl,hk⟩
  have h0:stmtB ts (4-d) 3 x y n t e=false:=by rw [heq,hf'];rfl
  rw [h0]
  exact ⟨m+1,rfl,hk,fun h=>by cases h⟩
theorem stmt_op_4 (ts:List Int) (A:Option Addr) (c C:Nat) (x y n m d:Int) (t e:Sts) (At Ae:Option Addr) (ct ce:Nat) (w:World) (hty:typesB ts=true) (hT:IntsV w 0 C ts A c) (hC:w.heap[C]?=some (.cells #[.slice A ts.length c,.int .i64 m] 180 (0,0))) (hm:0≤m) (hm30:m<30) :
  Calls Tryz.prog 123 #[.pointer (some ⟨C,0,none⟩),.agg #[.int .i64 4,.int .i64 x,.int .i64 y,.int .i64 n,.slice At t.len ct,.slice Ae e.len ce],.int .i64 d] w (ListPost C (.slice A ts.length c) w m (stmtB ts (4-d) 4 x y n t e) (1+t.size+e.size)):=by
 have hx:=tyAt_bound hty x
 have hy:=tyAt_bound hty y
 have heq:stmtB ts (4-d) 4 x y n t e=(fitsB 4 (tyAt ts x) (tyAt ts y) x y n && sameB 4 4 x x y y n 0 t.len 0 e.len 0):=by
  rw [← simple_eq_4 (tyAt ts x) (tyAt ts y) x y n t.len e.len hx.1 hx.2 hy.1 hy.2]
  simp [stmtB]
 by_cases hf:fitsB 4 (tyAt ts x) (tyAt ts y) x y n=true
 ·by_cases hs:sameB 4 4 x x y y n 0 t.len 0 e.len 0=true
  ·refine (sv_4_true ts A c C x y n m d _ _ At Ae _ ct _ ce w hT hC rfl rfl hm hm30 hf hs).mono ?_
   rintro E w' ⟨rfl,hk⟩
   have hl:t.len=0∧e.len=0:=by
    simp only [sameB,decide_eq_true_eq] at hs
    exact ⟨hs.2.2.2.2.1,hs.2.2.2.2.2⟩
   have h1:=size_of_len hl.1
   have h2:=size_of_len hl.2
   refine ⟨m+1,ret_bool ?_,hk,fun _ _=>by rw [h1,h2];simp⟩
   rw [heq,hf,hs,h1,h2]
   simp
   omega
  ·have hs':sameB 4 4 x x y y n 0 t.len 0 e.len 0=false:=by simpa using hs
   refine (sv_4_same ts A c C x y n m d _ _ At Ae _ ct _ ce w hT hC rfl rfl hm hm30 hf hs').mono ?_
   rintro E w' ⟨rfl,hk⟩
   have h0:stmtB ts (4-d) 4 x y n t e=false:=by rw [heq,hf,hs'];rfl
   rw [h0]
   exact ⟨m+1,rfl,hk,fun h=>by cases h⟩
 ·have hf':fitsB 4 (tyAt ts x) (tyAt ts y) x y n=false:=by simpa using hf
  refine (sv_4_fit ts A c C x y n m d _ _ At Ae _ ct _ ce w hT hC rfl rfl hm hm30 hf').mono ?_
  rintro E w' ⟨rfl,hk⟩
  have h0:stmtB ts (4-d) 4 x y n t e=false:=by rw [heq,hf'];rfl
  rw [h0]
  exact ⟨m+1,rfl,hk,fun h=>by cases h⟩
theorem stmt_op_5 (ts:List Int) (A:Option Addr) (c C:Nat) (x y n m d:Int) (t e:Sts) (At Ae:Option Addr) (ct ce:Nat) (w:World) (hty:typesB ts=true) (hT:IntsV w 0 C ts A c) (hC:w.heap[C]?=some (.cells #[.slice A ts.length c,.int .i64 m] 180 (0,0))) (hm:0≤m) (hm30:m<30) :
  Calls Tryz.prog 123 #[.pointer (some ⟨C,0,none⟩),.agg #[.int .i64 5,.int .i64 x,.int .i64 y,.int .i64 n,.slice At t.len ct,.slice Ae e.len ce],.int .i64 d] w (ListPost C (.slice A ts.length c) w m (stmtB ts (4-d) 5 x y n t e) (1+t.size+e.size)):=by
 have hx:=tyAt_bound hty x
 have hy:=tyAt_bound hty y
 have heq:stmtB ts (4-d) 5 x y n t e=(fitsB 5 (tyAt ts x) (tyAt ts y) x y n && sameB 5 5 x x y y n 0 t.len 0 e.len 0):=by
  rw [← simple_eq_5 (tyAt ts x) (tyAt ts y) x y n t.len e.len hx.1 hx.2 hy.1 hy.2]
  simp [stmtB]
 by_cases hf:fitsB 5 (tyAt ts x) (tyAt ts y) x y n=true
 ·by_cases hs:sameB 5 5 x x y y n 0 t.len 0 e.len 0=true
  ·refine (sv_5_true ts A c C x y n m d _ _ At Ae _ ct _ ce w hT hC rfl rfl hm hm30 hf hs).mono ?_
   rintro E w' ⟨rfl,hk⟩
   have hl:t.len=0∧e.len=0:=by
    simp only [sameB,decide_eq_true_eq] at hs
    exact ⟨hs.2.2.2.2.1,hs.2.2.2.2.2⟩
   have h1:=size_of_len hl.1
   have h2:=size_of_len hl.2
   refine ⟨m+1,ret_bool ?_,hk,fun _ _=>by rw [h1,h2];simp⟩
   rw [heq,hf,hs,h1,h2]
   simp
   omega
  ·have hs':sameB 5 5 x x y y n 0 t.len 0 e.len 0=false:=by simpa using hs
   refine (sv_5_same ts A c C x y n m d _ _ At Ae _ ct _ ce w hT hC rfl rfl hm hm30 hf hs').mono ?_
   rintro E w' ⟨rfl,hk⟩
   have h0:stmtB ts (4-d) 5 x y n t e=false:=by rw [heq,hf,hs'];rfl
   rw [h0]
   exact ⟨m+1,rfl,hk,fun h=>by cases h⟩
 ·have hf':fitsB 5 (tyAt ts x) (tyAt ts y) x y n=false:=by simpa using hf
  refine (sv_5_fit ts A c C x y n m d _ _ At Ae _ ct _ ce w hT hC rfl rfl hm hm30 hf').mono ?_
  rintro E w' ⟨rfl,hk⟩
  have h0:stmtB ts (4-d) 5 x y n t e=false:=by rw [heq,hf'];rfl
  rw [h0]
  exact ⟨m+1,rfl,hk,fun h=>by cases h⟩
theorem stmt_op_6 (ts:List Int) (A:Option Addr) (c C:Nat) (x y n m d:Int) (t e:Sts) (At Ae:Option Addr) (ct ce:Nat) (w:World) (hty:typesB ts=true) (hT:IntsV w 0 C ts A c) (hC:w.heap[C]?=some (.cells #[.slice A ts.length c,.int .i64 m] 180 (0,0))) (hm:0≤m) (hm30:m<30) :
  Calls Tryz.prog 123 #[.pointer (some ⟨C,0,none⟩),.agg #[.int .i64 6,.int .i64 x,.int .i64 y,.int .i64 n,.slice At t.len ct,.slice Ae e.len ce],.int .i64 d] w (ListPost C (.slice A ts.length c) w m (stmtB ts (4-d) 6 x y n t e) (1+t.size+e.size)):=by
 have hx:=tyAt_bound hty x
 have hy:=tyAt_bound hty y
 have heq:stmtB ts (4-d) 6 x y n t e=(fitsB 6 (tyAt ts x) (tyAt ts y) x y n && sameB 6 6 x x y y n 0 t.len 0 e.len 0):=by
  rw [← simple_eq_6 (tyAt ts x) (tyAt ts y) x y n t.len e.len hx.1 hx.2 hy.1 hy.2]
  simp [stmtB]
 by_cases hf:fitsB 6 (tyAt ts x) (tyAt ts y) x y n=true
 ·by_cases hs:sameB 6 6 x x y y n 0 t.len 0 e.len 0=true
  ·refine (sv_6_true ts A c C x y n m d _ _ At Ae _ ct _ ce w hT hC rfl rfl hm hm30 hf hs).mono ?_
   rintro E w' ⟨rfl,hk⟩
   have hl:t.len=0∧e.len=0:=by
    simp only [sameB,decide_eq_true_eq] at hs
    exact ⟨hs.2.2.2.2.1,hs.2.2.2.2.2⟩
   have h1:=size_of_len hl.1
   have h2:=size_of_len hl.2
   refine ⟨m+1,ret_bool ?_,hk,fun _ _=>by rw [h1,h2];simp⟩
   rw [heq,hf,hs,h1,h2]
   simp
   omega
  ·have hs':sameB 6 6 x x y y n 0 t.len 0 e.len 0=false:=by simpa using hs
   refine (sv_6_same ts A c C x y n m d _ _ At Ae _ ct _ ce w hT hC rfl rfl hm hm30 hf hs').mono ?_
   rintro E w' ⟨rfl,hk⟩
   have h0:stmtB ts (4-d) 6 x y n t e=false:=by rw [heq,hf,hs'];rfl
   rw [h0]
   exact ⟨m+1,rfl,hk,fun h=>by cases h⟩
 ·have hf':fitsB 6 (tyAt ts x) (tyAt ts y) x y n=false:=by simpa using hf
  refine (sv_6_fit ts A c C x y n m d _ _ At Ae _ ct _ ce w hT hC rfl rfl hm hm30 hf').mono ?_
  rintro E w' ⟨rfl,hk⟩
  have h0:stmtB ts (4-d) 6 x y n t e=false:=by rw [heq,hf'];rfl
  rw [h0]
  exact ⟨m+1,rfl,hk,fun h=>by cases h⟩
theorem stmt_op_7 (ts:List Int) (A:Option Addr) (c C:Nat) (x y n m d:Int) (t e:Sts) (At Ae:Option Addr) (ct ce:Nat) (w:World) (hty:typesB ts=true) (hT:IntsV w 0 C ts A c) (hC:w.heap[C]?=some (.cells #[.slice A ts.length c,.int .i64 m] 180 (0,0))) (hm:0≤m) (hm30:m<30) :
  Calls Tryz.prog 123 #[.pointer (some ⟨C,0,none⟩),.agg #[.int .i64 7,.int .i64 x,.int .i64 y,.int .i64 n,.slice At t.len ct,.slice Ae e.len ce],.int .i64 d] w (ListPost C (.slice A ts.length c) w m (stmtB ts (4-d) 7 x y n t e) (1+t.size+e.size)):=by
 have hx:=tyAt_bound hty x
 have hy:=tyAt_bound hty y
 have heq:stmtB ts (4-d) 7 x y n t e=(fitsB 7 (tyAt ts x) (tyAt ts y) x y n && sameB 7 7 x x y y n 0 t.len 0 e.len 0):=by
  rw [← simple_eq_7 (tyAt ts x) (tyAt ts y) x y n t.len e.len hx.1 hx.2 hy.1 hy.2]
  simp [stmtB]
 by_cases hf:fitsB 7 (tyAt ts x) (tyAt ts y) x y n=true
 ·by_cases hs:sameB 7 7 x x y y n 0 t.len 0 e.len 0=true
  ·refine (sv_7_true ts A c C x y n m d _ _ At Ae _ ct _ ce w hT hC rfl rfl hm hm30 hf hs).mono ?_
   rintro E w' ⟨rfl,hk⟩
   have hl:t.len=0∧e.len=0:=by
    simp only [sameB,decide_eq_true_eq] at hs
    exact ⟨hs.2.2.2.2.1,hs.2.2.2.2.2⟩
   have h1:=size_of_len hl.1
   have h2:=size_of_len hl.2
   refine ⟨m+1,ret_bool ?_,hk,fun _ _=>by rw [h1,h2];simp⟩
   rw [heq,hf,hs,h1,h2]
   simp
   omega
  ·have hs':sameB 7 7 x x y y n 0 t.len 0 e.len 0=false:=by simpa using hs
   refine (sv_7_same ts A c C x y n m d _ _ At Ae _ ct _ ce w hT hC rfl rfl hm hm30 hf hs').mono ?_
   rintro E w' ⟨rfl,hk⟩
   have h0:stmtB ts (4-d) 7 x y n t e=false:=by rw [heq,hf,hs'];rfl
   rw [h0]
   exact ⟨m+1,rfl,hk,fun h=>by cases h⟩
 ·have hf':fitsB 7 (tyAt ts x) (tyAt ts y) x y n=false:=by simpa using hf
  refine (sv_7_fit ts A c C x y n m d _ _ At Ae _ ct _ ce w hT hC rfl rfl hm hm30 hf').mono ?_
  rintro E w' ⟨rfl,hk⟩
  have h0:stmtB ts (4-d) 7 x y n t e=false:=by rw [heq,hf'];rfl
  rw [h0]
  exact ⟨m+1,rfl,hk,fun h=>by cases h⟩
theorem stmt_op_8 (ts:List Int) (A:Option Addr) (c C:Nat) (x y n m d:Int) (t e:Sts) (At Ae:Option Addr) (ct ce:Nat) (w:World) (hty:typesB ts=true) (hT:IntsV w 0 C ts A c) (hC:w.heap[C]?=some (.cells #[.slice A ts.length c,.int .i64 m] 180 (0,0))) (hm:0≤m) (hm30:m<30) :
  Calls Tryz.prog 123 #[.pointer (some ⟨C,0,none⟩),.agg #[.int .i64 8,.int .i64 x,.int .i64 y,.int .i64 n,.slice At t.len ct,.slice Ae e.len ce],.int .i64 d] w (ListPost C (.slice A ts.length c) w m (stmtB ts (4-d) 8 x y n t e) (1+t.size+e.size)):=by
 have hx:=tyAt_bound hty x
 have hy:=tyAt_bound hty y
 have heq:stmtB ts (4-d) 8 x y n t e=(fitsB 8 (tyAt ts x) (tyAt ts y) x y n && sameB 8 8 x x y 0 n 0 t.len 0 e.len 0):=by
  rw [← simple_eq_8 (tyAt ts x) (tyAt ts y) x y n t.len e.len hx.1 hx.2 hy.1 hy.2]
  simp [stmtB]
 by_cases hf:fitsB 8 (tyAt ts x) (tyAt ts y) x y n=true
 ·by_cases hs:sameB 8 8 x x y 0 n 0 t.len 0 e.len 0=true
  ·refine (sv_8_true ts A c C x y n m d _ _ At Ae _ ct _ ce w hT hC rfl rfl hm hm30 hf hs).mono ?_
   rintro E w' ⟨rfl,hk⟩
   have hl:t.len=0∧e.len=0:=by
    simp only [sameB,decide_eq_true_eq] at hs
    exact ⟨hs.2.2.2.2.1,hs.2.2.2.2.2⟩
   have h1:=size_of_len hl.1
   have h2:=size_of_len hl.2
   refine ⟨m+1,ret_bool ?_,hk,fun _ _=>by rw [h1,h2];simp⟩
   rw [heq,hf,hs,h1,h2]
   simp
   omega
  ·have hs':sameB 8 8 x x y 0 n 0 t.len 0 e.len 0=false:=by simpa using hs
   refine (sv_8_same ts A c C x y n m d _ _ At Ae _ ct _ ce w hT hC rfl rfl hm hm30 hf hs').mono ?_
   rintro E w' ⟨rfl,hk⟩
   have h0:stmtB ts (4-d) 8 x y n t e=false:=by rw [heq,hf,hs'];rfl
   rw [h0]
   exact ⟨m+1,rfl,hk,fun h=>by cases h⟩
 ·have hf':fitsB 8 (tyAt ts x) (tyAt ts y) x y n=false:=by simpa using hf
  refine (sv_8_fit ts A c C x y n m d _ _ At Ae _ ct _ ce w hT hC rfl rfl hm hm30 hf').mono ?_
  rintro E w' ⟨rfl,hk⟩
  have h0:stmtB ts (4-d) 8 x y n t e=false:=by rw [heq,hf'];rfl
  rw [h0]
  exact ⟨m+1,rfl,hk,fun h=>by cases h⟩
theorem stmt_op_9 (ts:List Int) (A:Option Addr) (c C:Nat) (x y n m d:Int) (t e:Sts) (At Ae:Option Addr) (ct ce:Nat) (w:World) (hty:typesB ts=true) (hT:IntsV w 0 C ts A c) (hC:w.heap[C]?=some (.cells #[.slice A ts.length c,.int .i64 m] 180 (0,0))) (hm:0≤m) (hm30:m<30) (hd0:0≤d) (hd4:d≤4)
  (HT:∀ (w':World) (m':Int),Chk C (.slice A ts.length c) w w' m'→0≤m'→m'≤30→d<4→Calls Tryz.prog 102 #[.pointer (some ⟨C,0,none⟩),.slice At t.len ct,.int .i64 (d+1)] w' (ListPost C (.slice A ts.length c) w' m' (bodyB ts (4-(d+1)) t) t.size))
  (HE:∀ (w':World) (m':Int),Chk C (.slice A ts.length c) w w' m'→0≤m'→m'≤30→d<4→Calls Tryz.prog 102 #[.pointer (some ⟨C,0,none⟩),.slice Ae e.len ce,.int .i64 (d+1)] w' (ListPost C (.slice A ts.length c) w' m' (bodyB ts (4-(d+1)) e) e.size)) :
  Calls Tryz.prog 123 #[.pointer (some ⟨C,0,none⟩),.agg #[.int .i64 9,.int .i64 x,.int .i64 y,.int .i64 n,.slice At t.len ct,.slice Ae e.len ce],.int .i64 d] w (ListPost C (.slice A ts.length c) w m (stmtB ts (4-d) 9 x y n t e) (1+t.size+e.size)):=by
 by_cases hs:sameB 9 9 x 0 y 0 n 0 t.len t.len e.len e.len=true
 ·refine (sv_9_true ts A c C x y n m d _ _ At Ae _ ct _ ce w hT hC rfl rfl hm hm30 hs hd0 hd4 _ _ _ _ (heap_lt hC) HT HE).mono ?_
  rintro E w' ⟨m',rfl,hk,hm'⟩
  have heq:stmtB ts (4-d) 9 x y n t e=(decide (d<4) && (bodyB ts (4-(d+1)) t && bodyB ts (4-(d+1)) e)):=by
   simp only [sameB,decide_eq_true_eq] at hs
   have e1:4-d-1=4-(d+1):=by omega
   obtain ⟨_,hx0,hy0,hn0,_,_⟩:=hs
   unfold stmtB
   rw [if_neg (by omega),e1]
   congr 1
   rw [decide_eq_decide]
   exact ⟨fun h=>by omega,fun h=>⟨by omega,hx0,hy0,hn0,fun h10=>absurd h10 (by omega)⟩⟩
  rw [← heq] at hm' ⊢
  exact ⟨m',rfl,hk,hm'⟩
 ·have hs':sameB 9 9 x 0 y 0 n 0 t.len t.len e.len e.len=false:=by simpa using hs
  refine (sv_9_same ts A c C x y n m d _ _ At Ae _ ct _ ce w hT hC rfl rfl hm hm30 hs').mono ?_
  rintro E w' ⟨rfl,hk⟩
  have h0:stmtB ts (4-d) 9 x y n t e=false:=by
   simp only [sameB,decide_eq_false_iff_not] at hs'
   simp only [stmtB]
   rw [if_neg (by omega)]
   rw [Bool.and_eq_false_iff]
   left
   simp only [decide_eq_false_iff_not]
   intro h
   exact hs' ⟨trivial,h.2.1,h.2.2.1,h.2.2.2.1,trivial,trivial⟩
  rw [h0]
  exact ⟨m+1,rfl,hk,fun h=>by cases h⟩
theorem stmt_op_10 (ts:List Int) (A:Option Addr) (c C:Nat) (x y n m d:Int) (t e:Sts) (At Ae:Option Addr) (ct ce:Nat) (w:World) (hty:typesB ts=true) (hT:IntsV w 0 C ts A c) (hC:w.heap[C]?=some (.cells #[.slice A ts.length c,.int .i64 m] 180 (0,0))) (hm:0≤m) (hm30:m<30) (hd0:0≤d) (hd4:d≤4)
  (HT:∀ (w':World) (m':Int),Chk C (.slice A ts.length c) w w' m'→0≤m'→m'≤30→d<4→Calls Tryz.prog 102 #[.pointer (some ⟨C,0,none⟩),.slice At t.len ct,.int .i64 (d+1)] w' (ListPost C (.slice A ts.length c) w' m' (bodyB ts (4-(d+1)) t) t.size))
  (HE:∀ (w':World) (m':Int),Chk C (.slice A ts.length c) w w' m'→0≤m'→m'≤30→d<4→Calls Tryz.prog 102 #[.pointer (some ⟨C,0,none⟩),.slice Ae e.len ce,.int .i64 (d+1)] w' (ListPost C (.slice A ts.length c) w' m' (bodyB ts (4-(d+1)) e) e.size)) :
  Calls Tryz.prog 123 #[.pointer (some ⟨C,0,none⟩),.agg #[.int .i64 10,.int .i64 x,.int .i64 y,.int .i64 n,.slice At t.len ct,.slice Ae e.len ce],.int .i64 d] w (ListPost C (.slice A ts.length c) w m (stmtB ts (4-d) 10 x y n t e) (1+t.size+e.size)):=by
 by_cases hs:sameB 10 10 x 0 y 0 n 0 t.len t.len e.len 0=true
 ·refine (sv_10_true ts A c C x y n m d _ _ At Ae _ ct _ ce w hT hC rfl rfl hm hm30 hs hd0 hd4 _ _ _ _ (heap_lt hC) HT HE).mono ?_
  rintro E w' ⟨m',rfl,hk,hm'⟩
  have heq:stmtB ts (4-d) 10 x y n t e=(decide (d<4) && (bodyB ts (4-(d+1)) t && bodyB ts (4-(d+1)) e)):=by
   simp only [sameB,decide_eq_true_eq] at hs
   have e1:4-d-1=4-(d+1):=by omega
   obtain ⟨_,hx0,hy0,hn0,_,he0⟩:=hs
   unfold stmtB
   rw [if_neg (by omega),e1]
   congr 1
   rw [decide_eq_decide]
   exact ⟨fun h=>by omega,fun h=>⟨by omega,hx0,hy0,hn0,fun _=>he0⟩⟩
  rw [← heq] at hm' ⊢
  exact ⟨m',rfl,hk,hm'⟩
 ·have hs':sameB 10 10 x 0 y 0 n 0 t.len t.len e.len 0=false:=by simpa using hs
  refine (sv_10_same ts A c C x y n m d _ _ At Ae _ ct _ ce w hT hC rfl rfl hm hm30 hs').mono ?_
  rintro E w' ⟨rfl,hk⟩
  have h0:stmtB ts (4-d) 10 x y n t e=false:=by
   simp only [sameB,decide_eq_false_iff_not] at hs'
   simp only [stmtB]
   rw [if_neg (by omega)]
   rw [Bool.and_eq_false_iff]
   left
   simp only [decide_eq_false_iff_not]
   intro h
   exact hs' ⟨trivial,h.2.1,h.2.2.1,h.2.2.2.1,trivial,h.2.2.2.2 trivial⟩
  rw [h0]
  exact ⟨m+1,rfl,hk,fun h=>by cases h⟩
theorem stmtValid_any (ts:List Int) (A:Option Addr) (c C:Nat) (op x y n m d:Int) (t e:Sts) (At Ae:Option Addr) (ct ce:Nat) (w:World) (hty:typesB ts=true) (hT:IntsV w 0 C ts A c) (hC:w.heap[C]?=some (.cells #[.slice A ts.length c,.int .i64 m] 180 (0,0))) (hm:0≤m) (hm30:m≤30) (hd0:0≤d) (hd4:d≤4)
  (HT:∀ (w':World) (m':Int),Chk C (.slice A ts.length c) w w' m'→0≤m'→m'≤30→d<4→Calls Tryz.prog 102 #[.pointer (some ⟨C,0,none⟩),.slice At t.len ct,.int .i64 (d+1)] w' (ListPost C (.slice A ts.length c) w' m' (bodyB ts (4-(d+1)) t) t.size))
  (HE:∀ (w':World) (m':Int),Chk C (.slice A ts.length c) w w' m'→0≤m'→m'≤30→d<4→Calls Tryz.prog 102 #[.pointer (some ⟨C,0,none⟩),.slice Ae e.len ce,.int .i64 (d+1)] w' (ListPost C (.slice A ts.length c) w' m' (bodyB ts (4-(d+1)) e) e.size)) :
  Calls Tryz.prog 123 #[.pointer (some ⟨C,0,none⟩),.agg #[.int .i64 op,.int .i64 x,.int .i64 y,.int .i64 n,.slice At t.len ct,.slice Ae e.len ce],.int .i64 d] w (ListPost C (.slice A ts.length c) w m (stmtB ts (4-d) op x y n t e) (1+t.size+e.size)):=by
 by_cases h30:m=30
 ·subst h30
  refine (sv_full A c C ts.length op x y n d At Ae _ ct _ ce w hC).mono ?_
  rintro E w' ⟨rfl,hk⟩
  refine ⟨31,ret_bool ?_,hk,fun _ h=>by omega⟩
  have:decide ((30:Int)+(1+t.size+e.size:Nat)≤30)=false:=by simp;omega
  rw [this,Bool.and_false]
 have hlt30:m<30:=by omega
 by_cases h1:op=1
 ·subst h1;exact stmt_op_1 ts A c C x y n m d t e At Ae ct ce w hty hT hC hm hlt30
 by_cases h2:op=2
 ·subst h2;exact stmt_op_2 ts A c C x y n m d t e At Ae ct ce w hty hT hC hm hlt30
 by_cases h3:op=3
 ·subst h3;exact stmt_op_3 ts A c C x y n m d t e At Ae ct ce w hty hT hC hm hlt30
 by_cases h4:op=4
 ·subst h4;exact stmt_op_4 ts A c C x y n m d t e At Ae ct ce w hty hT hC hm hlt30
 by_cases h5:op=5
 ·subst h5;exact stmt_op_5 ts A c C x y n m d t e At Ae ct ce w hty hT hC hm hlt30
 by_cases h6:op=6
 ·subst h6;exact stmt_op_6 ts A c C x y n m d t e At Ae ct ce w hty hT hC hm hlt30
 by_cases h7:op=7
 ·subst h7;exact stmt_op_7 ts A c C x y n m d t e At Ae ct ce w hty hT hC hm hlt30
 by_cases h8:op=8
 ·subst h8;exact stmt_op_8 ts A c C x y n m d t e At Ae ct ce w hty hT hC hm hlt30
 by_cases h9:op=9
 ·subst h9;exact stmt_op_9 ts A c C x y n m d t e At Ae ct ce w hty hT hC hm hlt30 hd0 hd4 HT HE
 by_cases h10:op=10
 ·subst h10;exact stmt_op_10 ts A c C x y n m d t e At Ae ct ce w hty hT hC hm hlt30 hd0 hd4 HT HE
 refine (sv_0 A c C ts.length op x y n d m At Ae _ ct _ ce w hC hm hlt30 (by simpa using h1) (by simpa using h2) (by simpa using h3) (by simpa using h4) (by simpa using h5) (by simpa using h6) (by simpa using h7) (by simpa using h8) (by simpa using h9) (by simpa using h10)).mono ?_
 rintro E w' ⟨rfl,hk⟩
 have h0:stmtB ts (4-d) op x y n t e=false:=by
  have:simpleB op (tyAt ts x) (tyAt ts y) x y n=false:=by simp [simpleB,h1,h2,h3,h4,h5,h6,h7,h8]
  simp [stmtB,h9,h10,this]
 rw [h0]
 exact ⟨m+1,rfl,hk,fun h=>by cases h⟩
theorem Chk.refl {C:Nat} {vs:Value} {w:World} {m:Int} (hC:w.heap[C]?=some (.cells #[vs,.int .i64 m] 180 (0,0))):Chk C vs w w m :=
 ⟨rfl,rfl,rfl,Nat.le_refl _,fun _ _ _=>rfl,hC⟩
theorem RepV.chk {C hi hi':Nat} {vs:Value} {w w':World} {m:Int} {s:Sts} {A:Option Addr} {c:Nat} (h:RepV w 0 C s A c) (hk:Chk C vs w w' m) (hC:C≤w.heap.size) (hh:C≤hi'):RepV w' 0 hi' s A c :=
 h.keep (Nat.le_refl _) hh fun p _ hp=>hk.cellAt (by omega) (by omega)
theorem IntsV.chk {C hi':Nat} {vs:Value} {w w':World} {m:Int} {xs:List Int} {A:Option Addr} {c:Nat} (h:IntsV w 0 C xs A c) (hk:Chk C vs w w' m) (hC:C≤w.heap.size) (hh:C≤hi'):IntsV w' 0 hi' xs A c :=
 h.keep (Nat.le_refl _) hh fun p _ hp=>hk.cellAt (by omega) (by omega)
theorem listValid_any (N:Nat) (ts:List Int) (hty:typesB ts=true) (A:Option Addr) (c C:Nat):∀ (s:Sts) (As:Option Addr) (cs:Nat) (d m:Int) (w:World),s.size<N→0≤d→d≤4→0≤m→m≤30→IntsV w 0 C ts A c→RepV w 0 C s As cs →
  w.heap[C]?=some (.cells #[.slice A ts.length c,.int .i64 m] 180 (0,0)) →
  Calls Tryz.prog 102 #[.pointer (some ⟨C,0,none⟩),.slice As s.len cs,.int .i64 d] w (ListPost C (.slice A ts.length c) w m (bodyB ts (4-d) s) s.size):=by
 induction N with
 | zero=>intro s As cs d m w h;omega
 | succ N ih =>
  intro s As cs d m w hN hd0 hd4 hm hm30 hT hR hC
  have hms:=hR.2.1
  have hlc:=hR.1
  unfold maxLen at hms
  have hClt:=heap_lt hC
  have hrefl:=Chk.refl hC
  clear hC
  go_enter Tryz.func102,Tryz.ntmps102
  go_wp2_with fail
  go_loopw [11] (fun i wr=>∃ k:Nat,∃ m':Int,k≤s.len∧i=.int .i64 k∧Chk C (.slice A ts.length c) w wr m'∧0≤m'∧m'≤30∧Hid (m'+(s.drop k).size=m+s.size)∧Hid (bodyB ts (4-d) (s.drop k)=bodyB ts (4-d) s)) (fun i _=>s.len-(intOf i).toNat)
  case atStart=>exact ⟨0,m,Nat.zero_le _,rfl,hrefl,hm,hm30,rfl,rfl⟩
  case round =>
   clear hrefl
   obtain ⟨k,m',hk,rfl,hchk,hm0',hm30',hsum,hbd⟩:=hrel
   by_cases hlt:k<s.len
   ·obtain ⟨b,op,x,y,n,t,e,rfl,-,hbb,hdr,At,ct,Ae,ce,⟨h0,h1,h2,h3,h4,h5⟩,hRt,hRe⟩:=(hR.chk hchk (Nat.le_of_lt hClt) (Nat.le_refl C) (hi:=C)).elem hlt
    have hz:=RepV.drop_sizes hdr
    have hT1:=hT.chk hchk (Nat.le_of_lt hClt) (Nat.le_refl C)
    have hbc:Hid (bodyB ts (4-d) s=(stmtB ts (4-d) op x y n t e && bodyB ts (4-d) (s.drop (k+1)))):=by
     unfold Hid
     rw [← hbd.out,hdr,bodyB_cons]
    have hsz:Hid ((s.drop k).size=1+t.size+e.size+(s.drop (k+1)).size):=by
     unfold Hid
     rw [hdr]
     rfl
    clear hdr hbd
    have hcz:=hchk.size
    go_wp2_with fail
    have hka:=(Chk.refl hchk.cell).alloc (.cells #[.int .i64 op,.int .i64 x,.int .i64 y,.int .i64 n,.slice At t.len ct,.slice Ae e.len ce] 121)
    refine (stmtValid_any ts A c C op x y n m' d t e At Ae ct ce _ hty (hT1.chk hka (by omega) (Nat.le_refl C)) hka.cell hm0' hm30' hd0 hd4
     (fun w' m2 hk2 h1' h2' h3'=>ih t At ct (d+1) m2 w' (by omega) (by omega) (by omega) h1' h2' (hT1.chk (hka.trans hk2) (by omega) (Nat.le_refl C)) (hRt.chk (hka.trans hk2) (by omega) (Nat.le_refl C) (hi:=C)) hk2.cell)
     (fun w' m2 hk2 h1' h2' h3'=>ih e Ae ce (d+1) m2 w' (by omega) (by omega) (by omega) h1' h2' (hT1.chk (hka.trans hk2) (by omega) (Nat.le_refl C)) (hRe.chk (hka.trans hk2) (by omega) (Nat.le_refl C) (hi:=C)) hk2.cell)).mono ?_
    rintro E w1 ⟨m2,he,hk2,hm2⟩
    have hk3:=hchk.trans (hka.trans hk2)
    by_cases hs:(stmtB ts (4-d) op x y n t e && decide (m'+(1+t.size+e.size:Nat)≤30))=true
    ·rw [hs] at he
     subst he
     simp only [Bool.and_eq_true,decide_eq_true_eq] at hs
     have hm2':=hm2 hs.1 hs.2
     have hbe:Hid (bodyB ts (4-d) (s.drop (k+1))=bodyB ts (4-d) s):=by
      unfold Hid
      rw [hbc.out,hs.1,Bool.true_and]
     have hse:Hid (m2+(s.drop (k+1)).size=m+s.size):=by
      have a1:=hsum.out
      have a2:=hsz.out
      unfold Hid
      omega
     have hq0:0≤m2:=by omega
     have hq1:m2≤30:=by omega
     clear hs hbc hm2 hm2' hk2 hka hsum hsz
     go_wp2_with fail
     go_roundw
     case rel=>exact ⟨k+1,m2,by omega,by go_num,hk3,hq0,hq1,hse,hbe⟩
     case measure=>simp [intOf];omega
    ·have hs':(stmtB ts (4-d) op x y n t e && decide (m'+(1+t.size+e.size:Nat)≤30))=false:=by simpa using hs
     rw [hs'] at he
     subst he
     have hfin:Hid ((bodyB ts (4-d) s && decide (m+s.size≤30))=false):=by
      have a1:=hsum.out
      have a2:=hsz.out
      unfold Hid
      rw [hbc.out]
      rw [Bool.and_eq_false_iff] at hs'
      rcases hs' with h | h
      ·rw [h];simp
      ·have:decide (m+s.size≤30)=false:=by
        simp only [decide_eq_false_iff_not] at h ⊢
        omega
       rw [this,Bool.and_false]
     clear hs hs' hbc hm2 hk2 hka hsum hsz
     go_wp2_with fail
     go_ret
     refine ⟨m2,ret_bool hfin.out.symm,hk3,fun g1 g2=>?_⟩
     exfalso
     have:=hfin.out
     rw [g1] at this
     simp at this
     omega
   ·have hk':k=s.len:=by omega
    subst hk'
    have hbe:Hid (bodyB ts (4-d) s=true):=by
     unfold Hid
     rw [← hbd.out,s.drop_len,bodyB_nil]
    have hse:Hid (m'=m+s.size):=by
     have a1:=hsum.out
     rw [s.drop_len] at a1
     unfold Hid
     simp only [Sts.size] at a1
     omega
    clear hbd hsum
    go_wp2_with fail
    go_ret
    refine ⟨m',ret_bool ?_,hchk,fun _ _=>hse.out⟩
    rw [hbe.out]
    have:=hse.out
    simp
    omega
theorem Tryz.infoVarType:(Tryz.prog.info? 203).map (fun i=>(i.zero,i.size,i.bytes))=some (some (.int .i64 0),1,8):=by kernel_rfl
def ScopePost (w:World) (ts:List Int) (E:Ending) (w':World):Prop :=
 ∃ A c,E=.returned (.tuple #[.slice A ts.length c,.bool true])∧IntsV w' w.heap.size w'.heap.size ts A c∧Below w.heap.size w w'
theorem typesB_elem {ts:List Int} (h:typesB ts=true) {k:Nat} {v:Int} (hv:ts[k]?=some v):1≤v∧v≤4:=by
 simp only [typesB,Bool.and_eq_true,List.all_eq_true,decide_eq_true_eq] at h
 exact h.1 v (List.mem_of_getElem? hv)
theorem intsV_of_own {w:World} {base:Nat} {e:TypeId} {ts:List Int} {v:Value} (h:w.ownsRow base e 1 v ts.length (ts.map (Value.int .i64))):∃ A c,v=.slice A ts.length c∧IntsV w base w.heap.size ts A c:=by
 rcases h.2 with ⟨rfl,h0⟩ | ⟨g,cap,cur,rfl,hb,hg,hn,hm,hs,htake⟩
 ·refine ⟨none,0,by rw [h0],by omega,by unfold maxLen;omega,fun h=>by omega⟩
 ·refine ⟨some ⟨g,0,none⟩,cap,rfl,hn,hm,fun _=>⟨_,rfl,hb,heap_lt hg,fun j u hu=>?_⟩⟩
  exact h.cells (g:=g) rfl j _ (by rw [List.getElem?_map,hu];rfl)
theorem take_succ_map (ts:List Int) {k:Nat} {v:Int} (hv:ts[k]?=some v):(ts.map (Value.int .i64)).take k++[.int .i64 v]=(ts.map (Value.int .i64)).take (k+1):=by
 rw [List.take_add_one,List.getElem?_map,hv]
 rfl
theorem scopeOf_yes (ts:List Int) (At:Option Addr) (ct:Nat) (w:World) (hty:typesB ts=true) (hT:IntsV w 0 w.heap.size ts At ct) :
  Calls Tryz.prog 101 #[.slice At ts.length ct] w (ScopePost w ts):=by
 have hl6:ts.length≤6:=by
  simp only [typesB,Bool.and_eq_true,decide_eq_true_eq] at hty
  exact hty.2
 obtain ⟨i0,hi,hz0,hz1,hz2⟩:=info_parts Tryz.infoVarType
 have HI:=Lib.hid hi
 have HZ0:=Lib.hid hz0
 have HZ1:=Lib.hid hz1
 have HZ2:=Lib.hid hz2
 clear hi hz0 hz1 hz2
 have hnil:=Lib.hid (World.ownsRow_nil w w.heap.size 203 1)
 have HTY:=Lib.hid hty
 clear hty
 go_enter Tryz.func101,Tryz.ntmps101
 go_wp2_with fail
 go_loopw [4,12] (fun v i wr=>∃ k:Nat,k≤ts.length∧i=.int .i64 k∧wr.ownsRow w.heap.size 203 1 v k ((ts.map (Value.int .i64)).take k)∧Below w.heap.size w wr) (fun _ i _=>ts.length-(intOf i).toNat)
 case atStart=>exact ⟨0,Nat.zero_le _,rfl,hnil.out,Below.refl _ _⟩
 case round =>
  clear hnil
  obtain ⟨k,hk,rfl,hown,hb⟩:=hrel
  by_cases hlt:k<ts.length
  ·obtain ⟨b,v,rfl,-,hbb,hx,hc⟩:=(hT.below hb hb.size).elem hlt
   obtain ⟨hv1,hv4⟩:=typesB_elem HTY.out hx
   have HX:=Lib.hid hx
   have hbz:=hb.size
   clear hx
   go_wp2_with (at_builtin;refine wpList_append_own _ rfl _ _ 100 rfl w.heap.size 203 i0 (.int .i64 0) 1 8 Tryz.underlying100 HI.out HZ0.out HZ1.out HZ2.out rfl (by decide) _ _ _ rfl (hown.alloc _) ⟨wr.heap.size,0,none⟩ 1 1 [.int .i64 v] rfl rfl ?c1 ?c2 ?c3 ?c4 ?c5 ?_)
   case c1 =>
    intro j u hj
    cases j with
    | zero =>
     simp at hj
     subst hj
     exact (cB (heap_alloc_new _ _) 0).trans rfl
    | succ j=>simp at hj
   case c2 =>
    intro u hu
    simp at hu
    subst hu
    rfl
   case c3=>unfold maxLen;omega
   case c4=>omega
   case c5=>simp;omega
   intro v' w' hown' hg hne
   have hb':=(hb.alloc hbz (.cells #[Value.int .i64 v] 203)).grown hg (by simp;omega) (fun g hg'=>(hown.lt g hg').1)
   have hown2:=take_succ_map ts HX.out ▸ hown'
   clear hown' hg hown hb hne hbb hc hT HI HZ0 HZ1 HZ2
   go_wp2_with fail
   go_roundw
   case rel=>exact ⟨k+1,by omega,by go_num,hown2,hb'⟩
   case measure=>simp [intOf];omega
  ·have hk':k=ts.length:=by omega
   subst hk'
   have hall:(ts.map (Value.int .i64)).take ts.length=ts.map (Value.int .i64):=List.take_of_length_le (by simp)
   rw [hall] at hown
   obtain ⟨A,c,rfl,hI⟩:=intsV_of_own hown
   clear hall hown
   go_wp2_with fail
   go_ret2
   exact ⟨A,c,rfl,hI,hb⟩
def NoScope (w:World) (E:Ending) (w':World):Prop:=E=.returned (.tuple #[.slice none 0 0,.bool false])∧Below w.heap.size w w'
theorem scopeOf_no (ts:List Int) (At:Option Addr) (ct:Nat) (w:World) (hty:typesB ts=false) (hT:IntsV w 0 w.heap.size ts At ct) :
  Calls Tryz.prog 101 #[.slice At ts.length ct] w (NoScope w):=by
 have hm:=hT.2.1
 have hlc:=hT.1
 unfold maxLen at hm
 have HTY:=Lib.hid hty
 clear hty
 by_cases hl6:ts.length≤6
 ·obtain ⟨i0,hi,hz0,hz1,hz2⟩:=info_parts Tryz.infoVarType
  have HI:=Lib.hid hi
  have HZ0:=Lib.hid hz0
  have HZ1:=Lib.hid hz1
  have HZ2:=Lib.hid hz2
  clear hi hz0 hz1 hz2
  have hnil:=Lib.hid (World.ownsRow_nil w w.heap.size 203 1)
  go_enter Tryz.func101,Tryz.ntmps101
  go_wp2_with fail
  go_loopw [4,12] (fun v i wr=>∃ k:Nat,k≤ts.length∧i=.int .i64 k∧wr.ownsRow w.heap.size 203 1 v k ((ts.map (Value.int .i64)).take k)∧Below w.heap.size w wr∧Hid (∀ j v,j<k→ts[j]?=some v→1≤v∧v≤4)) (fun _ i _=>ts.length-(intOf i).toNat)
  case atStart=>exact ⟨0,Nat.zero_le _,rfl,hnil.out,Below.refl _ _,fun j v hj=>absurd hj (by omega)⟩
  case round =>
   clear hnil
   obtain ⟨k,hk,rfl,hown,hb,hall⟩:=hrel
   by_cases hlt:k<ts.length
   ·obtain ⟨b,v,rfl,-,hbb,hx,hc⟩:=(hT.below hb hb.size).elem hlt
    have HX:=Lib.hid hx
    have hbz:=hb.size
    clear hx
    by_cases hv:1≤v∧v≤4
    ·obtain ⟨hv1,hv4⟩:=hv
     go_wp2_with (at_builtin;refine wpList_append_own _ rfl _ _ 100 rfl w.heap.size 203 i0 (.int .i64 0) 1 8 Tryz.underlying100 HI.out HZ0.out HZ1.out HZ2.out rfl (by decide) _ _ _ rfl (hown.alloc _) ⟨wr.heap.size,0,none⟩ 1 1 [.int .i64 v] rfl rfl ?c1 ?c2 ?c3 ?c4 ?c5 ?_)
     case c1 =>
      intro j u hj
      cases j with
      | zero =>
       simp at hj
       subst hj
       exact (cB (heap_alloc_new _ _) 0).trans rfl
      | succ j=>simp at hj
     case c2 =>
      intro u hu
      simp at hu
      subst hu
      rfl
     case c3=>unfold maxLen;omega
     case c4=>omega
     case c5=>simp;omega
     intro v' w' hown' hg hne
     have hb':=(hb.alloc hbz (.cells #[Value.int .i64 v] 203)).grown hg (by simp;omega) (fun g hg'=>(hown.lt g hg').1)
     have hown2:=take_succ_map ts HX.out ▸ hown'
     have hall2:Hid (∀ j v,j<k+1→ts[j]?=some v→1≤v∧v≤4):=by
      intro j u hj hu
      by_cases e:j=k
      ·subst e
       rw [HX.out] at hu
       injection hu with hu
       omega
      ·exact hall j u (by omega) hu
     clear hown' hg hown hb hne hbb hc hT HI HZ0 HZ1 HZ2 hall
     go_wp2_with fail
     go_roundw
     case rel=>exact ⟨k+1,by omega,by go_num,hown2,hb',hall2⟩
     case measure=>simp [intOf];omega
    ·clear hown HI HZ0 HZ1 HZ2
     by_cases hv1:v<1
     ·go_wp2_with fail
      go_ret2
      exact ⟨rfl,hb⟩
     ·have hv4:4<v:=by omega
      go_wp2_with fail
      go_ret2
      exact ⟨rfl,hb⟩
   ·exfalso
    have hk':k=ts.length:=by omega
    subst hk'
    have h1:ts.all (fun t=>decide (1≤t∧t≤4))=true:=by
     rw [List.all_eq_true]
     intro u hu
     obtain ⟨j,hj⟩:=List.getElem?_of_mem hu
     have:=hall j u (List.getElem?_eq_some_iff.1 hj).1 hj
     simpa using this
    have h2:=HTY.out
    unfold typesB at h2
    rw [h1] at h2
    simp at h2
    omega
 ·have hl7:6<ts.length:=by omega
  go_enter Tryz.func101,Tryz.ntmps101
  go_wp2_with fail
  go_ret2
  exact ⟨rfl,Below.refl _ _⟩
theorem Chk.below {C B:Nat} {vs:Value} {w w':World} {m:Int} (h:Chk C vs w w' m) (hB:B≤C) (hC:C<w.heap.size):Below B w w' :=
 ⟨h.os,h.tape,h.output,h.size,fun k hk=>h.block k (by omega) (by omega)⟩
theorem countValid_any (ts:List Int) (s:Sts) (At As:Option Addr) (ct cs:Nat) (w:World) (hT:IntsV w 0 w.heap.size ts At ct) (hR:RepV w 0 w.heap.size s As cs) :
  Calls Tryz.prog 68 #[.agg #[.slice At ts.length ct,.slice As s.len cs]] w fun E w'=>E=.returned (.tuple #[.int .i64 (countI ts s),.bool (validB ts s)])∧Below w.heap.size w w':=by
 have hb0:=(Below.refl w.heap.size w).alloc (Nat.le_refl _) (.cells #[.slice At ts.length ct,.slice As s.len cs] 30)
 have hT1:IntsV (w.alloc (.cells #[.slice At ts.length ct,.slice As s.len cs] 30)) 0 (w.alloc (.cells #[.slice At ts.length ct,.slice As s.len cs] 30)).heap.size ts At ct:=hT.below hb0 (by simp)
 have hc0:(w.alloc (.cells #[.slice At ts.length ct,.slice As s.len cs] 30)).heap[w.heap.size]?=_:=heap_alloc_new w _
 have hz0:(w.alloc (.cells #[.slice At ts.length ct,.slice As s.len cs] 30)).heap.size=w.heap.size+1:=by simp
 have HC:=Lib.hid hc0
 have HZ:=Lib.hid hz0
 clear hc0 hz0
 by_cases hty:typesB ts=true
 ·have HTY:=Lib.hid hty
  clear hty
  go_enter Tryz.func68,Tryz.ntmps68
  go_wp2_with fail
  refine (scopeOf_yes ts At ct _ HTY.out hT1).mono ?_
  rintro E w1 ⟨A,c,rfl,hI,hb1⟩
  rw [HZ.out] at hI hb1
  have hs1:=hb1.size
  rw [HZ.out] at hs1
  have hb1':=(hb1.block w.heap.size (by omega)).trans HC.out
  have d1:w1.cell? ⟨w.heap.size,1,none⟩=some (.slice As s.len cs):=(cB hb1' 1).trans rfl
  have hb:Below w.heap.size w w1:=hb0.trans (hb1.mono (by omega))
  have hR1:=hR.below hb (Nat.le_refl _)
  have d2:∀ o,(w1.alloc o).cell? ⟨w.heap.size,1,none⟩=some (.slice As s.len cs):=fun o=>(World.cell?_alloc_lt _ _ _ (by simp;omega)).trans d1
  clear hb1' hb1 hT1 hT d1
  go_wp2_with fail
  have hCn:(w1.alloc (.cells #[.slice A ts.length c,.int .i64 0] 180)).heap[w1.heap.size]?=_:=heap_alloc_new w1 _
  have hba:=(Below.refl w1.heap.size w1).alloc (Nat.le_refl _) (.cells #[.slice A ts.length c,.int .i64 0] 180)
  refine (listValid_any (s.size+1) ts HTY.out A c w1.heap.size s As cs 0 0 _ (by omega) (by omega) (by omega) (by omega) (by omega) ((hI.below' hba (Nat.le_refl _)).keep (Nat.zero_le _) (Nat.le_refl _) fun _ _ _=>rfl) (hR1.below (hba.mono (by omega)) (by omega)) hCn).mono ?_
  rintro E w2 ⟨m',he,hk,hm'⟩
  have hbb:Below w.heap.size w w2:=hb.trans ((hba.mono (by omega)).trans (hk.below (by omega) (by simp)))
  by_cases hv:validB ts s=true
  ·have hv2:=hv
   simp only [validB,Bool.and_eq_true,decide_eq_true_eq] at hv2
   have e1:(bodyB ts (4-0) s && decide ((0:Int)+s.size≤30))=true:=by
    rw [Bool.and_eq_true,decide_eq_true_eq]
    exact ⟨hv2.2.1,by omega⟩
   rw [e1] at he
   subst he
   have hme:=hm' hv2.2.1 (by omega)
   have k1:w2.cell? ⟨w1.heap.size,1,none⟩=some (.int .i64 m'):=(cB hk.cell 1).trans rfl
   have hfin:Hid (countI ts s=m'):=by
    unfold Hid countI
    rw [if_pos hv]
    omega
   have HV:=Lib.hid hv
   clear hv hv2 e1 hm' hme hk hba hCn d2
   go_wp2_with fail
   go_ret2
   exact ⟨by rw [hfin.out,HV.out];rfl,hbb⟩
  ·have hv':validB ts s=false:=by simpa using hv
   have e1:(bodyB ts (4-0) s && decide ((0:Int)+s.size≤30))=false:=by
    have h2:=hv'
    simp only [validB,HTY.out,Bool.true_and] at h2
    rw [← h2]
    congr 1
    rw [decide_eq_decide]
    omega
   rw [e1] at he
   subst he
   have hfin:Hid (countI ts s=0):=by
    unfold Hid countI
    rw [if_neg (by simpa using hv')]
   have HV:=Lib.hid hv'
   clear hv hv' e1 hm' hk hba hCn d2
   go_wp2_with fail
   go_ret2
   exact ⟨by rw [hfin.out,HV.out];rfl,hbb⟩
 ·have hty':typesB ts=false:=by simpa using hty
  have HTY:=Lib.hid hty'
  have hfin:Hid (countI ts s=0):=by simp [Hid,countI,validB,hty']
  have HV:Hid (validB ts s=false):=by simp [Hid,validB,hty']
  clear hty hty'
  go_enter Tryz.func68,Tryz.ntmps68
  go_wp2_with fail
  refine (scopeOf_no ts At ct _ HTY.out hT1).mono ?_
  rintro E w1 ⟨rfl,hb1⟩
  have hs1:=hb1.size
  rw [HZ.out] at hb1 hs1
  have hb:Below w.heap.size w w1:=hb0.trans (hb1.mono (by omega))
  clear hb1 hT1 hT
  go_wp2_with fail
  go_ret2
  exact ⟨by rw [hfin.out,HV.out];rfl,hb.alloc (by omega) _⟩
theorem programValid_any (ts:List Int) (s:Sts) (At As:Option Addr) (ct cs:Nat) (w:World) (hT:IntsV w 0 w.heap.size ts At ct) (hR:RepV w 0 w.heap.size s As cs) :
  Calls Tryz.prog 38 #[.agg #[.slice At ts.length ct,.slice As s.len cs]] w fun E w'=>E=.returned (.bool (validB ts s))∧Below w.heap.size w w':=by
 have hb0:=(Below.refl w.heap.size w).alloc (Nat.le_refl _) (.cells #[.slice At ts.length ct,.slice As s.len cs] 30)
 go_enter Tryz.func38,Tryz.ntmps38
 go_wp2_with fail
 refine (countValid_any ts s At As ct cs _ (hT.below hb0 (by simp)) (hR.below hb0 (by simp))).mono ?_
 rintro E w1 ⟨rfl,hb1⟩
 go_wp2_with fail
 go_ret
 exact ⟨rfl,hb0.trans (hb1.mono (by simp))⟩
theorem valid_size {ts:List Int} {s:Sts} (h:validB ts s=true):s.size≤30:=by
 simp only [validB,Bool.and_eq_true,decide_eq_true_eq] at h
 exact h.2.2
theorem zero_size:(Tryz.zeroCells133).size=428:=by kernel_rfl
theorem zero_count:(Tryz.zeroCells133)[427]?=some (.int .i64 0):=by kernel_rfl
theorem zero_all:Tryz.zeroCells133=Array.replicate 428 (.int .i64 0):=by kernel_rfl
theorem Gr.zero (w:World):Gr w.heap.size (w.alloc (.cells Tryz.zeroCells133 133)) [] :=
 ⟨_,heap_alloc_new w _,zero_size,zero_count,⟨by simp,fun j hj=>⟨0,by rw [zero_all];simp [hj]⟩⟩,fun k d hd=>by simp at hd⟩
theorem graphOf_yes (ts:List Int) (s:Sts) (At As:Option Addr) (ct cs:Nat) (w:World) (hv:validB ts s=true) (hT:IntsV w 0 w.heap.size ts At ct) (hR:RepV w 0 w.heap.size s As cs) :
  Calls Tryz.prog 110 #[.agg #[.slice At ts.length ct,.slice As s.len cs]] w fun E w'=>∃ C,E=.returned (.tuple #[.pointer (some ⟨C,0,none⟩),.bool true])∧w.heap.size≤C∧Gr C w' (progPts s)∧Below w.heap.size w w':=by
 have hb0:=(Below.refl w.heap.size w).alloc (Nat.le_refl _) (.cells #[.slice At ts.length ct,.slice As s.len cs] 30)
 have hT1:IntsV (w.alloc (.cells #[.slice At ts.length ct,.slice As s.len cs] 30)) 0 (w.alloc (.cells #[.slice At ts.length ct,.slice As s.len cs] 30)).heap.size ts At ct:=hT.below hb0 (by simp)
 have hR1:RepV (w.alloc (.cells #[.slice At ts.length ct,.slice As s.len cs] 30)) 0 (w.alloc (.cells #[.slice At ts.length ct,.slice As s.len cs] 30)).heap.size s As cs:=hR.below hb0 (by simp)
 have hc0:(w.alloc (.cells #[.slice At ts.length ct,.slice As s.len cs] 30)).heap[w.heap.size]?=_:=heap_alloc_new w _
 have hz0:(w.alloc (.cells #[.slice At ts.length ct,.slice As s.len cs] 30)).heap.size=w.heap.size+1:=by simp
 have h30:=valid_size hv
 have HV:=Lib.hid hv
 have HC:=Lib.hid hc0
 have HZ:=Lib.hid hz0
 clear hc0 hz0 hv
 go_enter Tryz.func110,Tryz.ntmps110
 go_wp2_with fail
 refine (programValid_any ts s At As ct cs _ hT1 hR1).mono ?_
 rintro E w1 ⟨he,hb1⟩
 rw [HV.out] at he
 subst he
 rw [HZ.out] at hb1
 have hs1:=hb1.size
 rw [HZ.out] at hs1
 have hb1':=(hb1.block w.heap.size (by omega)).trans HC.out
 have d1:w1.cell? ⟨w.heap.size,1,none⟩=some (.slice As s.len cs):=(cB hb1' 1).trans rfl
 have hb:Below w.heap.size w w1:=hb0.trans (hb1.mono (by omega))
 have HB1:=Lib.hid hb1'
 have d2:∀ o,(w1.alloc o).cell? ⟨w.heap.size,1,none⟩=some (.slice As s.len cs):=fun o=>(World.cell?_alloc_lt _ _ _ (by simp;omega)).trans d1
 have hR2:=hR.below hb hb.size
 have HG:=Lib.hid (Gr.zero w1)
 have hT3:=(Turn.refl w1.heap.size w1).alloc (.cells Tryz.zeroCells133 133)
 have hnp:=s.npts_le
 have hR3:RepV (w1.alloc (.cells Tryz.zeroCells133 133)) 0 w1.heap.size s As cs:=hR2.keep (Nat.le_refl _) (Nat.le_refl _) fun p _ hp=>World.cell?_alloc_lt _ _ _ hp
 clear hb1' hb1 hT1 hR1 hT hR2 d1
 go_wp2_with fail
 refine (addList_any (s.size+1) w1.heap.size s As cs [] _ (by omega) (by omega) hR3 HG.out (by simp;omega)).mono ?_
 rintro E w2 ⟨rfl,hG2,hT2⟩
 have HG2:Hid (Gr w1.heap.size w2 (s.pts 0)):=hG2
 have HL2:Hid ((s.pts 0).length=s.npts):=s.pts_len 0
 have hT4:=hT3.trans hT2
 clear hG2 hT3 hT2 HG hR3 d2
 go_wp2_with fail
 refine (add_at w1.heap.size s.npts 11 0 0 0 _ _ HG2.out HL2 (by omega)).mono ?_
 rintro E w3 ⟨rfl,hG3,hT3⟩
 have HG3:Hid (Gr w1.heap.size w3 (progPts s)):=hG3
 have hb3:Below w.heap.size w w3:=hb.trans ⟨(hT4.trans hT3).os,(hT4.trans hT3).tape,(hT4.trans hT3).output,(hT4.trans hT3).size,fun k hk=>(hT4.trans hT3).block k (by omega) (by omega)⟩
 clear hG3 HG2 hT3 hT4
 go_wp2_with fail
 go_ret2
 exact ⟨w1.heap.size,rfl,hb.size,HG3.out,hb3⟩
theorem graphOf_no (ts:List Int) (s:Sts) (At As:Option Addr) (ct cs:Nat) (w:World) (hv:validB ts s=false) (hT:IntsV w 0 w.heap.size ts At ct) (hR:RepV w 0 w.heap.size s As cs) :
  Calls Tryz.prog 110 #[.agg #[.slice At ts.length ct,.slice As s.len cs]] w fun E w'=>E=.returned (.tuple #[.pointer none,.bool false])∧Below w.heap.size w w':=by
 have hb0:=(Below.refl w.heap.size w).alloc (Nat.le_refl _) (.cells #[.slice At ts.length ct,.slice As s.len cs] 30)
 have hT1:IntsV (w.alloc (.cells #[.slice At ts.length ct,.slice As s.len cs] 30)) 0 (w.alloc (.cells #[.slice At ts.length ct,.slice As s.len cs] 30)).heap.size ts At ct:=hT.below hb0 (by simp)
 have hR1:RepV (w.alloc (.cells #[.slice At ts.length ct,.slice As s.len cs] 30)) 0 (w.alloc (.cells #[.slice At ts.length ct,.slice As s.len cs] 30)).heap.size s As cs:=hR.below hb0 (by simp)
 have HV:=Lib.hid hv
 clear hv
 go_enter Tryz.func110,Tryz.ntmps110
 go_wp2_with fail
 refine (programValid_any ts s At As ct cs _ hT1 hR1).mono ?_
 rintro E w1 ⟨he,hb1⟩
 rw [HV.out] at he
 subst he
 have hb:Below w.heap.size w w1:=hb0.trans (hb1.mono (by simp))
 go_wp2_with fail
 go_ret2
 exact ⟨rfl,hb⟩
theorem nextOf_any (C k:Nat) (d:Nd) (ns:List Nd) (w:World) (hG:Gr C w ns) (hd:ns[k]?=some d) :
  Calls Tryz.prog 119 #[.pointer (some ⟨C,0,none⟩),.int .i64 k] w fun E w'=>E=.returned (.slice (some ⟨C,k*7+4,none⟩) d.next.length 2)∧Below w.heap.size w w':=by
 have hle:=hG.le
 have hk:=(List.getElem?_eq_some_iff.1 hd).1
 have hways:=(hG.node hd).1
 have htwo:=(hG.node hd).2.2.1
 have hlt:=hG.lt
 clear hG hd
 have ha2:Tryz.prog.arrayLen 128=2:=by kernel_rfl
 have hsl:∀ W,(Instr.sliceAt 128 (.pointer (some ⟨C,k*7+4,none⟩)) none (some (.int .i64 d.next.length)) none).run Tryz.prog W=.ok (.slice (some ⟨C,k*7+4,none⟩) d.next.length 2) W:=by
  intro W
  have he:Tryz.prog.elem 128=3:=by kernel_rfl
  have hz:(sizeOf 3).run Tryz.prog W=.ok 1 W:=by first | exact Tryz.sizeOf3 W | simp [Tryz.sizeOf3] | kernel_rfl
  rw [run_sliceAt_array_h (P:=Tryz.prog) (w:=W) (t:=128) (kh:=.i64) (h:=d.next.length) ⟨C,k*7+4,none⟩ (by kernel_rfl) (by omega) (by rw [ha2];omega),ha2,he,hz]
  simp [slicedAt,Addr.add]
 go_enter Tryz.func119,Tryz.ntmps119
 go_wp2_with fail
 go_region_with (fail)
 go_wp2_with fail
 go_ret
 exact ⟨rfl,by first | exact Below.refl _ _ | exact (Below.refl _ _).drew⟩
def noSets:Array Value:=#[.int .u64 0,.int .u64 0,.int .u64 0,.int .u64 0,.int .u64 0,.int .u64 0,.int .u64 0,.int .u64 0,.int .u64 0,.int .u64 0,.int .u64 0,.int .u64 0,.int .u64 0,.int .u64 0,.int .u64 0,.int .u64 0,.int .u64 0,.int .u64 0,.int .u64 0,.int .u64 0,.int .u64 0,.int .u64 0,.int .u64 0,.int .u64 0,.int .u64 0,.int .u64 0,.int .u64 0,.int .u64 0,.int .u64 0,.int .u64 0,.int .u64 0,.int .u64 0,.int .u64 0,.int .u64 0,.int .u64 0,.int .u64 0,.int .u64 0,.int .u64 0,.int .u64 0,.int .u64 0,.int .u64 0,.int .u64 0,.int .u64 0,.int .u64 0,.int .u64 0,.int .u64 0,.int .u64 0,.int .u64 0,.int .u64 0,.int .u64 0,.int .u64 0,.int .u64 0,.int .u64 0,.int .u64 0,.int .u64 0,.int .u64 0,.int .u64 0,.int .u64 0,.int .u64 0,.int .u64 0,.int .u64 0]
theorem noSets_size:noSets.size=61:=by kernel_rfl
theorem noSets_get (k:Nat) (h:k<61):noSets[k]?=some (.int .u64 0):=by
 have e:noSets=Array.replicate 61 (.int .u64 0):=by kernel_rfl
 rw [e]
 simp [h]
structure StepsAt (w wr:World) (ah bk:Nat→Nat):Prop where
 below:Below w.heap.size w wr
 size:w.heap.size+2≤wr.heap.size
 rowA:∃ cs,wr.heap[w.heap.size]?=some (.cells cs 104 (0,0))∧cs.size=61∧∀ i,i<61→cs[i]?=some (.int .u64 (ah i:Int))
 rowB:∃ cs,wr.heap[w.heap.size+1]?=some (.cells cs 104 (0,0))∧cs.size=61∧∀ i,i<61→cs[i]?=some (.int .u64 (bk i:Int))
theorem StepsAt.start (w:World):StepsAt w ((w.alloc (.cells noSets 104)).alloc (.cells noSets 104)) (fun _=>0) (fun _=>0):=by
 have hz:(w.alloc (.cells noSets 104)).heap.size=w.heap.size+1:=by simp
 refine ⟨((Below.refl w.heap.size w).alloc (Nat.le_refl _) _).alloc (by simp) _,by simp,⟨noSets,?_,noSets_size,noSets_get⟩,⟨noSets,?_,noSets_size,noSets_get⟩⟩
 ·have h2:=heap_alloc_new w (.cells noSets 104)
  rw [← h2]
  have hb:=(Below.refl (w.heap.size+1) (w.alloc (.cells noSets 104))).alloc (by omega) (.cells noSets 104)
  exact hb.block _ (by omega)
 ·have h2:=heap_alloc_new (w.alloc (.cells noSets 104)) (.cells noSets 104)
  rw [hz] at h2
  exact h2
theorem StepsAt.keep {w wr w':World} {ah bk:Nat→Nat} (h:StepsAt w wr ah bk) (hb:Below wr.heap.size wr w'):StepsAt w w' ah bk:=by
 have hs:=h.size
 have hs':=hb.size
 refine ⟨h.below.trans (hb.mono (by omega)),by omega,?_,?_⟩
 ·rw [hb.block _ (by omega)];exact h.rowA
 ·rw [hb.block _ (by omega)];exact h.rowB
theorem StepsAt.cellA {w wr:World} {ah bk:Nat→Nat} (h:StepsAt w wr ah bk) {i:Nat} (hi:i<61):wr.cell? ⟨w.heap.size,i,none⟩=some (.int .u64 (ah i:Int)):=by
 obtain ⟨cs,h1,_,h3⟩:=h.rowA
 rw [cB h1]
 exact h3 i hi
theorem StepsAt.cellB {w wr:World} {ah bk:Nat→Nat} (h:StepsAt w wr ah bk) {i:Nat} (hi:i<61):wr.cell? ⟨w.heap.size+1,i,none⟩=some (.int .u64 (bk i:Int)):=by
 obtain ⟨cs,h1,_,h3⟩:=h.rowB
 rw [cB h1]
 exact h3 i hi
theorem sets_put {cs:Array Value} {f:Nat→Nat} {i v:Nat} (hs:cs.size=61) (h:∀ j,j<61→cs[j]?=some (.int .u64 (f j:Int))) (hi:i<61):(cs.setIfInBounds i (.int .u64 (v:Int))).size=61∧∀ j,j<61→(cs.setIfInBounds i (.int .u64 (v:Int)))[j]?=some (.int .u64 (setAt f i v j:Int)):=by
 refine ⟨by simp [hs],fun j hj=>?_⟩
 rw [Array.getElem?_setIfInBounds]
 unfold setAt
 by_cases hij:i=j
 ·subst hij
  rw [if_pos rfl,if_pos (by omega),if_pos rfl]
 ·rw [if_neg hij,if_neg (fun h=>hij h.symm)]
  exact h j hj
theorem StepsAt.putA {w wr:World} {ah bk:Nat→Nat} (h:StepsAt w wr ah bk) {i v:Nat} (hi:i<61):StepsAt w (wr.setCell ⟨w.heap.size,i,none⟩ (.int .u64 (v:Int))) (setAt ah i v) bk:=by
 have hs:=h.size
 refine ⟨⟨h.below.os,h.below.tape,h.below.output,by have:=h.below.size;simp [World.setCell];omega,fun k hk=>?_⟩,by simp [World.setCell];omega,?_,?_⟩
 ·rw [heap_setCell_other _ _ _ _ (by simp;omega)]
  exact h.below.block k hk
 ·obtain ⟨cs,h1,h2,h3⟩:=h.rowA
  exact ⟨_,heap_setCell_same wr _ i cs _ _ h1,(sets_put h2 h3 hi).1,(sets_put h2 h3 hi).2⟩
 ·rw [heap_setCell_other _ _ _ _ (by simp)]
  exact h.rowB
theorem StepsAt.putB {w wr:World} {ah bk:Nat→Nat} (h:StepsAt w wr ah bk) {i v:Nat} (hi:i<61):StepsAt w (wr.setCell ⟨w.heap.size+1,i,none⟩ (.int .u64 (v:Int))) ah (setAt bk i v):=by
 have hs:=h.size
 refine ⟨⟨h.below.os,h.below.tape,h.below.output,by have:=h.below.size;simp [World.setCell];omega,fun k hk=>?_⟩,by simp [World.setCell];omega,?_,?_⟩
 ·rw [heap_setCell_other _ _ _ _ (by simp;omega)]
  exact h.below.block k hk
 ·rw [heap_setCell_other _ _ _ _ (by simp)]
  exact h.rowA
 ·obtain ⟨cs,h1,h2,h3⟩:=h.rowB
  exact ⟨_,heap_setCell_same wr _ i cs _ _ h1,(sets_put h2 h3 hi).1,(sets_put h2 h3 hi).2⟩
theorem StepsAt.softA {w wr:World} {ah bk:Nat→Nat} (h:StepsAt w wr ah bk) (i:Nat):wr.frozen? ⟨w.heap.size,i,none⟩=false:=by
 obtain ⟨cs,h1,_,_⟩:=h.rowA
 exact frozen_of_row _ _ _ _ _ h1
theorem StepsAt.softB {w wr:World} {ah bk:Nat→Nat} (h:StepsAt w wr ah bk) (i:Nat):wr.frozen? ⟨w.heap.size+1,i,none⟩=false:=by
 obtain ⟨cs,h1,_,_⟩:=h.rowB
 exact frozen_of_row _ _ _ _ _ h1
theorem setRow_same {w:World} {g:Nat} {cs:Array Value} {t:TypeId} (h:w.heap[g]?=some (.cells cs t (0,0))):w.setRow g cs=w:=by
 have e:(w.setRow g cs).heap=w.heap:=by
  apply Array.ext_getElem?
  intro i
  simp only [World.setRow,Array.getElem?_modify]
  by_cases hi:g=i
  ·subst hi
   rw [if_pos rfl,h]
   rfl
  ·rw [if_neg hi]
 unfold World.setRow at e ⊢
 simp only at e
 rw [e]
theorem load_sets {W:World} {g:Nat} {cs:Array Value} (h:W.heap[g]?=some (.cells cs 104 (0,0))) (hz:cs.size=61) :
  (loadVar 104 ⟨g,0,none⟩).run Tryz.prog W=.ok (.agg cs) W :=
 run_loadVar_row W g _ _ cs (0,0) _ h Tryz.underlying104 rfl (by rw [hz];kernel_rfl)
theorem store_sets {W:World} {g:Nat} {cs:Array Value} (h:W.heap[g]?=some (.cells cs 104 (0,0))) (hz:cs.size=61) (f:Nat→Nat) (hf:∀ i,i<61→cs[i]?=some (.int .u64 (f i:Int))) :
  (storeVar 104 ⟨g,0,none⟩ (.agg cs)).run Tryz.prog W=.ok () W:=by
 have h1:cs.all (·.oneCell')=true:=by
  rw [Array.all_eq_true_iff_forall_mem]
  intro u hu
  obtain ⟨i,hi,rfl⟩:=Array.mem_iff_getElem.mp hu
  have:=hf i (by omega)
  rw [Array.getElem?_eq_getElem hi] at this
  rw [Option.some.inj this]
  rfl
 rw [run_storeVar_row W g _ _ cs cs h (by rw [hz];kernel_rfl) rfl h1,setRow_same h]
theorem setCell_same {w:World} {b o:Nat} {v:Value} {cs:Array Value} {t:TypeId} (h:w.heap[b]?=some (.cells cs t (0,0))) (hv:cs[o]?=some v):w.setCell ⟨b,o,none⟩ v=w:=by
 rw [setCell_eq_setRow w b o cs t (0,0) v h]
 have e:cs.setIfInBounds o v=cs:=by
  apply Array.ext_getElem?
  intro i
  rw [Array.getElem?_setIfInBounds]
  by_cases hi:o=i
  ·subst hi
   rw [if_pos rfl,hv,if_pos (Array.getElem?_eq_some_iff.mp hv).1]
  ·rw [if_neg hi]
 rw [e]
 exact setRow_same h
theorem setCells_same {w:World} {b:Nat} {cs:Array Value} {t:TypeId} (h:w.heap[b]?=some (.cells cs t (0,0))):∀ (vs:List Value) (o:Nat),(∀ j v,vs[j]?=some v→cs[o+j]?=some v)→w.setCells b o vs=w
 | [],o,_=>rfl
 | v :: r,o,hv=>by
  rw [World.setCells,setCell_same h (by simpa using hv 0 v rfl)]
  exact setCells_same h r (o+1) (fun j u hu=>by
   have:=hv (j+1) u hu
   rw [show o+(j+1)=o+1+j from by omega] at this
   exact this)
theorem sets_range {W:World} {g:Nat} {cs:Array Value} (h:W.heap[g]?=some (.cells cs 104 (0,0))):W.rangeAt g 0 cs.toList:=by
 intro j v hj
 rw [Nat.zero_add,cB h]
 simpa using hj
theorem sets_there {W:World} {g:Nat} {cs:Array Value} (h:W.heap[g]?=some (.cells cs 104 (0,0))) (hz:cs.size=61):W.there g 0 61:=by
 intro j hj
 rw [Nat.zero_add]
 refine ⟨?_,frozen_of_row _ _ _ _ _ h⟩
 rw [cB h,Array.getElem?_eq_getElem (by omega)]
 rfl
theorem sets_one {cs:Array Value} (hz:cs.size=61) (f:Nat→Nat) (hf:∀ i,i<61→cs[i]?=some (.int .u64 (f i:Int))):∀ v∈cs.toList,v.oneCell'=true:=by
 intro u hu
 obtain ⟨i,hi,rfl⟩:=Array.mem_iff_getElem.mp (Array.mem_toList_iff.mp hu)
 have:=hf i (by omega)
 rw [Array.getElem?_eq_getElem hi] at this
 rw [Option.some.inj this]
 rfl
def SetRow (xs:Array Value) (f:Nat→Nat):Prop:=xs.size=61∧∀ i,i<61→xs[i]?=some (.int .u64 (f i:Int))
theorem results_two_rows {fn:Func} {p q:Tmp} {ty:TypeId} (h:fn.results=#[.cell p ty,.cell q ty]) (P:Program) (tmps:Array Value) (w:World) (g g':Nat) (cs ds:Array Value)
  (hp:tmps.getD p undef=.pointer (some ⟨g,0,none⟩)) (hq:tmps.getD q undef=.pointer (some ⟨g',0,none⟩))
  (hl:(loadVar ty ⟨g,0,none⟩).run P w=.ok (.agg cs) w) (hl':(loadVar ty ⟨g',0,none⟩).run P w=.ok (.agg ds) w) :
  (results fn tmps).run P w=.ok (.tuple #[.agg cs,.agg ds]) w:=by
 have hp':tmps[p]?.getD undef=.pointer (some ⟨g,0,none⟩):=by simpa using hp
 have hq':tmps[q]?.getD undef=.pointer (some ⟨g',0,none⟩):=by simpa using hq
 simp [results,h,hp',hq',asAddr,hl,hl']
def StepsPost (ns:List Nd) (w:World) (E:Ending) (w':World):Prop:=∃ (xs ys:Array Value) (ah bk:Nat→Nat),E=.returned (.tuple #[.agg xs,.agg ys])∧SetRow xs ah∧SetRow ys bk∧Sets2 (Edge ns ns.length 0) ah bk∧Below w.heap.size w w'
theorem steps_any (C q:Nat) (ns:List Nd) (w:World) (hD:PtsOk q ns) (hG:Gr C w ns) :
  Calls Tryz.prog 131 #[.pointer (some ⟨C,0,none⟩)] w (StepsPost ns w):=by
 have hc:=hG.count
 have hle:=hG.le
 have hC:=hG.lt
 have hcc:∀ o1 o2:Obj,((w.alloc o1).alloc o2).cell? ⟨C,427,none⟩=some (.int .i64 (ns.length:Int)):=by
  intro o1 o2
  have hb:=((Below.refl w.heap.size w).alloc (Nat.le_refl _) o1).alloc (by simp) o2
  rw [← hc]
  unfold World.cell?
  rw [hb.block C hC]
 have hst:=StepsAt.start w
 have HG:=Lib.hid hG
 have HD:=Lib.hid hD
 clear hG hD
 go_enter Tryz.func131,Tryz.ntmps131
 go_wp2_with fail
 unfold noSets at hst
 generalize hw0:(w.alloc (.cells #[.int .u64 0,.int .u64 0,.int .u64 0,.int .u64 0,.int .u64 0,.int .u64 0,.int .u64 0,.int .u64 0,.int .u64 0,.int .u64 0,.int .u64 0,.int .u64 0,.int .u64 0,.int .u64 0,.int .u64 0,.int .u64 0,.int .u64 0,.int .u64 0,.int .u64 0,.int .u64 0,.int .u64 0,.int .u64 0,.int .u64 0,.int .u64 0,.int .u64 0,.int .u64 0,.int .u64 0,.int .u64 0,.int .u64 0,.int .u64 0,.int .u64 0,.int .u64 0,.int .u64 0,.int .u64 0,.int .u64 0,.int .u64 0,.int .u64 0,.int .u64 0,.int .u64 0,.int .u64 0,.int .u64 0,.int .u64 0,.int .u64 0,.int .u64 0,.int .u64 0,.int .u64 0,.int .u64 0,.int .u64 0,.int .u64 0,.int .u64 0,.int .u64 0,.int .u64 0,.int .u64 0,.int .u64 0,.int .u64 0,.int .u64 0,.int .u64 0,.int .u64 0,.int .u64 0,.int .u64 0,.int .u64 0] 104)).alloc (.cells #[.int .u64 0,.int .u64 0,.int .u64 0,.int .u64 0,.int .u64 0,.int .u64 0,.int .u64 0,.int .u64 0,.int .u64 0,.int .u64 0,.int .u64 0,.int .u64 0,.int .u64 0,.int .u64 0,.int .u64 0,.int .u64 0,.int .u64 0,.int .u64 0,.int .u64 0,.int .u64 0,.int .u64 0,.int .u64 0,.int .u64 0,.int .u64 0,.int .u64 0,.int .u64 0,.int .u64 0,.int .u64 0,.int .u64 0,.int .u64 0,.int .u64 0,.int .u64 0,.int .u64 0,.int .u64 0,.int .u64 0,.int .u64 0,.int .u64 0,.int .u64 0,.int .u64 0,.int .u64 0,.int .u64 0,.int .u64 0,.int .u64 0,.int .u64 0,.int .u64 0,.int .u64 0,.int .u64 0,.int .u64 0,.int .u64 0,.int .u64 0,.int .u64 0,.int .u64 0,.int .u64 0,.int .u64 0,.int .u64 0,.int .u64 0,.int .u64 0,.int .u64 0,.int .u64 0,.int .u64 0,.int .u64 0] 104)=w0 at hst ⊢
 clear hw0 hcc
 have HST:Hid (∃ ah bk,Sets2 (Edge ns 0 0) ah bk∧StepsAt w w0 ah bk):=⟨_,_,Sets2.zero.congr (fun x y=>⟨fun h=>absurd h (Edge.zero ns x y),False.elim⟩),hst⟩
 clear hst
 go_loopw [4,6,11] (fun _ _ i wr=>∃ k:Nat,i=.int .i64 k∧k≤ns.length∧Hid (∃ ah bk,Sets2 (Edge ns k 0) ah bk∧StepsAt w wr ah bk)) (fun _ _ i _=>ns.length-(intOf i).toNat)
 case atStart=>exact ⟨0,rfl,Nat.zero_le _,HST⟩
 case round =>
  clear HST
  obtain ⟨k,rfl,hk,HS⟩:=hrel
  by_cases hlt:k<ns.length
  ·obtain ⟨d,hd⟩:∃ d,ns[k]?=some d:=⟨ns[k],List.getElem?_eq_getElem hlt⟩
   have hb:Below w.heap.size w wr:=by obtain ⟨_,_,_,h⟩:=HS.out;exact h.below
   have hno:=nextOf_any C k d ns wr (HG.out.kept (hb.block C hC)) hd
   have HDK:=Lib.hid hd
   have hnx:Hid (∀ (m:Nat) (v:Int),d.next[m]?=some v→∃ c:Nat,v=(c:Int)∧c<61):=by
    intro m v hv
    have hm:=List.mem_of_getElem? hv
    have hq:ns.length=q+1:=HD.out.1
    by_cases hkq:k<q
    ·obtain ⟨d',h1,h2⟩:=HD.out.2.2 k hkq
     rw [hd] at h1
     cases h1
     have:=h2.le v hm
     exact ⟨v.toNat,by omega,by omega⟩
    ·have hkq':k=q:=by omega
     subst hkq'
     rw [HD.out.2.1] at hd
     cases hd
     cases hm
   clear hd hb
   go_wp2_with fail
   refine hno.mono ?_
   rintro E w1 ⟨rfl,hb1⟩
   have HS1:Hid (∃ ah bk,Sets2 (Edge ns k 0) ah bk∧StepsAt w w1 ah bk):=by
    obtain ⟨ah,bk,h1,h2⟩:=HS.out
    exact ⟨ah,bk,h1,h2.keep hb1⟩
   clear hno hb1 HS
   go_wp2_with fail
   go_loopw [18] (fun j wr=>∃ m:Nat,j=.int .i64 m∧m≤d.next.length∧Hid (∃ ah bk,Sets2 (Edge ns k m) ah bk∧StepsAt w wr ah bk)) (fun j _=>d.next.length-(intOf j).toNat)
   case atStart=>exact ⟨0,rfl,Nat.zero_le _,HS1⟩
   case round =>
    clear HS1
    obtain ⟨m,rfl,hm,HS2⟩:=hrel
    by_cases hml:m<d.next.length
    ·obtain ⟨v,hv⟩:∃ v,d.next[m]?=some v:=⟨d.next[m],List.getElem?_eq_getElem hml⟩
     obtain ⟨c,rfl,hc61⟩:=hnx.out m v hv
     obtain ⟨ah,bk,hs2,hsa⟩:=HS2.out
     have hGr:=HG.out.kept (hsa.below.block C hC)
     have hnode:=(hGr.node HDK.out).2.1 m _ hv
     have hk61:k<61:=by omega
     have hA:=hsa.cellA hk61
     have hwA:=with_any (ah k) c (hs2.ahLt k) (by omega)
     have hwB:=with_any (bk c) k (hs2.bkLt c) (by omega)
     have HSA:=Lib.hid hsa
     have HV:=Lib.hid hv
     have HS2O:=Lib.hid hs2
     have hlA:=hs2.ahLt k
     have htwo:=(hGr.node HDK.out).2.2.1
     clear hs2 hsa hGr hv HS2
     have hs2lt:ah k<18446744073709551616:=hlA
     go_wp2_with fail
     refine (hwA _).mono ?_
     rintro E w2 ⟨rfl,hb2⟩
     have HSB:=Lib.hid (HSA.out.keep hb2)
     have hcA:=HSB.out.cellA hk61
     have hfA:=HSB.out.softA k
     have HSC:=Lib.hid (HSB.out.putA (v:=ah k|||2 ^ c) hk61)
     have hcB:=HSC.out.cellB hc61
     clear hwA hb2 hA
     go_wp2_with fail
     refine (hwB _).mono ?_
     rintro E w4 ⟨rfl,hb4⟩
     have HSD:=Lib.hid (HSC.out.keep hb4)
     have hcD:=HSD.out.cellB hc61
     have hfD:=HSD.out.softB c
     have HSE:=Lib.hid (HSD.out.putB (v:=bk c|||2 ^ k) hc61)
     clear hwB hb4 hcB hcA hfA
     go_wp2_with fail
     refine ⟨⟨m+1,by simp,by omega,_,_,HS2O.out.more (by omega) (by omega) (fun x y=>Edge.one HDK.out HV.out),HSE.out⟩,?_⟩
     simp only [intOf]
     omega
    ·have hme:m=d.next.length:=by omega
     subst hme
     go_wp2_with fail
     obtain ⟨ah,bk,hs2,hsa⟩:=HS2.out
     refine ⟨⟨k+1,by simp,by omega,ah,bk,hs2.congr (fun x y=>(Edge.row HDK.out).symm),hsa⟩,?_⟩
     simp only [intOf]
     omega
  ·have hkn:k=ns.length:=by omega
   subst hkn
   obtain ⟨ah,bk,hs2,hsa⟩:=HS.out
   obtain ⟨csA,ha1,ha2,ha3⟩:=hsa.rowA
   obtain ⟨csB,hb1,hb2,hb3⟩:=hsa.rowB
   have rA:=sets_range ha1
   have rB:=sets_range hb1
   have tA:=sets_there ha1 ha2
   have tB:=sets_there hb1 hb2
   have oA:=sets_one ha2 ah ha3
   have oB:=sets_one hb2 bk hb3
   have nA:csA.toList.length=61:=by simpa using ha2
   have nB:csB.toList.length=61:=by simpa using hb2
   have HSS:=Lib.hid hs2
   have HSA:=Lib.hid hsa
   have HA:=Lib.hid (And.intro ha1 (And.intro ha2 ha3))
   have HB:=Lib.hid (And.intro hb1 (And.intro hb2 hb3))
   clear hs2 hsa ha1 ha2 ha3 hb1 hb2 hb3
   have LA:=Lib.hid (show csA.toList.toArray=csA by simp)
   have LB:=Lib.hid (show csB.toList.toArray=csB by simp)
   generalize hla:csA.toList=la at *
   generalize hlb:csB.toList=lb at *
   clear hla hlb
   have hu:=Tryz.underlying104
   have hsz:(Tryz.prog.info? 104).map (·.size)=some 61:=by kernel_rfl
   have hiA:(Tryz.prog.info? 104).map (·.size)=some la.length:=by rw [hsz,nA]
   have hiB:(Tryz.prog.info? 104).map (·.size)=some lb.length:=by rw [hsz,nB]
   clear hsz
   go_wp2_with fail
   have rA':wr.drew.rangeAt w.heap.size 0 la:=by simpa using rA
   have rB':wr.drew.rangeAt (w.heap.size+1) 0 lb:=by simpa using rB
   refine wp_region_held_drew (S:=fun w'=>w'=wr.drew) (by kernel_rfl) rfl (fun hHeld=>?_)
   refine wpAnyH_take (i:=0) (oi:=⟨_,_,_,_,_,_⟩) (v:=.agg la.toArray) rfl (by kernel_rfl) (by kernel_rfl) (by kernel_rfl) (fun _ _ _ h=>h)
    (yieldsIf_load_mid (by rfl) _ _ rfl w.heap.size 0 rfl la _ (fun w' h=>by rw [h];exact rA') hu rfl hiA) hHeld ?_
   try simp only [Act.put,sA,sB,sC]
   refine wpAnyH_take (i:=1) (oi:=⟨_,_,_,_,_,_⟩) (v:=.agg lb.toArray) rfl (by kernel_rfl) (by kernel_rfl) (by kernel_rfl) (fun _ _ _ h=>h)
    (yieldsIf_load_mid (by rfl) _ _ rfl (w.heap.size+1) 0 rfl lb _ (fun w' h=>by rw [h];exact rB') hu rfl hiB) hHeld ?_
   try simp only [Act.put,sA,sB,sC]
   have hSA:wr.drew.setCells w.heap.size 0 la=wr.drew:=by
    have:=LA.out
    exact setCells_same (w:=wr.drew) HA.out.1 la 0 (fun j v hv=>by rw [Nat.zero_add,← this];simpa using hv)
   have hSB:wr.drew.setCells (w.heap.size+1) 0 lb=wr.drew:=by
    have:=LB.out
    exact setCells_same (w:=wr.drew) HB.out.1 lb 0 (fun j v hv=>by rw [Nat.zero_add,← this];simpa using hv)
   have tA':wr.drew.there w.heap.size 0 61:=by simpa using tA
   have tB':wr.drew.there (w.heap.size+1) 0 61:=by simpa using tB
   refine wpAnyH_ready (rs:=[2]) (by kernel_rfl) (by simp) ?_
   refine AllReadyH.cons (o:=⟨_,_,_,_,_,_⟩) rfl (fun K hK=>?_) AllReadyH.nil
   rw [if_pos (by rfl)]
   refine wp_store_mid _ _ _ rfl _ _ (la.toArray) rfl rfl (by simpa [nA] using tA') (by simpa using hiA) (all_oneCell_toArray oA) ?_
   simp only [Act.put]
   refine hK.out _ _ ?_ (fun hHeld=>?_)
   ·exact hSA
   clear hK K
   rw [hSA]
   refine wpAnyH_ready (rs:=[3]) (by kernel_rfl) (by simp) ?_
   refine AllReadyH.cons (o:=⟨_,_,_,_,_,_⟩) rfl (fun K hK=>?_) AllReadyH.nil
   rw [if_pos (by rfl)]
   refine wp_store_mid _ _ _ rfl _ _ (lb.toArray) rfl rfl (by simpa [nB] using tB') (by simpa using hiB) (all_oneCell_toArray oB) ?_
   simp only [Act.put]
   refine hK.out _ _ ?_ (fun hHeld=>?_)
   ·exact hSB
   clear hK K
   rw [hSB]
   refine wpAnyH_done (by kernel_rfl) ?_ _
   clear hHeld
   go_wp2_with fail
   refine bodyPost_ret (v:=.tuple #[.agg csA,.agg csB]) ?_ rfl ?_
   ·exact results_two_rows rfl Tryz.prog _ wr.drew w.heap.size (w.heap.size+1) csA csB rfl rfl (load_sets (W:=wr.drew) HA.out.1 HA.out.2.1) (load_sets (W:=wr.drew) HB.out.1 HB.out.2.1)
   ·have hbw:=HSA.out.below
    exact ⟨csA,csB,ah,bk,rfl,HA.out.2,HB.out.2,HSS.out,⟨hbw.os,hbw.tape,hbw.output,hbw.size,hbw.block⟩⟩
theorem lay_two (w:World) (xs ys:Array Value) (ah bk:Nat→Nat) (hx:SetRow xs ah) (hy:SetRow ys bk):∃ W5 W6,(storeCells ⟨w.heap.size,0,none⟩ xs.toList).run Tryz.prog ((w.alloc (.cells noSets 104)).alloc (.cells noSets 104))=.ok () W5∧(storeCells ⟨w.heap.size+1,0,none⟩ ys.toList).run Tryz.prog W5=.ok () W6∧Below w.heap.size w W6∧W6.heap[w.heap.size]?=some (.cells xs 104 (0,0))∧W6.heap[w.heap.size+1]?=some (.cells ys 104 (0,0))∧W6.heap.size=w.heap.size+2:=by
 have hst:=StepsAt.start w
 obtain ⟨ca,a1,a2,_⟩:=hst.rowA
 obtain ⟨cb,b1,b2,_⟩:=hst.rowB
 have hbw:=hst.below
 have hsz:((w.alloc (.cells noSets 104)).alloc (.cells noSets 104)).heap.size=w.heap.size+2:=by simp
 generalize (w.alloc (.cells noSets 104)).alloc (.cells noSets 104)=W4 at a1 b1 hbw hsz
 have ox:=sets_one hx.1 ah hx.2
 have oy:=sets_one hy.1 bk hy.2
 have s1:=run_storeCells_from (P:=Tryz.prog) w.heap.size _ xs.toList 0 ca W4 a1 (by simp [hx.1,a2]) ox
 have e1:(ca.toList.take 0++xs.toList).toArray=xs:=by simp
 rw [e1] at s1
 have h5a:=setRow_heap W4 w.heap.size ca xs 104 (0,0) a1
 have h5b:(W4.setRow w.heap.size xs).heap[w.heap.size+1]?=some (.cells cb 104 (0,0)):=by
  rw [← b1]
  simp only [World.setRow,Array.getElem?_modify]
  rw [if_neg (by omega)]
 have h5k:∀ k,k<w.heap.size→(W4.setRow w.heap.size xs).heap[k]?=W4.heap[k]?:=by
  intro k hk
  simp only [World.setRow,Array.getElem?_modify]
  rw [if_neg (by omega)]
 have h5z:(W4.setRow w.heap.size xs).heap.size=w.heap.size+2:=by rw [size_setRow,hsz]
 have h5o:(W4.setRow w.heap.size xs).os=W4.os∧(W4.setRow w.heap.size xs).tape=W4.tape∧(W4.setRow w.heap.size xs).output=W4.output:=⟨rfl,rfl,rfl⟩
 generalize W4.setRow w.heap.size xs=W5 at s1 h5a h5b h5k h5z h5o
 have s2:=run_storeCells_from (P:=Tryz.prog) (w.heap.size+1) _ ys.toList 0 cb W5 h5b (by simp [hy.1,b2]) oy
 have e2:(cb.toList.take 0++ys.toList).toArray=ys:=by simp
 rw [e2] at s2
 refine ⟨W5,_,s1,s2,⟨h5o.1.trans hbw.os,h5o.2.1.trans hbw.tape,h5o.2.2.trans hbw.output,by rw [size_setRow,h5z];omega,fun k hk=>?_⟩,?_,setRow_heap W5 (w.heap.size+1) cb ys _ (0,0) h5b,by rw [size_setRow,h5z]⟩
 ·simp only [World.setRow,Array.getElem?_modify]
  rw [if_neg (by omega),h5k k hk]
  exact hbw.block k hk
 ·simp only [World.setRow,Array.getElem?_modify]
  rw [if_neg (by omega),h5a]
end Go.Proofs.YtedkkphogeealaaGreatDoor
