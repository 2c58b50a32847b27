/- The model's checks of statements,lists of statements and types,and its count. -/
import Derived.Test.YtedkkphogeealaaGreatDoorPSpecA
import Derived.Test.YtedkkphogeealaaGreatDoorPCopy0
namespace Go.Proofs.YtedkkphogeealaaGreatDoor
open Go.RowKit Go.Deep
set_option maxHeartbeats 1000000
theorem l1Simple_any (ts:List Int) (A:Option Addr) (c:Nat) (op x y n:Int) (v4 v5:Value) (w:World) (hT:IntsV w 0 w.heap.size ts A c) :
  Calls Tryz.prog 122 #[.slice A ts.length c,.agg #[.int .i64 op,.int .i64 x,.int .i64 y,.int .i64 n,v4,v5]] w fun e w'=>e=.returned (.bool (simpleB op (tyAt ts x) (tyAt ts y) x y n))∧Below w.heap.size w w':=by
 by_cases h1:op=1
 ·subst h1;exact l1Simple_1 ts A c x y n _ _ v4 v5 w hT rfl rfl
 by_cases h2:op=2
 ·subst h2;exact l1Simple_2 ts A c x y n _ _ v4 v5 w hT rfl rfl
 by_cases h3:op=3
 ·subst h3
  by_cases hn:n=0
  ·exact l1Simple_3 ts A c x y n _ _ v4 v5 w hT rfl rfl hn
  ·exact l1Simple_3n ts A c x y n _ _ v4 v5 w hT rfl rfl hn
 by_cases h4:op=4
 ·subst h4
  by_cases hn:n=0
  ·exact l1Simple_4 ts A c x y n _ _ v4 v5 w hT rfl rfl hn
  ·exact l1Simple_4n ts A c x y n _ _ v4 v5 w hT rfl rfl hn
 by_cases h5:op=5
 ·subst h5
  by_cases hn:n=0
  ·exact l1Simple_5 ts A c x y n _ _ v4 v5 w hT rfl rfl hn
  ·exact l1Simple_5n ts A c x y n _ _ v4 v5 w hT rfl rfl hn
 by_cases h6:op=6
 ·subst h6
  by_cases hn:n=0
  ·exact l1Simple_6 ts A c x y n _ _ v4 v5 w hT rfl rfl hn
  ·exact l1Simple_6n ts A c x y n _ _ v4 v5 w hT rfl rfl hn
 by_cases h7:op=7
 ·subst h7
  by_cases hn:n=0
  ·exact l1Simple_7 ts A c x y n _ _ v4 v5 w hT rfl rfl hn
  ·exact l1Simple_7n ts A c x y n _ _ v4 v5 w hT rfl rfl hn
 by_cases h8:op=8
 ·subst h8
  by_cases hn:n=0
  ·exact l1Simple_8 ts A c x y n _ _ v4 v5 w hT rfl rfl hn
  ·exact l1Simple_8n ts A c x y n _ _ v4 v5 w hT rfl rfl hn
 exact l1Simple_0 ts A c op x y n _ _ v4 v5 w hT rfl rfl h1 h2 h3 h4 h5 h6 h7 h8
def BodyAt (ts:List Int) (A:Option Addr) (c:Nat) (d:Int) (s:Sts) (As:Option Addr) (cs:Nat) (w:World):Prop :=
 ∀ (w':World),Below w.heap.size w w'→Calls Tryz.prog 65 #[.slice A ts.length c,.slice As s.len cs,.int .i64 d] w' fun e w''=>e=.returned (.bool (bodyB ts d s))∧Below w'.heap.size w' w''
theorem l1Stmt_simple (ts:List Int) (A:Option Addr) (c:Nat) (d op x y n:Int) (nt ne:Nat) (At Ae:Option Addr) (ct ce:Nat) (w:World) (hT:IntsV w 0 w.heap.size ts A c) (h9:¬ op=9) (h10:¬ op=10) :
  Calls Tryz.prog 100 #[.slice A ts.length c,.agg #[.int .i64 op,.int .i64 x,.int .i64 y,.int .i64 n,.slice At nt ct,.slice Ae ne ce],.int .i64 d] w fun E w'=>E=.returned (.bool (decide (nt=0∧ne=0) && simpleB op (tyAt ts x) (tyAt ts y) x y n))∧Below w.heap.size w w':=by
 have k9:(op != 9)=true:=by simpa using h9
 have k10:(op != 10)=true:=by simpa using h10
 by_cases ht:nt=0
 ·by_cases he:ne=0
  ·subst ht he
   have e0:(decide ((0:Nat)=0∧(0:Nat)=0) && simpleB op (tyAt ts x) (tyAt ts y) x y n)=simpleB op (tyAt ts x) (tyAt ts y) x y n:=by simp
   rw [e0]
   clear e0
   have hb0:=(Below.refl w.heap.size w).alloc (Nat.le_refl _) (.cells #[.int .i64 op,.int .i64 x,.int .i64 y,.int .i64 n,.slice At 0 ct,.slice Ae 0 ce] 121)
   go_enter Tryz.func100,Tryz.ntmps100
   go_wp2_with fail
   refine (l1Simple_any ts A c op x y n _ _ _ (hT.below hb0 (by simp))).mono ?_
   rintro E w1 ⟨rfl,hb1⟩
   go_wp2_with fail
   go_ret
   exact ⟨rfl,hb0.trans (hb1.mono (by simp))⟩
  ·have e0:(decide (nt=0∧ne=0) && simpleB op (tyAt ts x) (tyAt ts y) x y n)=false:=by simp [he]
   rw [e0]
   clear e0
   subst ht
   have he':((ne:Int)==0)=false:=by simp;omega
   go_enter Tryz.func100,Tryz.ntmps100
   go_wp2_with fail
   go_ret
   exact ⟨rfl,(Below.refl _ _).alloc (Nat.le_refl _) _⟩
 ·have e0:(decide (nt=0∧ne=0) && simpleB op (tyAt ts x) (tyAt ts y) x y n)=false:=by simp [ht]
  rw [e0]
  clear e0
  have ht':((nt:Int)==0)=false:=by simp;omega
  go_enter Tryz.func100,Tryz.ntmps100
  go_wp2_with fail
  go_ret
  exact ⟨rfl,(Below.refl _ _).alloc (Nat.le_refl _) _⟩
theorem l1Stmt_9 (ts:List Int) (A:Option Addr) (c:Nat) (d x y n:Int) (t e:Sts) (At Ae:Option Addr) (ct ce:Nat) (w:World) (hd:0≤d) (hd4:d≤4) (HT:1≤d→BodyAt ts A c (d-1) t At ct w) (HE:1≤d→BodyAt ts A c (d-1) e Ae ce w) :
  Calls Tryz.prog 100 #[.slice A ts.length c,.agg #[.int .i64 9,.int .i64 x,.int .i64 y,.int .i64 n,.slice At t.len ct,.slice Ae e.len ce],.int .i64 d] w fun E w'=>E=.returned (.bool (stmtB ts d 9 x y n t e))∧Below w.heap.size w w':=by
 have hb0:=(Below.refl w.heap.size w).alloc (Nat.le_refl _) (.cells #[.int .i64 9,.int .i64 x,.int .i64 y,.int .i64 n,.slice At t.len ct,.slice Ae e.len ce] 121)
 by_cases h1:1≤d
 ·by_cases hx:x=0
  ·by_cases hy:y=0
   ·by_cases hn:n=0
    ·subst hx hy hn
     have c5:(w.alloc (.cells #[.int .i64 9,.int .i64 0,.int .i64 0,.int .i64 0,.slice At t.len ct,.slice Ae e.len ce] 121)).heap[w.heap.size]?=_:=heap_alloc_new w _
     by_cases bt:bodyB ts (d-1) t=true
     ·have e0:stmtB ts d 9 0 0 0 t e=bodyB ts (d-1) e:=by simp [stmtB,h1,bt]
      rw [e0]
      clear e0
      have HC:=Lib.hid c5
      have BT:=Lib.hid bt
      clear c5 bt
      go_enter Tryz.func100,Tryz.ntmps100
      go_wp2_with fail
      refine (HT h1 _ hb0).mono ?_
      rintro E w1 ⟨he,hb1⟩
      rw [BT.out] at he
      subst he
      have hb1':=hb1.block w.heap.size (by simp)
      rw [HC.out] at hb1'
      have d5:w1.cell? ⟨w.heap.size,5,none⟩=some (.slice Ae e.len ce):=(cB hb1' 5).trans rfl
      have hs1:=hb1.size
      have hb:Below w.heap.size w w1:=hb0.trans (hb1.mono (by simp))
      clear hb1' hb1
      go_wp2_with fail
      refine (HE h1 _ hb).mono ?_
      rintro E w2 ⟨he,hb2⟩
      subst he
      go_wp2_with fail
      go_ret
      exact ⟨rfl,hb.trans (hb2.mono (by simp at hs1;omega))⟩
     ·have e0:stmtB ts d 9 0 0 0 t e=false:=by simp [stmtB,bt]
      rw [e0]
      clear e0
      have BT:Hid (bodyB ts (d-1) t=false):=by unfold Hid;simpa using bt
      clear c5 bt
      go_enter Tryz.func100,Tryz.ntmps100
      go_wp2_with fail
      refine (HT h1 _ hb0).mono ?_
      rintro E w1 ⟨he,hb1⟩
      rw [BT.out] at he
      subst he
      go_wp2_with fail
      go_ret
      exact ⟨rfl,hb0.trans (hb1.mono (by simp))⟩
    ·have hn':(n != 0)=true:=by simpa using hn
     have e0:stmtB ts d 9 x y n t e=false:=by simp [stmtB,hn]
     rw [e0]
     clear e0 hb0
     go_enter Tryz.func100,Tryz.ntmps100
     go_wp2_with fail
     go_ret
     exact ⟨rfl,(Below.refl _ _).alloc (Nat.le_refl _) _⟩
   ·have hy':(y != 0)=true:=by simpa using hy
    have e0:stmtB ts d 9 x y n t e=false:=by simp [stmtB,hy]
    rw [e0]
    clear e0 hb0
    go_enter Tryz.func100,Tryz.ntmps100
    go_wp2_with fail
    go_ret
    exact ⟨rfl,(Below.refl _ _).alloc (Nat.le_refl _) _⟩
  ·have hx':(x != 0)=true:=by simpa using hx
   have e0:stmtB ts d 9 x y n t e=false:=by simp [stmtB,hx]
   rw [e0]
   clear e0 hb0
   go_enter Tryz.func100,Tryz.ntmps100
   go_wp2_with fail
   go_ret
   exact ⟨rfl,(Below.refl _ _).alloc (Nat.le_refl _) _⟩
 ·have hd1:d<1:=by omega
  have e0:stmtB ts d 9 x y n t e=false:=by simp [stmtB,h1]
  rw [e0]
  clear e0 hb0
  go_enter Tryz.func100,Tryz.ntmps100
  go_wp2_with fail
  go_ret
  exact ⟨rfl,(Below.refl _ _).alloc (Nat.le_refl _) _⟩
theorem l1Stmt_10 (ts:List Int) (A:Option Addr) (c:Nat) (d x y n:Int) (t e:Sts) (At Ae:Option Addr) (ct ce:Nat) (w:World) (hd:0≤d) (hd4:d≤4) (HT:1≤d→BodyAt ts A c (d-1) t At ct w) (HE:1≤d→BodyAt ts A c (d-1) e Ae ce w) :
  Calls Tryz.prog 100 #[.slice A ts.length c,.agg #[.int .i64 10,.int .i64 x,.int .i64 y,.int .i64 n,.slice At t.len ct,.slice Ae e.len ce],.int .i64 d] w fun E w'=>E=.returned (.bool (stmtB ts d 10 x y n t e))∧Below w.heap.size w w':=by
 have hb0:=(Below.refl w.heap.size w).alloc (Nat.le_refl _) (.cells #[.int .i64 10,.int .i64 x,.int .i64 y,.int .i64 n,.slice At t.len ct,.slice Ae e.len ce] 121)
 by_cases h1:1≤d
 ·by_cases hx:x=0
  ·by_cases hy:y=0
   ·by_cases hn:n=0
    ·subst hx hy hn
     by_cases hl:e.len=0
     ·have HLz:=Lib.hid hl
      have hl0:(e.len:Int)≤0:=by omega
      have c5:(w.alloc (.cells #[.int .i64 10,.int .i64 0,.int .i64 0,.int .i64 0,.slice At t.len ct,.slice Ae e.len ce] 121)).heap[w.heap.size]?=_:=heap_alloc_new w _
      by_cases bt:bodyB ts (d-1) t=true
      ·have e0:stmtB ts d 10 0 0 0 t e=bodyB ts (d-1) e:=by simp [stmtB,h1,bt,hl]
       rw [e0]
       clear e0
       clear hl
       have HC:=Lib.hid c5
       have BT:=Lib.hid bt
       clear c5 bt
       go_enter Tryz.func100,Tryz.ntmps100
       go_wp2_with fail
       refine (HT h1 _ hb0).mono ?_
       rintro E w1 ⟨he,hb1⟩
       rw [BT.out] at he
       subst he
       have hb1':=hb1.block w.heap.size (by simp)
       rw [HC.out] at hb1'
       have d5:w1.cell? ⟨w.heap.size,5,none⟩=some (.slice Ae e.len ce):=(cB hb1' 5).trans rfl
       have hs1:=hb1.size
       have hb:Below w.heap.size w w1:=hb0.trans (hb1.mono (by simp))
       clear hb1' hb1
       go_wp2_with fail
       refine (HE h1 _ hb).mono ?_
       rintro E w2 ⟨he,hb2⟩
       subst he
       go_wp2_with fail
       go_ret
       exact ⟨rfl,hb.trans (hb2.mono (by simp at hs1;omega))⟩
      ·have e0:stmtB ts d 10 0 0 0 t e=false:=by simp [stmtB,bt]
       rw [e0]
       clear e0
       clear hl
       have BT:Hid (bodyB ts (d-1) t=false):=by unfold Hid;simpa using bt
       clear c5 bt
       go_enter Tryz.func100,Tryz.ntmps100
       go_wp2_with fail
       refine (HT h1 _ hb0).mono ?_
       rintro E w1 ⟨he,hb1⟩
       rw [BT.out] at he
       subst he
       go_wp2_with fail
       go_ret
       exact ⟨rfl,hb0.trans (hb1.mono (by simp))⟩
     ·have e0:stmtB ts d 10 0 0 0 t e=false:=by simp [stmtB,hl]
      rw [e0]
      clear e0 hb0
      have hl1:(0:Int)<(e.len:Int):=by omega
      go_enter Tryz.func100,Tryz.ntmps100
      go_wp2_with fail
      go_ret
      exact ⟨rfl,(Below.refl _ _).alloc (Nat.le_refl _) _⟩
    ·have hn':(n != 0)=true:=by simpa using hn
     have e0:stmtB ts d 10 x y n t e=false:=by simp [stmtB,hn]
     rw [e0]
     clear e0 hb0
     go_enter Tryz.func100,Tryz.ntmps100
     go_wp2_with fail
     go_ret
     exact ⟨rfl,(Below.refl _ _).alloc (Nat.le_refl _) _⟩
   ·have hy':(y != 0)=true:=by simpa using hy
    have e0:stmtB ts d 10 x y n t e=false:=by simp [stmtB,hy]
    rw [e0]
    clear e0 hb0
    go_enter Tryz.func100,Tryz.ntmps100
    go_wp2_with fail
    go_ret
    exact ⟨rfl,(Below.refl _ _).alloc (Nat.le_refl _) _⟩
  ·have hx':(x != 0)=true:=by simpa using hx
   have e0:stmtB ts d 10 x y n t e=false:=by simp [stmtB,hx]
   rw [e0]
   clear e0 hb0
   go_enter Tryz.func100,Tryz.ntmps100
   go_wp2_with fail
   go_ret
   exact ⟨rfl,(Below.refl _ _).alloc (Nat.le_refl _) _⟩
 ·have hd1:d<1:=by omega
  have e0:stmtB ts d 10 x y n t e=false:=by simp [stmtB,h1]
  rw [e0]
  clear e0 hb0
  go_enter Tryz.func100,Tryz.ntmps100
  go_wp2_with fail
  go_ret
  exact ⟨rfl,(Below.refl _ _).alloc (Nat.le_refl _) _⟩
end Go.Proofs.YtedkkphogeealaaGreatDoor
