/- The program's kinds of statements: their plain statements,the comparison without lists,a -/
import Derived.Test.YtedkkphogeealaaGreatDoorPKinds
namespace Go.Proofs.YtedkkphogeealaaGreatDoor
open Go.RowKit Go.Deep
set_option linter.unusedVariables false
set_option maxHeartbeats 2000000
theorem plain_1 (x n:Int) (w:World) :
  Calls Tryz.prog 173 #[.agg #[.int .i64 x,.int .i64 n]] w fun e w'=>e=.returned (.agg #[.int .i64 1,.int .i64 x,.int .i64 0,.int .i64 n,.slice none 0 0,.slice none 0 0])∧Below w.heap.size w w':=by
 go_enter Tryz.func173,Tryz.ntmps173
 go_wp2_with fail
 refine bodyPost_ret (v:=.agg #[.int .i64 1,.int .i64 x,.int .i64 0,.int .i64 n,.slice none 0 0,.slice none 0 0]) (by simp [results,Tryz.results173,go_sem]) rfl ⟨rfl,?_⟩
 repeat (first | exact Below.refl _ _ | refine Below.setCell ?_ (by simp) _ | refine Below.alloc ?_ (by simp) _)
theorem plain_2 (x n:Int) (w:World) :
  Calls Tryz.prog 177 #[.agg #[.int .i64 x,.int .i64 n]] w fun e w'=>e=.returned (.agg #[.int .i64 2,.int .i64 x,.int .i64 0,.int .i64 n,.slice none 0 0,.slice none 0 0])∧Below w.heap.size w w':=by
 go_enter Tryz.func177,Tryz.ntmps177
 go_wp2_with fail
 refine bodyPost_ret (v:=.agg #[.int .i64 2,.int .i64 x,.int .i64 0,.int .i64 n,.slice none 0 0,.slice none 0 0]) (by simp [results,Tryz.results177,go_sem]) rfl ⟨rfl,?_⟩
 repeat (first | exact Below.refl _ _ | refine Below.setCell ?_ (by simp) _ | refine Below.alloc ?_ (by simp) _)
theorem plain_3 (x y:Int) (w:World) :
  Calls Tryz.prog 180 #[.agg #[.int .i64 x,.int .i64 y]] w fun e w'=>e=.returned (.agg #[.int .i64 3,.int .i64 x,.int .i64 y,.int .i64 0,.slice none 0 0,.slice none 0 0])∧Below w.heap.size w w':=by
 go_enter Tryz.func180,Tryz.ntmps180
 go_wp2_with fail
 refine bodyPost_ret (v:=.agg #[.int .i64 3,.int .i64 x,.int .i64 y,.int .i64 0,.slice none 0 0,.slice none 0 0]) (by simp [results,Tryz.results180,go_sem]) rfl ⟨rfl,?_⟩
 repeat (first | exact Below.refl _ _ | refine Below.setCell ?_ (by simp) _ | refine Below.alloc ?_ (by simp) _)
theorem plain_4 (x y:Int) (w:World) :
  Calls Tryz.prog 183 #[.agg #[.int .i64 x,.int .i64 y]] w fun e w'=>e=.returned (.agg #[.int .i64 4,.int .i64 x,.int .i64 y,.int .i64 0,.slice none 0 0,.slice none 0 0])∧Below w.heap.size w w':=by
 go_enter Tryz.func183,Tryz.ntmps183
 go_wp2_with fail
 refine bodyPost_ret (v:=.agg #[.int .i64 4,.int .i64 x,.int .i64 y,.int .i64 0,.slice none 0 0,.slice none 0 0]) (by simp [results,Tryz.results183,go_sem]) rfl ⟨rfl,?_⟩
 repeat (first | exact Below.refl _ _ | refine Below.setCell ?_ (by simp) _ | refine Below.alloc ?_ (by simp) _)
theorem plain_5 (x y:Int) (w:World) :
  Calls Tryz.prog 187 #[.agg #[.int .i64 x,.int .i64 y]] w fun e w'=>e=.returned (.agg #[.int .i64 5,.int .i64 x,.int .i64 y,.int .i64 0,.slice none 0 0,.slice none 0 0])∧Below w.heap.size w w':=by
 go_enter Tryz.func187,Tryz.ntmps187
 go_wp2_with fail
 refine bodyPost_ret (v:=.agg #[.int .i64 5,.int .i64 x,.int .i64 y,.int .i64 0,.slice none 0 0,.slice none 0 0]) (by simp [results,Tryz.results187,go_sem]) rfl ⟨rfl,?_⟩
 repeat (first | exact Below.refl _ _ | refine Below.setCell ?_ (by simp) _ | refine Below.alloc ?_ (by simp) _)
theorem plain_6 (x y:Int) (w:World) :
  Calls Tryz.prog 190 #[.agg #[.int .i64 x,.int .i64 y]] w fun e w'=>e=.returned (.agg #[.int .i64 6,.int .i64 x,.int .i64 y,.int .i64 0,.slice none 0 0,.slice none 0 0])∧Below w.heap.size w w':=by
 go_enter Tryz.func190,Tryz.ntmps190
 go_wp2_with fail
 refine bodyPost_ret (v:=.agg #[.int .i64 6,.int .i64 x,.int .i64 y,.int .i64 0,.slice none 0 0,.slice none 0 0]) (by simp [results,Tryz.results190,go_sem]) rfl ⟨rfl,?_⟩
 repeat (first | exact Below.refl _ _ | refine Below.setCell ?_ (by simp) _ | refine Below.alloc ?_ (by simp) _)
theorem plain_7 (x y:Int) (w:World) :
  Calls Tryz.prog 193 #[.agg #[.int .i64 x,.int .i64 y]] w fun e w'=>e=.returned (.agg #[.int .i64 7,.int .i64 x,.int .i64 y,.int .i64 0,.slice none 0 0,.slice none 0 0])∧Below w.heap.size w w':=by
 go_enter Tryz.func193,Tryz.ntmps193
 go_wp2_with fail
 refine bodyPost_ret (v:=.agg #[.int .i64 7,.int .i64 x,.int .i64 y,.int .i64 0,.slice none 0 0,.slice none 0 0]) (by simp [results,Tryz.results193,go_sem]) rfl ⟨rfl,?_⟩
 repeat (first | exact Below.refl _ _ | refine Below.setCell ?_ (by simp) _ | refine Below.alloc ?_ (by simp) _)
theorem plain_8 (x:Int) (w:World) :
  Calls Tryz.prog 196 #[.agg #[.int .i64 x]] w fun e w'=>e=.returned (.agg #[.int .i64 8,.int .i64 x,.int .i64 0,.int .i64 0,.slice none 0 0,.slice none 0 0])∧Below w.heap.size w w':=by
 go_enter Tryz.func196,Tryz.ntmps196
 go_wp2_with fail
 refine bodyPost_ret (v:=.agg #[.int .i64 8,.int .i64 x,.int .i64 0,.int .i64 0,.slice none 0 0,.slice none 0 0]) (by simp [results,Tryz.results196,go_sem]) rfl ⟨rfl,?_⟩
 repeat (first | exact Below.refl _ _ | refine Below.setCell ?_ (by simp) _ | refine Below.alloc ?_ (by simp) _)
theorem plain_9 (At Ae:Option Addr) (nt ct ne ce:Nat) (w:World) :
  Calls Tryz.prog 199 #[.agg #[.slice At nt ct,.slice Ae ne ce]] w fun e w'=>e=.returned (.agg #[.int .i64 9,.int .i64 0,.int .i64 0,.int .i64 0,.slice At nt ct,.slice Ae ne ce])∧Below w.heap.size w w':=by
 go_enter Tryz.func199,Tryz.ntmps199
 go_wp2_with fail
 refine bodyPost_ret (v:=.agg #[.int .i64 9,.int .i64 0,.int .i64 0,.int .i64 0,.slice At nt ct,.slice Ae ne ce]) (by simp [results,Tryz.results199,go_sem]) rfl ⟨rfl,?_⟩
 repeat (first | exact Below.refl _ _ | refine Below.setCell ?_ (by simp) _ | refine Below.alloc ?_ (by simp) _)
theorem plain_10 (At:Option Addr) (nt ct:Nat) (w:World) :
  Calls Tryz.prog 202 #[.agg #[.slice At nt ct]] w fun e w'=>e=.returned (.agg #[.int .i64 10,.int .i64 0,.int .i64 0,.int .i64 0,.slice At nt ct,.slice none 0 0])∧Below w.heap.size w w':=by
 go_enter Tryz.func202,Tryz.ntmps202
 go_wp2_with fail
 refine bodyPost_ret (v:=.agg #[.int .i64 10,.int .i64 0,.int .i64 0,.int .i64 0,.slice At nt ct,.slice none 0 0]) (by simp [results,Tryz.results202,go_sem]) rfl ⟨rfl,?_⟩
 repeat (first | exact Below.refl _ _ | refine Below.setCell ?_ (by simp) _ | refine Below.alloc ?_ (by simp) _)
theorem fits_9 (At Ae:Option Addr) (nt ct ne ce:Nat) (v:Value) (w:World):Calls Tryz.prog 198 #[.agg #[.slice At nt ct,.slice Ae ne ce],v] w fun e w'=>e=.returned (.bool true)∧Below w.heap.size w w':=by
 go_enter Tryz.func198,Tryz.ntmps198
 go_wp2_with fail
 go_ret
 exact ⟨rfl,by first | exact Below.refl _ _ | exact (Below.refl _ _).alloc (Nat.le_refl _) _⟩
theorem fits_10 (At:Option Addr) (nt ct:Nat) (v:Value) (w:World):Calls Tryz.prog 201 #[.agg #[.slice At nt ct],v] w fun e w'=>e=.returned (.bool true)∧Below w.heap.size w w':=by
 go_enter Tryz.func201,Tryz.ntmps201
 go_wp2_with fail
 go_ret
 exact ⟨rfl,by first | exact Below.refl _ _ | exact (Below.refl _ _).alloc (Nat.le_refl _) _⟩
def sameB (op op' x x' y y' n n':Int) (nt nt' ne ne':Nat):Bool:=decide (op=op'∧x=x'∧y=y'∧n=n'∧nt=nt'∧ne=ne')
theorem sameOutside_any (op op' x x' y y' n n':Int) (At Ae At' Ae':Option Addr) (nt nt' ne ne' ct ce ct' ce':Nat) (w:World) :
  Calls Tryz.prog 138 #[.agg #[.int .i64 op,.int .i64 x,.int .i64 y,.int .i64 n,.slice At nt ct,.slice Ae ne ce],.agg #[.int .i64 op',.int .i64 x',.int .i64 y',.int .i64 n',.slice At' nt' ct',.slice Ae' ne' ce']] w fun e w'=>e=.returned (.bool (sameB op op' x x' y y' n n' nt nt' ne ne'))∧Below w.heap.size w w':=by
 by_cases h0:op=op'
 ·subst h0
  by_cases h1:x=x'
  ·subst h1
   by_cases h2:y=y'
   ·subst h2
    by_cases h3:n=n'
    ·subst h3
     by_cases h4:nt=nt'
     ·subst h4
      by_cases h5:ne=ne'
      ·subst h5
       have e0:sameB op op x x y y n n nt nt ne ne=true:=by simp [sameB]
       rw [e0]
       clear e0
       go_enter Tryz.func138,Tryz.ntmps138
       go_wp2_with fail
       go_ret
       exact ⟨rfl,((Below.refl _ _).alloc (Nat.le_refl _) _).alloc (by simp) _⟩
      ·have k5:((ne:Int)==(ne':Int))=false:=by simp;omega
       have e0:sameB op op x x y y n n nt nt ne ne'=false:=by simp [sameB,h5]
       rw [e0]
       clear e0
       go_enter Tryz.func138,Tryz.ntmps138
       go_wp2_with fail
       go_ret
       exact ⟨rfl,((Below.refl _ _).alloc (Nat.le_refl _) _).alloc (by simp) _⟩
     ·have k4:((nt:Int)==(nt':Int))=false:=by simp;omega
      have e0:sameB op op x x y y n n nt nt' ne ne'=false:=by simp [sameB,h4]
      rw [e0]
      clear e0
      go_enter Tryz.func138,Tryz.ntmps138
      go_wp2_with fail
      go_ret
      exact ⟨rfl,((Below.refl _ _).alloc (Nat.le_refl _) _).alloc (by simp) _⟩
    ·have k3:(n==n')=false:=by simpa using h3
     have e0:sameB op op x x y y n n' nt nt' ne ne'=false:=by simp [sameB,h3]
     rw [e0]
     clear e0
     go_enter Tryz.func138,Tryz.ntmps138
     go_wp2_with fail
     go_ret
     exact ⟨rfl,((Below.refl _ _).alloc (Nat.le_refl _) _).alloc (by simp) _⟩
   ·have k2:(y==y')=false:=by simpa using h2
    have e0:sameB op op x x y y' n n' nt nt' ne ne'=false:=by simp [sameB,h2]
    rw [e0]
    clear e0
    go_enter Tryz.func138,Tryz.ntmps138
    go_wp2_with fail
    go_ret
    exact ⟨rfl,((Below.refl _ _).alloc (Nat.le_refl _) _).alloc (by simp) _⟩
  ·have k1:(x==x')=false:=by simpa using h1
   have e0:sameB op op x x' y y' n n' nt nt' ne ne'=false:=by simp [sameB,h1]
   rw [e0]
   clear e0
   go_enter Tryz.func138,Tryz.ntmps138
   go_wp2_with fail
   go_ret
   exact ⟨rfl,((Below.refl _ _).alloc (Nat.le_refl _) _).alloc (by simp) _⟩
 ·have k0:(op==op')=false:=by simpa using h0
  have e0:sameB op op' x x' y y' n n' nt nt' ne ne'=false:=by simp [sameB,h0]
  rw [e0]
  clear e0
  go_enter Tryz.func138,Tryz.ntmps138
  go_wp2_with fail
  go_ret
  exact ⟨rfl,((Below.refl _ _).alloc (Nat.le_refl _) _).alloc (by simp) _⟩
theorem kindOf_1 (x y n:Int) (At Ae:Option Addr) (nt ct ne ce:Nat) (w:World) :
  Calls Tryz.prog 137 #[.agg #[.int .i64 1,.int .i64 x,.int .i64 y,.int .i64 n,.slice At nt ct,.slice Ae ne ce]] w fun e w'=>e=.returned (.tuple #[.iface 234 (.agg #[.int .i64 x,.int .i64 n]),.bool true])∧Below w.heap.size w w':=by
 go_enter Tryz.func137,Tryz.ntmps137
 go_wp2_with fail
 go_ret2
 exact ⟨rfl,(Below.refl _ _).alloc (Nat.le_refl _) _⟩
theorem kindOf_2 (x y n:Int) (At Ae:Option Addr) (nt ct ne ce:Nat) (w:World) :
  Calls Tryz.prog 137 #[.agg #[.int .i64 2,.int .i64 x,.int .i64 y,.int .i64 n,.slice At nt ct,.slice Ae ne ce]] w fun e w'=>e=.returned (.tuple #[.iface 235 (.agg #[.int .i64 x,.int .i64 n]),.bool true])∧Below w.heap.size w w':=by
 go_enter Tryz.func137,Tryz.ntmps137
 go_wp2_with fail
 go_ret2
 exact ⟨rfl,(Below.refl _ _).alloc (Nat.le_refl _) _⟩
theorem kindOf_3 (x y n:Int) (At Ae:Option Addr) (nt ct ne ce:Nat) (w:World) :
  Calls Tryz.prog 137 #[.agg #[.int .i64 3,.int .i64 x,.int .i64 y,.int .i64 n,.slice At nt ct,.slice Ae ne ce]] w fun e w'=>e=.returned (.tuple #[.iface 237 (.agg #[.int .i64 x,.int .i64 y]),.bool true])∧Below w.heap.size w w':=by
 go_enter Tryz.func137,Tryz.ntmps137
 go_wp2_with fail
 go_ret2
 exact ⟨rfl,(Below.refl _ _).alloc (Nat.le_refl _) _⟩
theorem kindOf_4 (x y n:Int) (At Ae:Option Addr) (nt ct ne ce:Nat) (w:World) :
  Calls Tryz.prog 137 #[.agg #[.int .i64 4,.int .i64 x,.int .i64 y,.int .i64 n,.slice At nt ct,.slice Ae ne ce]] w fun e w'=>e=.returned (.tuple #[.iface 238 (.agg #[.int .i64 x,.int .i64 y]),.bool true])∧Below w.heap.size w w':=by
 go_enter Tryz.func137,Tryz.ntmps137
 go_wp2_with fail
 go_ret2
 exact ⟨rfl,(Below.refl _ _).alloc (Nat.le_refl _) _⟩
theorem kindOf_5 (x y n:Int) (At Ae:Option Addr) (nt ct ne ce:Nat) (w:World) :
  Calls Tryz.prog 137 #[.agg #[.int .i64 5,.int .i64 x,.int .i64 y,.int .i64 n,.slice At nt ct,.slice Ae ne ce]] w fun e w'=>e=.returned (.tuple #[.iface 239 (.agg #[.int .i64 x,.int .i64 y]),.bool true])∧Below w.heap.size w w':=by
 go_enter Tryz.func137,Tryz.ntmps137
 go_wp2_with fail
 go_ret2
 exact ⟨rfl,(Below.refl _ _).alloc (Nat.le_refl _) _⟩
theorem kindOf_6 (x y n:Int) (At Ae:Option Addr) (nt ct ne ce:Nat) (w:World) :
  Calls Tryz.prog 137 #[.agg #[.int .i64 6,.int .i64 x,.int .i64 y,.int .i64 n,.slice At nt ct,.slice Ae ne ce]] w fun e w'=>e=.returned (.tuple #[.iface 240 (.agg #[.int .i64 x,.int .i64 y]),.bool true])∧Below w.heap.size w w':=by
 go_enter Tryz.func137,Tryz.ntmps137
 go_wp2_with fail
 go_ret2
 exact ⟨rfl,(Below.refl _ _).alloc (Nat.le_refl _) _⟩
theorem kindOf_7 (x y n:Int) (At Ae:Option Addr) (nt ct ne ce:Nat) (w:World) :
  Calls Tryz.prog 137 #[.agg #[.int .i64 7,.int .i64 x,.int .i64 y,.int .i64 n,.slice At nt ct,.slice Ae ne ce]] w fun e w'=>e=.returned (.tuple #[.iface 241 (.agg #[.int .i64 x,.int .i64 y]),.bool true])∧Below w.heap.size w w':=by
 go_enter Tryz.func137,Tryz.ntmps137
 go_wp2_with fail
 go_ret2
 exact ⟨rfl,(Below.refl _ _).alloc (Nat.le_refl _) _⟩
theorem kindOf_8 (x y n:Int) (At Ae:Option Addr) (nt ct ne ce:Nat) (w:World) :
  Calls Tryz.prog 137 #[.agg #[.int .i64 8,.int .i64 x,.int .i64 y,.int .i64 n,.slice At nt ct,.slice Ae ne ce]] w fun e w'=>e=.returned (.tuple #[.iface 243 (.agg #[.int .i64 x]),.bool true])∧Below w.heap.size w w':=by
 go_enter Tryz.func137,Tryz.ntmps137
 go_wp2_with fail
 go_ret2
 exact ⟨rfl,(Below.refl _ _).alloc (Nat.le_refl _) _⟩
theorem kindOf_9 (x y n:Int) (At Ae:Option Addr) (nt ct ne ce:Nat) (w:World) :
  Calls Tryz.prog 137 #[.agg #[.int .i64 9,.int .i64 x,.int .i64 y,.int .i64 n,.slice At nt ct,.slice Ae ne ce]] w fun e w'=>e=.returned (.tuple #[.iface 245 (.agg #[.slice At nt ct,.slice Ae ne ce]),.bool true])∧Below w.heap.size w w':=by
 go_enter Tryz.func137,Tryz.ntmps137
 go_wp2_with fail
 go_ret2
 exact ⟨rfl,(Below.refl _ _).alloc (Nat.le_refl _) _⟩
theorem kindOf_10 (x y n:Int) (At Ae:Option Addr) (nt ct ne ce:Nat) (w:World) :
  Calls Tryz.prog 137 #[.agg #[.int .i64 10,.int .i64 x,.int .i64 y,.int .i64 n,.slice At nt ct,.slice Ae ne ce]] w fun e w'=>e=.returned (.tuple #[.iface 247 (.agg #[.slice At nt ct]),.bool true])∧Below w.heap.size w w':=by
 go_enter Tryz.func137,Tryz.ntmps137
 go_wp2_with fail
 go_ret2
 exact ⟨rfl,(Below.refl _ _).alloc (Nat.le_refl _) _⟩
theorem kindOf_0 (op x y n:Int) (At Ae:Option Addr) (nt ct ne ce:Nat) (w:World) (h1:(op==1)=false) (h2:(op==2)=false) (h3:(op==3)=false) (h4:(op==4)=false) (h5:(op==5)=false) (h6:(op==6)=false) (h7:(op==7)=false) (h8:(op==8)=false) (h9:(op==9)=false) (h10:(op==10)=false) :
  Calls Tryz.prog 137 #[.agg #[.int .i64 op,.int .i64 x,.int .i64 y,.int .i64 n,.slice At nt ct,.slice Ae ne ce]] w fun e w'=>e=.returned (.tuple #[.nilIface,.bool false])∧Below w.heap.size w w':=by
 go_enter Tryz.func137,Tryz.ntmps137
 go_wp2_with fail
 go_ret2
 exact ⟨rfl,(Below.refl _ _).alloc (Nat.le_refl _) _⟩
end Go.Proofs.YtedkkphogeealaaGreatDoor
