/- PathsFrom and PathsTo at any program and number,the program's. -/
import Derived.Test.YtopibompapopiaaGreatDoorQPathX
namespace Go.Proofs.YtopibompapopiaaGreatDoor
open Go.RowKit Go.Deep
set_option linter.unusedVariables false
theorem IsPaths.toB {R:Nat→Prop} {l:List Int} (h:IsPaths R l):IsPathsB R l:=by
 obtain ⟨y,rfl,h2⟩:=h
 refine ⟨fun k=>y.testBit k,?_,h2⟩
 unfold intsOf
 rw [bitsOf_filter]
def AnsPathsFrom (ok:Bool) (s:Sts) (a:Int) (l:List Int):Prop :=
 (ok=true∧0≤a∧a<((progPts s).length:Int)∧IsPathsB (Reach (nextN (progPts s)) a.toNat) l)∨(¬ (ok=true∧0≤a∧a<((progPts s).length:Int))∧l=[])
theorem implPathsFrom_any (ts:List Int) (s:Sts) (At As:Option Addr) (ct cs:Nat) (a:Int) (w:World) (hT:IntsV w 0 w.heap.size ts At ct) (hR:RepV w 0 w.heap.size s As cs)
  (hTab:TabAt 0 Lib.deBruijn64tab w) (hg:0<w.heap.size) :
  Calls Tryz.prog 33 #[.agg #[.slice At ts.length ct,.slice As s.len cs],.int .i64 a] w fun E w'=>∃ v l,E=.returned v∧RowI w' w.heap.size v l∧AnsPathsFrom (validB ts s) s a l∧Below w.heap.size w w':=by
 by_cases h:validB ts s=true∧0≤a∧a<((progPts s).length:Int)
 ·obtain ⟨h1,h2,h3⟩:=h
  obtain ⟨n,rfl⟩:∃ n:Nat,a=(n:Int):=⟨a.toNat,by omega⟩
  refine (implPathsFrom_yes ts s At As ct cs n w h1 (by omega) hT hR hTab hg).mono ?_
  rintro E w' ⟨v,l,rfl,hv,hl,hb⟩
  exact ⟨v,l,rfl,hv,.inl ⟨h1,h2,h3,by have:=hl.toB;simpa using this⟩,hb⟩
 ·have hno:validB ts s=false∨a<0∨((progPts s).length:Int)≤a:=by
   cases hv:validB ts s
   ·exact .inl rfl
   ·refine .inr ?_
    by_cases h0:a<0
    ·exact .inl h0
    ·refine .inr ?_
     rcases Int.lt_or_le a ((progPts s).length:Int) with h1 | h1
     ·exact absurd ⟨hv,by omega,h1⟩ h
     ·exact h1
  refine (implPathsFrom_no ts s At As ct cs a w hno hT hR).mono ?_
  rintro E w' ⟨v,rfl,hv,hb⟩
  exact ⟨v,[],rfl,hv,.inr ⟨h,rfl⟩,hb⟩
def AnsPathsTo (ok:Bool) (s:Sts) (a:Int) (l:List Int):Prop :=
 (ok=true∧0≤a∧a<((progPts s).length:Int)∧IsPathsB (fun x=>Reach (nextN (progPts s)) x a.toNat) l)∨(¬ (ok=true∧0≤a∧a<((progPts s).length:Int))∧l=[])
theorem AnsPathsTo.length {ok:Bool} {s:Sts} {a:Int} {l:List Int} (h:AnsPathsTo ok s a l):l.length≤64:=by
 rcases h with ⟨_,_,_,p,rfl,_⟩ | ⟨_,rfl⟩
 ·have:=List.length_filter_le p (List.range 64)
  simpa using this
 ·simp
theorem implPathsTo_any (ts:List Int) (s:Sts) (At As:Option Addr) (ct cs:Nat) (a:Int) (w:World) (hT:IntsV w 0 w.heap.size ts At ct) (hR:RepV w 0 w.heap.size s As cs)
  (hTab:TabAt 0 Lib.deBruijn64tab w) (hg:0<w.heap.size) :
  Calls Tryz.prog 23 #[.agg #[.slice At ts.length ct,.slice As s.len cs],.int .i64 a] w fun E w'=>∃ v l,E=.returned v∧RowI w' w.heap.size v l∧AnsPathsTo (validB ts s) s a l∧Below w.heap.size w w':=by
 by_cases h:validB ts s=true∧0≤a∧a<((progPts s).length:Int)
 ·obtain ⟨h1,h2,h3⟩:=h
  obtain ⟨n,rfl⟩:∃ n:Nat,a=(n:Int):=⟨a.toNat,by omega⟩
  refine (implPathsTo_yes ts s At As ct cs n w h1 (by omega) hT hR hTab hg).mono ?_
  rintro E w' ⟨v,l,rfl,hv,hl,hb⟩
  exact ⟨v,l,rfl,hv,.inl ⟨h1,h2,h3,by have:=hl.toB;simpa using this⟩,hb⟩
 ·have hno:validB ts s=false∨a<0∨((progPts s).length:Int)≤a:=by
   cases hv:validB ts s
   ·exact .inl rfl
   ·refine .inr ?_
    by_cases h0:a<0
    ·exact .inl h0
    ·refine .inr ?_
     rcases Int.lt_or_le a ((progPts s).length:Int) with h1 | h1
     ·exact absurd ⟨hv,by omega,h1⟩ h
     ·exact h1
  refine (implPathsTo_no ts s At As ct cs a w hno hT hR).mono ?_
  rintro E w' ⟨v,rfl,hv,hb⟩
  exact ⟨v,[],rfl,hv,.inr ⟨h,rfl⟩,hb⟩
end Go.Proofs.YtopibompapopiaaGreatDoor
