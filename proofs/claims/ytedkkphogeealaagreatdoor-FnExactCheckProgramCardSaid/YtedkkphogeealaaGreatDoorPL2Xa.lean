/- The model's points of a program,and its choices. -/
import Derived.Test.YtedkkphogeealaaGreatDoorPPtsX
import Derived.Test.YtedkkphogeealaaGreatDoorPSpecX
import Derived.Test.YtedkkphogeealaaGreatDoorPMem
import Derived.Test.YtedkkphogeealaaGreatDoorPBase
namespace Go.Proofs.YtedkkphogeealaaGreatDoor
open Go.RowKit Go.Deep
set_option linter.unusedVariables false
set_option maxRecDepth 100000
set_option maxHeartbeats 4000000
theorem l2Points_any (ts:List Int) (s:Sts) (At As:Option Addr) (ct cs:Nat) (w:World) (hsz:s.size≤1000000) (hR:RepV w 0 w.heap.size s As cs) :
  Calls Tryz.prog 46 #[.agg #[.slice At ts.length ct,.slice As s.len cs]] w fun E w'=>∃ v,E=.returned v∧PRow w' w.heap.size v (progPts s)∧Below w.heap.size w w':=by
 have hnp:=s.npts_le
 obtain ⟨i0,hi,hz0,hz1,hz2⟩:=info_parts Tryz.infoPoint
 have HI:=Lib.hid hi
 have HZ0:=Lib.hid hz0
 have HZ1:=Lib.hid hz1
 have HZ2:=Lib.hid hz2
 clear hi hz0 hz1 hz2
 have hb0:=((Below.refl w.heap.size w).alloc (Nat.le_refl _) (.cells #[.slice At ts.length ct,.slice As s.len cs] 30)).alloc (by simp) (.cells #[] 75)
 have hP0:PRow ((w.alloc (.cells #[.slice At ts.length ct,.slice As s.len cs] 30)).alloc (.cells #[] 75)) w.heap.size (.slice (some ⟨w.heap.size+1,0,none⟩) 0 0) []:=by
  have:=PRow.nil (w:=(w.alloc (.cells #[.slice At ts.length ct,.slice As s.len cs] 30))) (B:=w.heap.size) (by simp)
  have hz:(w.alloc (.cells #[.slice At ts.length ct,.slice As s.len cs] 30)).heap.size=w.heap.size+1:=by simp
  rw [hz] at this
  exact this
 have hR1:RepV ((w.alloc (.cells #[.slice At ts.length ct,.slice As s.len cs] 30)).alloc (.cells #[] 75)) 0 w.heap.size s As cs:=hR.keep (Nat.le_refl _) (Nat.le_refl _) fun p _ hp=>hb0.cell hp
 have HP0:=Lib.hid hP0
 have HR1:=Lib.hid hR1
 have HN:Hid ((s.pts 0).length=s.npts):=s.pts_len 0
 clear hP0 hR1
 go_enter Tryz.func46,Tryz.ntmps46
 go_wp2_with fail
 refine (l2Add_any (s.size+1) w.heap.size s As cs [] _ _ (by omega) hsz (by simp;omega) HR1.out HP0.out (by simp;omega)).mono ?_
 rintro E w1 ⟨v1,rfl,hP1,hO1⟩
 have HP1:Hid (PRow w1 w.heap.size v1 (s.pts 0)):=hP1
 have HO1:=Lib.hid hO1
 have hw1:w.heap.size≤w1.heap.size:=by have:=hO1.size;simp at this;omega
 obtain ⟨Av,cv,hv⟩:=HP1.out.slice
 rw [HN.out] at hv
 subst hv
 obtain ⟨xs1,ho1,hc1⟩:=HP1.out.parts HN
 have HX1:=Lib.hid ho1
 have HC1:=Lib.hid hc1
 clear hP1 hO1 ho1 hc1
 go_wp2_with (at_builtin;refine wpList_append_lies _ rfl _ _ 69 rfl w.heap.size 75 i0 (.agg #[.int .i64 0,.int .i64 0,.int .i64 0,.int .i64 0,.slice none 0 0]) 5 56 Tryz.underlying69 HI.out HZ0.out HZ1.out HZ2.out rfl (by decide) _ _ _ rfl (HX1.out.alloc _) ⟨_,0,none⟩ 1 1 [.int .i64 11,.int .i64 0,.int .i64 0,.int .i64 0,.slice none 0 0] rfl rfl ?p11 ?p12 (by decide) ?p13 ?p14 ?p15 _ rfl ?_)
 try (case p11=>exact news_cell (by simp) rfl)
 case p12 =>
  intro u hu
  simp only [List.mem_cons,List.not_mem_nil,or_false] at hu
  rcases hu with rfl | rfl | rfl | rfl | rfl <;> rfl
 case p13=>unfold maxLen;omega
 case p14=>omega
 case p15=>simp;omega
 intro g cap w2 hown' hg hat hlt'
 have hbA:=(Below.refl w1.heap.size w1).alloc (Nat.le_refl _) (.cells #[.int .i64 11,.int .i64 0,.int .i64 0,.int .i64 0,.slice none 0 0] 75)
 obtain ⟨hP',hO'⟩:=PRow.appended_at (d:=⟨11,0,0,0,[]⟩) HN (HX1.out.alloc _) (fun k d hd=>(HC1.out k d hd).kept (below_grown hbA) (fun g e=>by cases e)) (.inl ⟨rfl,rfl⟩) hg (hat.imp id fun e=>e.trans (by simp)) hown'
 have HP2:Hid (PRow w2 w.heap.size (.slice (some ⟨g,0,none⟩) (s.npts+1) cap) (progPts s)):=hP'
 have hb2:Below w.heap.size w w2:=hb0.trans ((HO1.out.trans ((Onto.of_below hbA _).trans hO')).below HP0.out (by simp;omega))
 clear hown' hg hat hbA hP' hO' HX1 HC1 HO1 HP1
 go_wp2_with fail
 go_ret
 exact ⟨_,rfl,HP2.out,hb2⟩
def pointsB (ok:Bool) (s:Sts):List Nd:=if ok then progPts s else []
theorem NextV.row {w:World} {B:Nat} {u:Value} {next:List Int} (h:NextV w B u next) (hl:next.length≤2):RowI w B u next:=by
 rcases h with ⟨rfl,rfl⟩ | ⟨g,rfl,h2,h3⟩
 ·exact World.ownsRow_nil w B 3 1
 ·refine ⟨by simp,.inr ⟨g,next.length,_,rfl,h2,h3,Nat.le_refl _,by unfold maxLen;omega,by simp,?_⟩⟩
  rw [List.toList_toArray,Nat.mul_one]
  exact List.take_of_length_le (by simp)
theorem Tryz.infoBool:(Tryz.prog.info? 4).map (fun i=>(i.zero,i.size,i.bytes))=some (some (.bool false),1,1):=by kernel_rfl
def FlAt (w:World) (F n:Nat) (fl:Nat→Bool):Prop:=∃ cs,w.heap[F]?=some (.cells cs 4 (0,0))∧cs.size=n∧∀ i,i<n→cs[i]?=some (.bool (fl i))
theorem FlAt.cell {w:World} {F n:Nat} {fl:Nat→Bool} (h:FlAt w F n fl) {i:Nat} (hi:i<n):w.cell? ⟨F,i,none⟩=some (.bool (fl i)):=by
 obtain ⟨cs,h1,_,h3⟩:=h
 rw [cB h1]
 exact h3 i hi
theorem FlAt.soft {w:World} {F n:Nat} {fl:Nat→Bool} (h:FlAt w F n fl) (i:Nat):w.frozen? ⟨F,i,none⟩=false:=by
 obtain ⟨cs,h1,_,_⟩:=h
 exact frozen_of_row _ _ _ _ _ h1
theorem FlAt.keep {w w':World} {F n:Nat} {fl:Nat→Bool} (h:FlAt w F n fl) (hk:w'.heap[F]?=w.heap[F]?):FlAt w' F n fl:=by
 unfold FlAt
 rw [hk]
 exact h
def setFl (fl:Nat→Bool) (b:Nat):Nat→Bool:=fun i=>if i=b then true else fl i
theorem FlAt.put {w:World} {F n:Nat} {fl:Nat→Bool} (h:FlAt w F n fl) {b:Nat} (hb:b<n):FlAt (w.setCell ⟨F,b,none⟩ (.bool true)) F n (setFl fl b):=by
 obtain ⟨cs,h1,h2,h3⟩:=h
 refine ⟨_,heap_setCell_same w F b cs _ _ h1,by simp [h2],fun j hj=>?_⟩
 rw [Array.getElem?_setIfInBounds]
 unfold setFl
 by_cases hij:b=j
 ·subst hij
  rw [if_pos rfl,if_pos (by omega),if_pos rfl]
 ·rw [if_neg hij,if_neg (fun h=>hij h.symm)]
  exact h3 j hj
def offB:Option Value→Bool
 | some (.bool false)=>true
 | _=>false
def offs (w:World) (F n:Nat):Nat:=((List.range n).filter fun i=>offB (w.cell? ⟨F,i,none⟩)).length
theorem FlAt.offs {w:World} {F n:Nat} {fl:Nat→Bool} (h:FlAt w F n fl):offs w F n=((List.range n).filter fun i=>!fl i).length:=by
 unfold Proofs.YtedkkphogeealaaGreatDoor.offs
 congr 1
 apply List.filter_congr
 intro i hi
 rw [h.cell (List.mem_range.mp hi)]
 cases fl i <;> rfl
end Go.Proofs.YtedkkphogeealaaGreatDoor
