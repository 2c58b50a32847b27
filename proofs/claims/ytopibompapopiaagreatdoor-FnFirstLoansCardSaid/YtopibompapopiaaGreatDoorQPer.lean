/- Six sets in memory: one for each variable. -/
import Derived.Test.YtopibompapopiaaGreatDoorQLplG
namespace Go.Proofs.YtopibompapopiaaGreatDoor
open Go.RowKit Go.Deep
set_option linter.unusedVariables false
def PerAt (w:World) (B:Nat) (x:Nat→Nat):Prop:=∃ cs,w.heap[B]?=some (.cells cs 59 (0,0))∧cs.size=6∧∀ v,v<6→cs[v]?=some (.int .u64 (x v:Int))
theorem PerAt.lt {w:World} {B:Nat} {x:Nat→Nat} (h:PerAt w B x):B<w.heap.size:=by
 obtain ⟨cs,h1,_⟩:=h
 exact heap_lt h1
theorem PerAt.cell {w:World} {B:Nat} {x:Nat→Nat} (h:PerAt w B x) {v:Nat} (hv:v<6):w.cell? ⟨B,v,none⟩=some (.int .u64 (x v:Int)):=by
 obtain ⟨cs,h1,_,h3⟩:=h
 rw [cB h1]
 exact h3 v hv
theorem PerAt.soft {w:World} {B:Nat} {x:Nat→Nat} (h:PerAt w B x) (o:Nat):w.frozen? ⟨B,o,none⟩=false:=by
 obtain ⟨cs,h1,_,_⟩:=h
 exact frozen_of_row _ _ _ _ _ h1
theorem PerAt.same {w w':World} {B:Nat} {x:Nat→Nat} (h:PerAt w B x) (hk:w'.heap[B]?=w.heap[B]?):PerAt w' B x:=by
 unfold PerAt
 rw [hk]
 exact h
theorem PerAt.keep {w w':World} {B:Nat} {x:Nat→Nat} (h:PerAt w B x) (hb:Below w.heap.size w w'):PerAt w' B x:=h.same (hb.block B h.lt)
theorem PerAt.put {w:World} {B:Nat} {x:Nat→Nat} (h:PerAt w B x) {i v:Nat} (hi:i<6):PerAt (w.setCell ⟨B,i,none⟩ (.int .u64 (v:Int))) B (setAt x i v):=by
 obtain ⟨cs,h1,h2,h3⟩:=h
 refine ⟨_,heap_setCell_same w B i cs _ _ h1,by simpa using h2,fun j hj=>?_⟩
 rw [Array.getElem?_setIfInBounds]
 unfold setAt
 by_cases hij:i=j
 ·subst hij
  rw [if_pos rfl,if_pos (by omega),if_pos rfl]
 ·rw [if_neg hij,if_neg (fun e=>hij e.symm)]
  exact h3 j hj
theorem PerAt.congr {w:World} {B:Nat} {x y:Nat→Nat} (h:PerAt w B x) (he:∀ v,v<6→x v=y v):PerAt w B y:=by
 obtain ⟨cs,h1,h2,h3⟩:=h
 exact ⟨cs,h1,h2,fun v hv=>by rw [← he v hv];exact h3 v hv⟩
theorem PerAt.range {w:World} {B:Nat} {x:Nat→Nat} (h:PerAt w B x):w.rangeAt B 0 (perC x):=by
 intro j v hv
 have hj:j<6:=(List.getElem?_eq_some_iff.mp hv).1
 rw [perC_get _ hj] at hv
 rw [Nat.zero_add,h.cell hj,hv]
theorem PerAt.there {w:World} {B:Nat} {x:Nat→Nat} (h:PerAt w B x):w.there B 0 6:=by
 intro j hj
 rw [Nat.zero_add]
 exact ⟨by rw [h.cell hj];rfl,h.soft j⟩
theorem PerAt.new (w:World) (x:Nat→Nat):PerAt (w.alloc (.cells (perC x).toArray 59)) w.heap.size x :=
 ⟨_,heap_alloc_new w _,rfl,fun v hv=>by simpa using perC_get x hv⟩
theorem PerAt.all {w:World} {B:Nat} {x:Nat→Nat} (h:PerAt w B x) (y:Nat→Nat):PerAt (w.setCells B 0 (perC y)) B y:=by
 obtain ⟨cs,h1,h2,h3⟩:=h
 have hz:0+(perC y).length≤cs.size:=by rw [h2];exact Nat.le_refl 6
 refine ⟨_,heap_setCells (perC y) 0 w cs h1 hz,by rw [setN_size];exact h2,fun v hv=>?_⟩
 rw [setN_get _ _ _ _ hz,if_pos (by show 0≤v∧v<0+6;omega),Nat.sub_zero,perC_get _ hv]
theorem load_per {W:World} {g:Nat} {cs:Array Value} (h:W.heap[g]?=some (.cells cs 59 (0,0))) (hz:cs.size=6):(loadVar 59 ⟨g,0,none⟩).run Tryz.prog W=.ok (.agg cs) W :=
 run_loadVar_row _ _ _ _ cs (0,0) _ h Tryz.underlying59 rfl (by rw [hz];kernel_rfl)
theorem load_lent {W:World} {g:Nat} {cs:Array Value} (h:W.heap[g]?=some (.cells cs 62 (0,0))) (hz:cs.size=7):(loadVar 62 ⟨g,0,none⟩).run Tryz.prog W=.ok (.agg cs) W :=
 run_loadVar_row _ _ _ _ cs (0,0) _ h Tryz.underlying62 rfl (by rw [hz];kernel_rfl)
theorem results_cell {fn:Func} {p:Tmp} {ty:TypeId} (h:fn.results=#[.cell p ty]) (P:Program) (tmps:Array Value) (w:World) (g:Nat) (cs:Array Value)
  (hp:tmps.getD p undef=.pointer (some ⟨g,0,none⟩)) (hl:(loadVar ty ⟨g,0,none⟩).run P w=.ok (.agg cs) w):(results fn tmps).run P w=.ok (.agg cs) w:=by
 have hp':tmps[p]?.getD undef=.pointer (some ⟨g,0,none⟩):=by simpa using hp
 simp [results,h,hp',asAddr,hl]
end Go.Proofs.YtopibompapopiaaGreatDoor
