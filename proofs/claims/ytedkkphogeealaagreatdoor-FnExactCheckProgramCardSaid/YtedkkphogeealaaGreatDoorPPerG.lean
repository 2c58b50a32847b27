/- Six sets in memory: one for each variable. -/
import Derived.Test.YtedkkphogeealaaGreatDoorPFlwG
namespace Go.Proofs.YtedkkphogeealaaGreatDoor
open Go.RowKit Go.Deep
set_option linter.unusedVariables false
def perC (x:Nat→Nat):List Value:=[.int .u64 (x 0:Int),.int .u64 (x 1:Int),.int .u64 (x 2:Int),.int .u64 (x 3:Int),.int .u64 (x 4:Int),.int .u64 (x 5:Int)]
theorem perC_get (x:Nat→Nat) {v:Nat} (hv:v<6):(perC x)[v]?=some (.int .u64 (x v:Int)):=by
 match v,hv with
 | 0,_=>rfl
 | 1,_=>rfl
 | 2,_=>rfl
 | 3,_=>rfl
 | 4,_=>rfl
 | 5,_=>rfl
theorem perC_one (x:Nat→Nat):(perC x).toArray.all (·.oneCell')=true:=by simp [perC,Value.oneCell']
def PerAt (w:World) (B:Nat) (x:Nat→Nat):Prop:=∃ cs,w.heap[B]?=some (.cells cs 91 (0,0))∧cs.size=6∧∀ v,v<6→cs[v]?=some (.int .u64 (x v:Int))
theorem PerAt.lt {w:World} {B:Nat} {x:Nat→Nat} (h:PerAt w B x):B<w.heap.size:=by
 obtain ⟨cs,h1,_⟩:=h
 exact heap_lt h1
theorem PerAt.cell {w:World} {B:Nat} {x:Nat→Nat} (h:PerAt w B x) {v:Nat} (hv:v<6):w.cell? ⟨B,v,none⟩=some (.int .u64 (x v:Int)):=by
 obtain ⟨cs,h1,_,h3⟩:=h
 rw [cB h1]
 exact h3 v hv
theorem PerAt.soft {w:World} {B:Nat} {x:Nat→Nat} (h:PerAt w B x) (o:Nat):w.frozen? ⟨B,o,none⟩=false:=by
 obtain ⟨cs,h1,_,_⟩:=h
 exact frozen_of_row _ _ _ _ _ h1
theorem PerAt.same {w w':World} {B:Nat} {x:Nat→Nat} (h:PerAt w B x) (hk:w'.heap[B]?=w.heap[B]?):PerAt w' B x:=by
 unfold PerAt
 rw [hk]
 exact h
theorem PerAt.keep {w w':World} {B:Nat} {x:Nat→Nat} (h:PerAt w B x) (hb:Below w.heap.size w w'):PerAt w' B x:=h.same (hb.block B h.lt)
theorem PerAt.put {w:World} {B:Nat} {x:Nat→Nat} (h:PerAt w B x) {i v:Nat} (hi:i<6):PerAt (w.setCell ⟨B,i,none⟩ (.int .u64 (v:Int))) B (setAt x i v):=by
 obtain ⟨cs,h1,h2,h3⟩:=h
 refine ⟨_,heap_setCell_same w B i cs _ _ h1,by simpa using h2,fun j hj=>?_⟩
 rw [Array.getElem?_setIfInBounds]
 unfold setAt
 by_cases hij:i=j
 ·subst hij
  rw [if_pos rfl,if_pos (by omega),if_pos rfl]
 ·rw [if_neg hij,if_neg (fun e=>hij e.symm)]
  exact h3 j hj
theorem PerAt.congr {w:World} {B:Nat} {x y:Nat→Nat} (h:PerAt w B x) (he:∀ v,v<6→x v=y v):PerAt w B y:=by
 obtain ⟨cs,h1,h2,h3⟩:=h
 exact ⟨cs,h1,h2,fun v hv=>by rw [← he v hv];exact h3 v hv⟩
theorem PerAt.range {w:World} {B:Nat} {x:Nat→Nat} (h:PerAt w B x):w.rangeAt B 0 (perC x):=by
 intro j v hv
 have hj:j<6:=(List.getElem?_eq_some_iff.mp hv).1
 rw [perC_get _ hj] at hv
 rw [Nat.zero_add,h.cell hj,hv]
theorem PerAt.there {w:World} {B:Nat} {x:Nat→Nat} (h:PerAt w B x):w.there B 0 6:=by
 intro j hj
 rw [Nat.zero_add]
 exact ⟨by rw [h.cell hj];rfl,h.soft j⟩
theorem PerAt.new (w:World) (x:Nat→Nat):PerAt (w.alloc (.cells (perC x).toArray 91)) w.heap.size x :=
 ⟨_,heap_alloc_new w _,rfl,fun v hv=>by simpa using perC_get x hv⟩
theorem PerAt.all {w:World} {B:Nat} {x:Nat→Nat} (h:PerAt w B x) (y:Nat→Nat):PerAt (w.setCells B 0 (perC y)) B y:=by
 obtain ⟨cs,h1,h2,h3⟩:=h
 have hz:0+(perC y).length≤cs.size:=by rw [h2];exact Nat.le_refl 6
 refine ⟨_,heap_setCells (perC y) 0 w cs h1 hz,by rw [setN_size];exact h2,fun v hv=>?_⟩
 rw [setN_get _ _ _ _ hz,if_pos (by show 0≤v∧v<0+6;omega),Nat.sub_zero,perC_get _ hv]
theorem load_per {W:World} {g:Nat} {cs:Array Value} (h:W.heap[g]?=some (.cells cs 91 (0,0))) (hz:cs.size=6):(loadVar 91 ⟨g,0,none⟩).run Tryz.prog W=.ok (.agg cs) W :=
 run_loadVar_row _ _ _ _ cs (0,0) _ h Tryz.underlying91 rfl (by rw [hz];kernel_rfl)
theorem results_cell {fn:Func} {p:Tmp} {ty:TypeId} (h:fn.results=#[.cell p ty]) (P:Program) (tmps:Array Value) (w:World) (g:Nat) (cs:Array Value)
  (hp:tmps.getD p undef=.pointer (some ⟨g,0,none⟩)) (hl:(loadVar ty ⟨g,0,none⟩).run P w=.ok (.agg cs) w):(results fn tmps).run P w=.ok (.agg cs) w:=by
 have hp':tmps[p]?.getD undef=.pointer (some ⟨g,0,none⟩):=by simpa using hp
 simp [results,h,hp',asAddr,hl]
theorem heap_setCells_ne (W:World) (b bo o:Nat) (vs:List Value) (h:bo≠b) (hl:bo<W.heap.size):(W.setCells b o vs).heap[bo]?=W.heap[bo]? :=
 World.heap_setCells_other _ _ _ _ (by omega) (by omega)
theorem row_set {W:World} {g:Nat} {t:TypeId} {cs:Array Value} (vs:List Value) (h:W.heap[g]?=some (.cells cs t (0,0))) (hz:cs.size=vs.length):(W.setCells g 0 vs).heap[g]?=some (.cells vs.toArray t (0,0)):=by
 have h3:=heap_setCells vs 0 W cs h (by omega)
 rw [show vs=vs.toArray.toList from rfl,setN_all cs vs.toArray (by simpa using hz)] at h3
 exact h3
theorem row_there {W:World} {g n:Nat} {t:TypeId} {cs:Array Value} (h:W.heap[g]?=some (.cells cs t (0,0))) (hn:cs.size=n):W.there g 0 n:=by
 subst hn
 intro j hj
 refine ⟨?_,frozen_of_row _ _ _ _ _ h⟩
 rw [cB h,Array.getElem?_eq_getElem (by omega)]
 rfl
theorem Gr.ndRange {C:Nat} {w:World} {ns:List Nd} {k:Nat} {d:Nd} (h:Gr C w ns) (hd:ns[k]?=some d):∃ p0 p1:Int,∀ w':World,w'.heap[C]?=w.heap[C]?→w'.rangeAt C (k*7) [.int .i64 d.op,.int .i64 d.x,.int .i64 d.y,.int .i64 d.n,.int .i64 p0,.int .i64 p1,.int .i64 d.next.length]:=by
 obtain ⟨nw,nn,n2,no,nx,ny,nnn⟩:=h.node hd
 have hk:=(List.getElem?_eq_some_iff.mp hd).1
 have hle:=h.le
 obtain ⟨p0,hp0⟩:=h.int_ (j:=k*7+4) (by omega)
 obtain ⟨p1,hp1⟩:=h.int_ (j:=k*7+5) (by omega)
 refine ⟨p0,p1,fun w' hw' j v hv=>?_⟩
 have e:∀ j,w'.cell? ⟨C,j,none⟩=w.cell? ⟨C,j,none⟩:=fun j=>World.cell?_of_block (a:=⟨C,j,none⟩) hw'
 rw [e]
 match j,hv with
 | 0,hv=>simp only [List.getElem?_cons_zero,Option.some.injEq] at hv;rw [← hv];exact no
 | 1,hv=>simp only [List.getElem?_cons_succ,List.getElem?_cons_zero,Option.some.injEq] at hv;rw [← hv];exact nx
 | 2,hv=>simp only [List.getElem?_cons_succ,List.getElem?_cons_zero,Option.some.injEq] at hv;rw [← hv];exact ny
 | 3,hv=>simp only [List.getElem?_cons_succ,List.getElem?_cons_zero,Option.some.injEq] at hv;rw [← hv];exact nnn
 | 4,hv=>simp only [List.getElem?_cons_succ,List.getElem?_cons_zero,Option.some.injEq] at hv;rw [← hv];exact hp0
 | 5,hv=>simp only [List.getElem?_cons_succ,List.getElem?_cons_zero,Option.some.injEq] at hv;rw [← hv];exact hp1
 | 6,hv=>simp only [List.getElem?_cons_succ,List.getElem?_cons_zero,Option.some.injEq] at hv;rw [← hv];exact nw
 | j+7,hv=>simp at hv
theorem FlowsIn.effRange {ts:List Int} {ns:List Nd} {C F hi:Nat} {A:Option Addr} {c:Nat} {ah bk:Nat→Nat} {a:World} (h:FlowsIn ts ns C F hi A c ah bk a) {k:Nat} {d:Nd} (hd:ns[k]?=some d):a.rangeAt F (2+k*4) [.int .u64 ((effD ts d).r:Int),.int .u64 ((effD ts d).t:Int),.int .u64 ((effD ts d).c:Int),.int .u64 ((effD ts d).s:Int)]:=by
 obtain ⟨e1,e2,e3,e4⟩:=h.effCell hd
 intro j v hv
 match j,hv with
 | 0,hv=>simp only [List.getElem?_cons_zero,Option.some.injEq] at hv;rw [← hv];exact e1
 | 1,hv=>simp only [List.getElem?_cons_succ,List.getElem?_cons_zero,Option.some.injEq] at hv;rw [← hv];exact e2
 | 2,hv=>simp only [List.getElem?_cons_succ,List.getElem?_cons_zero,Option.some.injEq] at hv;rw [← hv];exact e3
 | 3,hv=>simp only [List.getElem?_cons_succ,List.getElem?_cons_zero,Option.some.injEq] at hv;rw [← hv];exact e4
 | j+4,hv=>simp at hv
theorem perC_congr {x y:Nat→Nat} (h:∀ v,v<6→x v=y v):perC x=perC y:=by
 unfold perC
 rw [h 0 (by omega),h 1 (by omega),h 2 (by omega),h 3 (by omega),h 4 (by omega),h 5 (by omega)]
theorem PerAt.allRow {w:World} {B:Nat} {x:Nat→Nat} (h:PerAt w B x) (y:Nat→Nat):(w.setCells B 0 (perC y)).heap[B]?=some (.cells (perC y).toArray 91 (0,0)):=by
 obtain ⟨cs,h1,h2,_⟩:=h
 exact row_set (perC y) h1 h2
end Go.Proofs.YtedkkphogeealaaGreatDoor
