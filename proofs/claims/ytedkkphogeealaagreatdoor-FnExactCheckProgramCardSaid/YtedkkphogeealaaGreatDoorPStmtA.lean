/- The program's check of one statement. -/
import Derived.Test.YtedkkphogeealaaGreatDoorPKindsB
import Derived.Deep.RegionHeld3
import Derived.Deep.RegionWith
namespace Go.Proofs.YtedkkphogeealaaGreatDoor
open Go.RowKit Go.Deep
set_option linter.unusedVariables false
structure Chk (C:Nat) (vs:Value) (w w':World) (m':Int):Prop where
 os:w'.os=w.os
 tape:w'.tape=w.tape
 output:w'.output=w.output
 size:w.heap.size≤w'.heap.size
 block:∀ k,k<w.heap.size→k≠C→w'.heap[k]?=w.heap[k]?
 cell:w'.heap[C]?=some (.cells #[vs,.int .i64 m'] 180 (0,0))
theorem held_S {C B K:Nat} {w1 wo w':World} {vs b0 b1 b2 b3 b4 b5:Value} (hb:Below wo.heap.size wo w') (h:Below K w1 wo) (hK:K=w1.heap.size) (hC:C<w1.heap.size) (hB:B<w1.heap.size) (k0:w1.cell? ⟨C,0,none⟩=some vs)
  (q0:w1.cell? ⟨B,0,none⟩=some b0) (q1:w1.cell? ⟨B,1,none⟩=some b1) (q2:w1.cell? ⟨B,2,none⟩=some b2) (q3:w1.cell? ⟨B,3,none⟩=some b3) (q4:w1.cell? ⟨B,4,none⟩=some b4) (q5:w1.cell? ⟨B,5,none⟩=some b5) :
  Below K w1 w'∧w'.cell? ⟨C,0,none⟩=some vs∧w'.cell? ⟨B,0,none⟩=some b0∧w'.cell? ⟨B,1,none⟩=some b1∧w'.cell? ⟨B,2,none⟩=some b2∧w'.cell? ⟨B,3,none⟩=some b3∧w'.cell? ⟨B,4,none⟩=some b4∧w'.cell? ⟨B,5,none⟩=some b5:=by
 subst hK
 have hbb:Below w1.heap.size w1 w':=h.trans (hb.mono h.size)
 exact ⟨hbb,(hbb.cell hC).trans k0,(hbb.cell hB).trans q0,(hbb.cell hB).trans q1,(hbb.cell hB).trans q2,(hbb.cell hB).trans q3,(hbb.cell hB).trans q4,(hbb.cell hB).trans q5⟩
theorem ahead_1 (v:Value) (w:World):(nilAhead 368 234 v "loop.example/borrowcheck/impl.fits").run Tryz.prog w=.ok (some false) w:=by kernel_rfl
theorem fitsAt_1 (v:Value) (w:World):(method 368 234 v "loop.example/borrowcheck/impl.fits").run Tryz.prog w=.ok (172,v) w:=by kernel_rfl
theorem plainAt_1 (v:Value) (w:World):(method 368 234 v "loop.example/borrowcheck/impl.plain").run Tryz.prog w=.ok (173,v) w:=by kernel_rfl
theorem ahead_2 (v:Value) (w:World):(nilAhead 368 235 v "loop.example/borrowcheck/impl.fits").run Tryz.prog w=.ok (some false) w:=by kernel_rfl
theorem fitsAt_2 (v:Value) (w:World):(method 368 235 v "loop.example/borrowcheck/impl.fits").run Tryz.prog w=.ok (176,v) w:=by kernel_rfl
theorem plainAt_2 (v:Value) (w:World):(method 368 235 v "loop.example/borrowcheck/impl.plain").run Tryz.prog w=.ok (177,v) w:=by kernel_rfl
theorem ahead_3 (v:Value) (w:World):(nilAhead 368 237 v "loop.example/borrowcheck/impl.fits").run Tryz.prog w=.ok (some false) w:=by kernel_rfl
theorem fitsAt_3 (v:Value) (w:World):(method 368 237 v "loop.example/borrowcheck/impl.fits").run Tryz.prog w=.ok (179,v) w:=by kernel_rfl
theorem plainAt_3 (v:Value) (w:World):(method 368 237 v "loop.example/borrowcheck/impl.plain").run Tryz.prog w=.ok (180,v) w:=by kernel_rfl
theorem ahead_4 (v:Value) (w:World):(nilAhead 368 238 v "loop.example/borrowcheck/impl.fits").run Tryz.prog w=.ok (some false) w:=by kernel_rfl
theorem fitsAt_4 (v:Value) (w:World):(method 368 238 v "loop.example/borrowcheck/impl.fits").run Tryz.prog w=.ok (182,v) w:=by kernel_rfl
theorem plainAt_4 (v:Value) (w:World):(method 368 238 v "loop.example/borrowcheck/impl.plain").run Tryz.prog w=.ok (183,v) w:=by kernel_rfl
theorem ahead_5 (v:Value) (w:World):(nilAhead 368 239 v "loop.example/borrowcheck/impl.fits").run Tryz.prog w=.ok (some false) w:=by kernel_rfl
theorem fitsAt_5 (v:Value) (w:World):(method 368 239 v "loop.example/borrowcheck/impl.fits").run Tryz.prog w=.ok (186,v) w:=by kernel_rfl
theorem plainAt_5 (v:Value) (w:World):(method 368 239 v "loop.example/borrowcheck/impl.plain").run Tryz.prog w=.ok (187,v) w:=by kernel_rfl
theorem ahead_6 (v:Value) (w:World):(nilAhead 368 240 v "loop.example/borrowcheck/impl.fits").run Tryz.prog w=.ok (some false) w:=by kernel_rfl
theorem fitsAt_6 (v:Value) (w:World):(method 368 240 v "loop.example/borrowcheck/impl.fits").run Tryz.prog w=.ok (189,v) w:=by kernel_rfl
theorem plainAt_6 (v:Value) (w:World):(method 368 240 v "loop.example/borrowcheck/impl.plain").run Tryz.prog w=.ok (190,v) w:=by kernel_rfl
theorem ahead_7 (v:Value) (w:World):(nilAhead 368 241 v "loop.example/borrowcheck/impl.fits").run Tryz.prog w=.ok (some false) w:=by kernel_rfl
theorem fitsAt_7 (v:Value) (w:World):(method 368 241 v "loop.example/borrowcheck/impl.fits").run Tryz.prog w=.ok (192,v) w:=by kernel_rfl
theorem plainAt_7 (v:Value) (w:World):(method 368 241 v "loop.example/borrowcheck/impl.plain").run Tryz.prog w=.ok (193,v) w:=by kernel_rfl
theorem ahead_8 (v:Value) (w:World):(nilAhead 368 243 v "loop.example/borrowcheck/impl.fits").run Tryz.prog w=.ok (some false) w:=by kernel_rfl
theorem fitsAt_8 (v:Value) (w:World):(method 368 243 v "loop.example/borrowcheck/impl.fits").run Tryz.prog w=.ok (195,v) w:=by kernel_rfl
theorem plainAt_8 (v:Value) (w:World):(method 368 243 v "loop.example/borrowcheck/impl.plain").run Tryz.prog w=.ok (196,v) w:=by kernel_rfl
theorem ahead_9 (v:Value) (w:World):(nilAhead 368 245 v "loop.example/borrowcheck/impl.fits").run Tryz.prog w=.ok (some false) w:=by kernel_rfl
theorem fitsAt_9 (v:Value) (w:World):(method 368 245 v "loop.example/borrowcheck/impl.fits").run Tryz.prog w=.ok (198,v) w:=by kernel_rfl
theorem plainAt_9 (v:Value) (w:World):(method 368 245 v "loop.example/borrowcheck/impl.plain").run Tryz.prog w=.ok (199,v) w:=by kernel_rfl
theorem ahead_10 (v:Value) (w:World):(nilAhead 368 247 v "loop.example/borrowcheck/impl.fits").run Tryz.prog w=.ok (some false) w:=by kernel_rfl
theorem fitsAt_10 (v:Value) (w:World):(method 368 247 v "loop.example/borrowcheck/impl.fits").run Tryz.prog w=.ok (201,v) w:=by kernel_rfl
theorem plainAt_10 (v:Value) (w:World):(method 368 247 v "loop.example/borrowcheck/impl.plain").run Tryz.prog w=.ok (202,v) w:=by kernel_rfl
theorem chk_mk {C:Nat} {vs:Value} {w w1 wn:World} {o:Obj} {m m':Int} (hlt:C<w.heap.size) (HC:w.heap[C]?=some (.cells #[vs,.int .i64 m] 180 (0,0)))
  (hb1:Below (w.heap.size+1) ((w.setCell ⟨C,1,none⟩ (.int .i64 m')).alloc o) w1) (hbn:Below w1.heap.size w1 wn):Chk C vs w wn m':=by
 have hs1:=hb1.size
 have hz:((w.setCell ⟨C,1,none⟩ (.int .i64 m')).alloc o).heap.size=w.heap.size+1:=by simp [World.setCell]
 rw [hz] at hs1
 have hs2:=hbn.size
 refine ⟨hbn.os.trans hb1.os,hbn.tape.trans hb1.tape,hbn.output.trans hb1.output,by omega,fun k hk hne=>?_,?_⟩
 ·exact (hbn.block k (by omega)).trans ((hb1.block k (by omega)).trans ((Below.heap_alloc _ _ k (by simp [World.setCell];omega)).trans (Below.heap_setCell _ _ _ _ (by simpa using hne))))
 ·exact (hbn.block C (by omega)).trans ((hb1.block C (by omega)).trans ((Below.heap_alloc _ _ C (by simp [World.setCell];omega)).trans (block_set HC 1 _)))
end Go.Proofs.YtedkkphogeealaaGreatDoor
