/-
  Whatever the bytes: a new cell can be written by its pointer, and read. Conditions: the sentinel errors read as the program's text lays them.
-/
import Derived.Test.YtfkoobdlhdolbaaDoorKN
import Derived.WalkKit
import Derived.ProofKit
import Derived.OpenShut
import Derived.Lib.SmallJoins
import Derived.Test.YtfkoobdlhdolbaaDoorRows
import Derived.Test.YtfkoobdlhdolbaaDoorCards
import Derived.Test.YtfkoobdlhdolbaaDoorTie
import Derived.LaidMore
import Derived.MakeChecks
import Derived.SevenTiedAt
import Derived.Stop.LaidErr
namespace Go.Proofs.YtfkoobdlhdolbaaDoor.fnNewCell
open Go.ChangeShapes Go.WideShapes Go.ChangeAt Go.RowKit Go.Deep Go.Joins
set_option linter.unusedVariables false

/-- What the row lists. -/
def listed : List (String × DataW Unit) := [("loop.example/borrowcheck/impl.errFreed", Rows.laid_loop_example_borrowcheck_impl_errFreed), ("loop.example/borrowcheck/impl.errLost", Rows.laid_loop_example_borrowcheck_impl_errLost), ("loop.example/borrowcheck/impl.errReadonly", Rows.laid_loop_example_borrowcheck_impl_errReadonly), ("loop.example/borrowcheck/impl.errInvalid", Rows.laid_loop_example_borrowcheck_impl_errInvalid)]
theorem own : ownKnob Tryd.prog.godebug = none := by kernel_rfl
theorem laidOut : laidOutB Tryd.prog = true := by kernel_rfl
theorem gF : Tryd.prog.globalNamed "loop.example/borrowcheck/impl.errFreed" = some 1 := by kernel_rfl
theorem tF : (Tryd.prog.globals[1]?).map (·.type) = some 68 := by kernel_rfl
theorem gL : Tryd.prog.globalNamed "loop.example/borrowcheck/impl.errLost" = some 2 := by kernel_rfl
theorem tL : (Tryd.prog.globals[2]?).map (·.type) = some 68 := by kernel_rfl
theorem gR : Tryd.prog.globalNamed "loop.example/borrowcheck/impl.errReadonly" = some 3 := by kernel_rfl
theorem tR : (Tryd.prog.globals[3]?).map (·.type) = some 68 := by kernel_rfl
theorem gI : Tryd.prog.globalNamed "loop.example/borrowcheck/impl.errInvalid" = some 0 := by kernel_rfl
theorem tI : (Tryd.prog.globals[0]?).map (·.type) = some 68 := by kernel_rfl
theorem star : "*" ++ "errors.errorString" = "*errors.errorString" := by decide
theorem rowE (u : TypeId) (h : Tryd.prog.typeName? 3 u = some "*errors.errorString") : u = 157 :=
  typeName_ptr_named (nm := "errors.errorString") (by rw [star]; kernel_rfl) (by kernel_rfl) (by decide) u (by rw [star]; exact h)
theorem cellsS : Tryd.prog.cellsOf 180 = 1 := by kernel_rfl
theorem cellsStr : Tryd.prog.cellsOf 9 = 1 := by kernel_rfl

theorem var_below {W W' : World} {n : String} {g : Nat} {cs : Array Value} (hg : Tryd.prog.globalNamed n = some g) (bel : Below W.heap.size W W') (h : W.var? Tryd.prog n = some cs) : W'.var? Tryd.prog n = some cs := by
  unfold World.var? at h ⊢
  simp only [hg, Option.bind_some] at h ⊢
  cases hc : W.heap[g]? with
  | none => rw [hc] at h; cases h
  | some o => rw [bel.block g (heap_lt hc), hc]; rw [hc] at h; exact h

theorem door_met (os : Os) (args : Array Value) : laidMetH Tryd.prog listed ((World.doorLaid Tryd.prog 400 os).forCall (fun _ _ => 0) ⟨#[], args, []⟩).memory :=
  laidMetH_of_parts3 (fuel := 8) (laidMet_of_run' 8 (by kernel_rfl) (by kernel_rfl)) (by kernel_rfl) (by kernel_rfl)

set_option maxRecDepth 100000 in
/-- What the listed sentinels give. -/
theorem four {W : World} (h : laidMet Tryd.prog listed W) : ∃ aF aL aR aI : Addr, W.var? Tryd.prog "loop.example/borrowcheck/impl.errFreed" = some #[.iface 157 (.pointer (some aF))] ∧ W.var? Tryd.prog "loop.example/borrowcheck/impl.errLost" = some #[.iface 157 (.pointer (some aL))] ∧ W.var? Tryd.prog "loop.example/borrowcheck/impl.errReadonly" = some #[.iface 157 (.pointer (some aR))] ∧ W.var? Tryd.prog "loop.example/borrowcheck/impl.errInvalid" = some #[.iface 157 (.pointer (some aI))] ∧ Errs W aI aF aL aR := by
  obtain ⟨ps, ⟨g0', t0', cs0, f0, p0, q0, hg0', ht0', hv0, hd0, ⟨g1', t1', cs1, f1, p1, q1, hg1', ht1', hv1, hd1, ⟨g2', t2', cs2, f2, p2, q2, hg2', ht2', hv2, hd2, ⟨g3', t3', cs3, f3, p3, q3, hg3', ht3', hv3, hd3, _, e3⟩, e2⟩, e1⟩, e0⟩, hnd, hrows⟩ := h
  obtain rfl := Option.some.inj (gF.symm.trans hg0')
  obtain rfl := Option.some.inj (tF.symm.trans ht0')
  obtain rfl := Option.some.inj (gL.symm.trans hg1')
  obtain rfl := Option.some.inj (tL.symm.trans ht1')
  obtain rfl := Option.some.inj (gR.symm.trans hg2')
  obtain rfl := Option.some.inj (tR.symm.trans ht2')
  obtain rfl := Option.some.inj (gI.symm.trans hg3')
  obtain rfl := Option.some.inj (tI.symm.trans ht3')
  subst e3
  subst e2
  subst e1
  subst e0
  obtain ⟨l0⟩ := cs0
  obtain ⟨l1⟩ := cs1
  obtain ⟨l2⟩ := cs2
  obtain ⟨l3⟩ := cs3
  have ok0 : ∀ u v, l0 = [.iface u v] → Value.okWide Tryd.prog W .any 0 u v := fun u v e => by
    subst e
    exact (hrows 1 0 (by simp [MemPlace.row])).2 u v (by simpa using World.var?_cell gF hv0 0)
  have ok1 : ∀ u v, l1 = [.iface u v] → Value.okWide Tryd.prog W .any 0 u v := fun u v e => by
    subst e
    exact (hrows 2 0 (by simp [MemPlace.row])).2 u v (by simpa using World.var?_cell gL hv1 0)
  have ok2 : ∀ u v, l2 = [.iface u v] → Value.okWide Tryd.prog W .any 0 u v := fun u v e => by
    subst e
    exact (hrows 3 0 (by simp [MemPlace.row])).2 u v (by simpa using World.var?_cell gR hv2 0)
  have ok3 : ∀ u v, l3 = [.iface u v] → Value.okWide Tryd.prog W .any 0 u v := fun u v e => by
    subst e
    exact (hrows 0 0 (by simp [MemPlace.row])).2 u v (by simpa using World.var?_cell gI hv3 0)
  obtain ⟨a0, s0, rfl, hc0, hs0, hz0, rfl⟩ := errorString_of_trod Tryd.underlying68 rowE Tryd.underlying157 Tryd.underlying180 rfl rfl Tryd.underlying9 cellsS cellsStr hd0 ok0
  obtain ⟨a1, s1, rfl, hc1, hs1, hz1, rfl⟩ := errorString_of_trod Tryd.underlying68 rowE Tryd.underlying157 Tryd.underlying180 rfl rfl Tryd.underlying9 cellsS cellsStr hd1 ok1
  obtain ⟨a2, s2, rfl, hc2, hs2, hz2, rfl⟩ := errorString_of_trod Tryd.underlying68 rowE Tryd.underlying157 Tryd.underlying180 rfl rfl Tryd.underlying9 cellsS cellsStr hd2 ok2
  obtain ⟨a3, s3, rfl, hc3, hs3, hz3, rfl⟩ := errorString_of_trod Tryd.underlying68 rowE Tryd.underlying157 Tryd.underlying180 rfl rfl Tryd.underlying9 cellsS cellsStr hd3 ok3
  obtain ⟨c0, ty0, hb0⟩ := (hrows a0.block a0.off (by simp [MemPlace.row])).1
  obtain ⟨c1, ty1, hb1⟩ := (hrows a1.block a1.off (by simp [MemPlace.row])).1
  obtain ⟨c2, ty2, hb2⟩ := (hrows a2.block a2.off (by simp [MemPlace.row])).1
  obtain ⟨c3, ty3, hb3⟩ := (hrows a3.block a3.off (by simp [MemPlace.row])).1
  exact ⟨a0, a1, a2, a3, hv0, hv1, hv2, hv3, ⟨(by simpa using World.var?_cell gI hv3 0), (by simpa using World.var?_cell gF hv0 0), (by simpa using World.var?_cell gL hv1 0), (by simpa using World.var?_cell gR hv2 0), ⟨c3, ty3, hb3⟩, ⟨c0, ty0, hb0⟩, ⟨c1, ty1, hb1⟩, ⟨c2, ty2, hb2⟩, (by rintro rfl; simp [MemPlace.row] at hnd), (by rintro rfl; simp [MemPlace.row] at hnd), (by rintro rfl; simp [MemPlace.row] at hnd), (by rintro rfl; simp [MemPlace.row] at hnd), (by rintro rfl; simp [MemPlace.row] at hnd), (by rintro rfl; simp [MemPlace.row] at hnd)⟩⟩

theorem read4 {H : Type} (enc : TypeId × Value → H) {W : World} {x0 x1 x2 x3 : Value} (h0 : W.var? Tryd.prog "loop.example/borrowcheck/impl.errInvalid" = some #[x0]) (i0 : IsIface x0) (h1 : W.var? Tryd.prog "loop.example/borrowcheck/impl.errFreed" = some #[x1]) (i1 : IsIface x1) (h2 : W.var? Tryd.prog "loop.example/borrowcheck/impl.errLost" = some #[x2]) (i2 : IsIface x2) (h3 : W.var? Tryd.prog "loop.example/borrowcheck/impl.errReadonly" = some #[x3]) (i3 : IsIface x3) (sp : Nat → Bool) :
    DataW.TrodVars enc Tryd.prog W sp ["loop.example/borrowcheck/impl.errInvalid", "loop.example/borrowcheck/impl.errFreed", "loop.example/borrowcheck/impl.errLost", "loop.example/borrowcheck/impl.errReadonly"] [tok enc x0, tok enc x1, tok enc x2, tok enc x3] [.cell 0 0, .cell 1 0, .cell 2 0, .cell 3 0] :=
  ⟨0, 68, #[x0], 1, [], [.cell 1 0, .cell 2 0, .cell 3 0], gI, tI, h0, trod_held Tryd.underlying68 i0 0, ⟨1, 68, #[x1], 1, [], [.cell 2 0, .cell 3 0], gF, tF, h1, trod_held Tryd.underlying68 i1 0, ⟨2, 68, #[x2], 1, [], [.cell 3 0], gL, tL, h2, trod_held Tryd.underlying68 i2 0, ⟨3, 68, #[x3], 1, [], [], gR, tR, h3, trod_held Tryd.underlying68 i3 0, rfl, rfl⟩, rfl⟩, rfl⟩, rfl⟩

theorem cellsByte : Tryd.prog.cellsOf 5 = 1 := by kernel_rfl

theorem read_bytes {H : Type} {enc : TypeId × Value → H} {W : World} {spare : Nat → Bool} {held : Bool} {fuel : Nat} {v : Value} {x : DataW H × List MemPlace} (h : DataW.trod enc Tryd.prog W 0 spare held fuel 22 [v] = some x) :
    ∃ (n : Nat) (A : Option Addr) (c : Nat), v = .slice A n c ∧ ByteV W W.heap.size n A c := by
  rcases DataW.trod_slice Tryd.underlying22 h with ⟨hcs, _⟩ | ⟨a, len, cap, elems, rest, n, _, hcs, _, _, hl, hm, hlen, hel, _⟩
  · injection hcs with hcs _
    exact ⟨0, none, 0, hcs, by simp, by simp [maxLen], fun h => absurd h (by simp)⟩
  · injection hcs with hcs _
    have hex : ∀ i, i < len → ∃ z : Int, W.cell? (a.add i) = some (.int .u8 z) ∧ 0 ≤ z ∧ z ≤ 255 := by
      intro i hi
      have h1 := hel i hi
      rw [cellsByte, Nat.mul_one, List.getElem?_eq_getElem (by omega)] at h1
      obtain ⟨cs', hc, ht⟩ := Option.bind_eq_some_iff.1 h1
      obtain ⟨_, _, hat⟩ := World.cells?_some hc
      obtain ⟨z, rfl, _, hwf⟩ := DataW.trod_int Tryd.underlying5 ht
      have hz : 0 ≤ z ∧ z ≤ 255 := by simpa [Lit.wf, IntKind.min, IntKind.max, IntKind.signed, IntKind.bits] using hwf
      exact ⟨z, by simpa [Addr.add] using hat 0 (by omega), hz.1, hz.2⟩
    refine ⟨len, some a, cap, hcs, hl, hm, fun h0 => ⟨a, rfl, ?_, hex⟩⟩
    obtain ⟨z, hz, _⟩ := hex 0 h0
    have := World.block_lt_of_cell? W _ hz
    rwa [block_add] at this

set_option maxRecDepth 100000 in
theorem lifted (os : Os) (started : os.Started) (H : Type) (enc : TypeId × Value → H) :
    ReturnsInHanded {} Tryd.checked os 8 .any (fun w args => (Rows.fnNewCellSpec.pre enc Tryd.prog Tryd.f8 [] false w args ∧ laidMetH Tryd.prog listed w) ∧ sizedMet enc Tryd.prog Tryd.f8 (OpenSpec.ofChange Rows.fnNewCellSpec) false w args)
      (Rows.fnNewCellSpec.post enc Tryd.prog Tryd.f8 false true false false) := by
  refine returnsInHanded_of_change_and (C := Tryd.checked) (X := fun w _ => laidMetH Tryd.prog listed w) (fun _ _ _ hh h => h.of_heap hh) own started (by kernel_rfl) Tryd.func8
    (ChangeSpec.witness_shaped (enc := enc) (C := Tryd.checked) (os := os) (X := fun w _ => laidMetH Tryd.prog listed w) false (World.doorLaid Tryd.prog 400 os) #[.slice none 0 0] 8 rfl (World.shaped_of_RefB (by kernel_rfl) (by kernel_rfl)) (by kernel_rfl) (by kernel_rfl) (by kernel_rfl) (door_met os _)) ?_
  intro W base args ds gs before hval0 hW _ _ hL _
  have hval : ∀ (j : Nat) t v, Tryd.f8.params[j]? = some t → args[j]? = some v → Value.okWide Tryd.prog W .any base t v := hval0
  have hW' := hW
  obtain ⟨p, q, hA0, hV0, rfl, hfz, hnd⟩ := hW
  have hA : DataW.TrodAll enc Tryd.prog W 0 (fun _ => true) true Tryd.f8.params.toList args.toList ds p := hA0
  have hV : DataW.TrodVars enc Tryd.prog W (fun _ => true) ["loop.example/borrowcheck/impl.errInvalid", "loop.example/borrowcheck/impl.errFreed", "loop.example/borrowcheck/impl.errLost", "loop.example/borrowcheck/impl.errReadonly"] gs q := hV0
  rw [Tryd.params8] at hA hval
  obtain ⟨v0, vs0, d0, ds0, p0, q0, hargs, rfl, rfl, h0, r0⟩ := trodAll_cons hA
  obtain ⟨rfl, rfl, rfl⟩ := trodAll_nil r0
  obtain rfl : args = #[v0] := by cases args; simp_all
  have k0 := h0
  have lt0 : ∀ x ∈ p0, x.block < W.heap.size := by obtain ⟨m, hm⟩ := k0; exact DataW.trod_lt m _ _ _ hm
  obtain ⟨a0, len0, cap0, rfl⟩ := okWide_slice Tryd.underlying22 (hval 0 22 v0 rfl rfl)
  obtain ⟨fu0, hf0⟩ := h0
  obtain ⟨nb0, At0, ct0, hv0, hT0⟩ := read_bytes hf0
  injection hv0 with hv0 hv0' hv0''
  subst hv0 hv0' hv0''
  rw [MakeChecks.laidMetH_plain _ _ _ (by kernel_rfl)] at hL
  obtain ⟨aF, aL, aR, aI, hvF, hvL, hvR, hvI, hE⟩ := four hL
  obtain ⟨rfl, rfl⟩ := hV.unique (read4 enc hvI trivial hvF trivial hvL trivial hvR trivial _)
  clear hA0 hV0 hval0
  refine (walkFnNewCell _ _ _ W aI aF aL aR hT0 hE).mono fun e W' ⟨he, bel⟩ => ?_
  subst he
  exact ⟨_, rfl, _, _, _, [], _, [.cell 0 0, .cell 1 0, .cell 2 0, .cell 3 0], hW', trodAll_mk1 (shut_bool Tryd.underlying4 _), (trodAll_cons_mk (Below.trod laidOut (by kernel_rfl) (of_decide_eq_true (by kernel_rfl)) k0 bel lt0) trodAll_mk0),
    read4 enc (var_below gI bel hvI) trivial (var_below gF bel hvF) trivial (var_below gL bel hvL) trivial (var_below gR bel hvR) trivial _, bel.frame _, fun h => by cases h⟩

theorem over : Rows.fnNewCellRow.holds Tryd.pinned (OpenSpec.ofChange Rows.fnNewCellSpec) :=
  OpenClaim.holds_of_wide 8 Tryd.f8 rfl rfl rfl rfl rfl rfl rfl ⟨rfl, rfl, rfl, rfl, rfl⟩ rfl rfl rfl rfl rfl (by kernel_rfl) Tryd.func8 (by kernel_rfl)
    (of_decide_eq_true (by kernel_rfl)) (by unfold Func.isWrapper; first | (rw [if_pos (by decide +kernel)]; kernel_rfl) | (rw [if_neg (by decide +kernel)]; exact ⟨rfl, rfl⟩))
    (fun os started H enc _ => lifted os started H enc)

set_option maxRecDepth 100000 in
theorem proved : Rows.FnNewCellCardSaid :=
  Claim7.holds_tied_plain_at .later [] [.sentinel, .sentinel, .sentinel, .sentinel] true (true, "ef0a6b46a13899e6d5fb8fbb7cd4d455e8c83eb546ffe413f2875ba205ed6704") true
    over (fun _ h => by cases h) (by kernel_rfl) (fun _ h => by cases h) fnNewCell_row_tie rfl ⟨rfl, rfl⟩ (by kernel_rfl) rfl
    (fun f fn hf hfn => by
      obtain rfl : f = 8 := Option.some.inj ((show Tryd.prog.funcNamed "loop.example/borrowcheck/laws.FnNewCell" = some 8 by kernel_rfl).symm.trans hf) |>.symm
      obtain rfl : fn = Tryd.f8 := (Option.some.inj (Tryd.func8.symm.trans hfn)).symm
      exact ⟨by kernel_rfl, fun j t ht => by
        rw [Tryd.params8] at ht
        have hm : t ∈ [22] := by simpa using Array.mem_of_getElem? ht
        have hall : ([22].all fun u => !Tryd.prog.wantsStandIn u) = true := by kernel_rfl
        exact (show Tryd.prog.wantsStandIn t = false by simpa using List.all_eq_true.1 hall t hm)⟩)
    (by kernel_rfl)
#print axioms proved
end Go.Proofs.YtfkoobdlhdolbaaDoor.fnNewCell
