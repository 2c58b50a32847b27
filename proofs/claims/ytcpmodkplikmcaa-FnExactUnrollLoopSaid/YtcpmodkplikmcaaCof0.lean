/-
  The model's deep copy of a program: rows of its own.
-/
import Derived.Test.YtcpmodkplikmcaaCpy0
import Derived.Deep.RegionHeld3
namespace Go.Proofs.Ytcpmodkplikmcaa
open Go.RowKit Go.Deep
set_option linter.unusedVariables false

def heldC (w : World) (p : Addr) : Value := (w.cell? p).getD (.bool false)

theorem intsV_news {w : World} {lo hi : Nat} {xs : List Int} {a : Addr} {c : Nat} (h : IntsV w lo hi xs (some a) c) : ∀ j u, (xs.map (Value.int .i64))[j]? = some u → w.cell? (a.add j) = some u := by
  intro j u hu
  rw [List.getElem?_map] at hu
  obtain ⟨x, hx, rfl⟩ := Option.map_eq_some_iff.1 hu
  have hj := (List.getElem?_eq_some_iff.1 hx).1
  obtain ⟨b, hb, _, _, hc⟩ := h.2.2 (by omega)
  injection hb with hb
  subst hb
  exact hc j x hx

theorem run_append_ints (w : World) (B : Nat) (v : Value) (xs : List Int) (A : Option Addr) (c : Nat) (ts : List Int) (hown : RowI w B v xs) (hu : IntsV w 0 w.heap.size ts A c) (hl : xs.length + ts.length ≤ 2000000) (hB : B ≤ w.heap.size) :
    ∃ v' w', (Builtin.append_ #[22, 22] 22 #[v, .slice A ts.length c]).run Try.prog w = .ok v' w' ∧ RowI w' B v' (xs ++ ts) ∧ w.grownBy w' v.ownBlock ∧ (v'.ownBlock = v.ownBlock ∨ v'.ownBlock = some w.heap.size) := by
  obtain ⟨i0, hi, hz0, hz1, hz2⟩ := info_parts Try.infoInt
  cases A with
  | none =>
    have h0 : ts = [] := by
      cases ts with
      | nil => rfl
      | cons t ts =>
        obtain ⟨b, hb, _⟩ := hu.2.2 (by simp)
        cases hb
    subst h0
    refine ⟨v, w, ?_, by rw [List.append_nil]; exact hown, ⟨rfl, rfl, rfl, Nat.le_refl _, fun _ _ _ => rfl⟩, .inl rfl⟩
    have ht := Try.underlying22
    rcases hown.2 with ⟨rfl, e0⟩ | ⟨g, cap, cur, rfl, _, _, hnc, _⟩
    · simp [Builtin.append_, run_underlying ht, sizeOf, typeInfo, hi, Builtin.lenOf, Builtin.firstCells]
    · simp [Builtin.append_, run_underlying ht, sizeOf, typeInfo, hi, Builtin.lenOf, Builtin.firstCells, hnc, storeCells]
  | some a =>
    obtain ⟨v', w', hr, k1, k2, _, k4⟩ := run_append_own_at (P := Try.prog) w B 22 22 3 i0 (.int .i64 0) 1 8 Try.underlying22 hi hz0 hz1 hz2 rfl (by decide) v xs.length (xs.map (Value.int .i64)) hown a ts.length c (ts.map (Value.int .i64))
      (by simp) (intsV_news hu) (fun u hu => by
        obtain ⟨t, _, rfl⟩ := List.mem_map.1 hu
        rfl) (by unfold maxLen; omega) (by omega) hB
    refine ⟨v', w', hr, ?_, k2, k4⟩
    unfold RowI
    rw [List.length_append, List.map_append]
    exact k1

theorem step_append_ints {w : World} {ops : Array Oper} {o : Oper} {a : Act} {K : Act → World → Prop} {Q : Exit → Act → World → Prop} {E : Prop} (hgd : o.guard = none) (s x : Operand)
    (ho : o.op = .call { callee := .builtin .append, args := #[s, x], argTypes := #[22, 22] }) (hty : o.type = 22) (B : Nat) (v : Value) (xs : List Int) (A : Option Addr) (c : Nat) (ts : List Int) (n : Nat) (hn : ts.length = n)
    (hs : a.eval s = v) (hx : a.eval x = .slice A n c) (hown : RowI w B v xs) (hu : IntsV w 0 w.heap.size ts A c) (hl : xs.length + ts.length ≤ 2000000) (hB : B ≤ w.heap.size)
    (h : ∀ v' w', RowI w' B v' (xs ++ ts) → w.grownBy w' v.ownBlock → (v'.ownBlock = v.ownBlock ∨ v'.ownBlock = some w.heap.size) → K (a.put o.dst v') w') :
    if Region.wanted o (yielded ops a.tmps) = true then Oper.wp Try.prog o a w K Q else E := by
  have hw : Region.wanted o (yielded ops a.tmps) = true := by simp [Region.wanted, hgd]
  rw [if_pos hw]
  subst hn
  obtain ⟨v', w', hr, h2, h3, h4⟩ := run_append_ints w B v xs A c ts hown hu hl hB
  unfold Oper.wp execOp
  simp only [ho, hty, resolve, invoke, builtin, Sem.run_bind, Sem.run_pure, Result.andThen_ok, List.map_toArray, List.map_cons, List.map_nil, hs, hx, hr]
  exact h v' w' h2 h3 h4

theorem RowI.lit0 (w : World) (B : Nat) (hB : B ≤ w.heap.size) : RowI (w.alloc (.cells #[] 3)) B (.slice (some ⟨w.heap.size, 0, none⟩) 0 0) [] :=
  World.ownsRow_lit (base := B) (e := 3) (size := 1) w #[] 0 hB (by simp [maxLen]) rfl

/-- What the copy of a program leaves. -/
def CopyOfP (ts : List Int) (s : Sts) (w : World) (E : Ending) (w' : World) : Prop := ∃ (rs : List StR) (A A' : Option Addr) (c c' B2 : Nat), E = .returned (.agg #[.slice A ts.length c, .slice A' rs.length c']) ∧
  RowI w' w.heap.size (.slice A ts.length c) ts ∧ RowS w' B2 (.slice A' rs.length c') rs ∧ ofR rs = s ∧ Below w.heap.size w w' ∧ w.heap.size ≤ B2 ∧ B2 ≤ w'.heap.size ∧ ∀ k, (Value.slice A ts.length c).ownBlock = some k → k < B2

/-- What holds while the parts are copied. -/
abbrev CoK (P : Nat) (u0 u1 : Value) (w : World) : Prop := w.cell? ⟨P, 0, none⟩ = some u0 ∧ w.cell? ⟨P, 1, none⟩ = some u1 ∧ w.cell? ⟨P + 1, 0, none⟩ = some (heldC w ⟨P + 1, 0, none⟩) ∧ w.cell? ⟨P + 1, 1, none⟩ = some (heldC w ⟨P + 1, 1, none⟩) ∧ w.frozen? ⟨P + 1, 0, none⟩ = false ∧ w.frozen? ⟨P + 1, 1, none⟩ = false

theorem coK_below {P B : Nat} {u0 u1 : Value} {w w' : World} (h : CoK P u0 u1 w) (hb : Below B w w') (hB : P + 2 ≤ B) : CoK P u0 u1 w' := by
  obtain ⟨h1, h2, h3, h4, h5, h6⟩ := h
  have e0 : ∀ o, w'.cell? ⟨P, o, none⟩ = w.cell? ⟨P, o, none⟩ := fun o => hb.cell (p := ⟨P, o, none⟩) (by show P < B; omega)
  have e1 : ∀ o, w'.cell? ⟨P + 1, o, none⟩ = w.cell? ⟨P + 1, o, none⟩ := fun o => hb.cell (p := ⟨P + 1, o, none⟩) (by show P + 1 < B; omega)
  have e2 : ∀ o, w'.frozen? ⟨P + 1, o, none⟩ = w.frozen? ⟨P + 1, o, none⟩ := fun o => hb.frozen (p := ⟨P + 1, o, none⟩) (by show P + 1 < B; omega)
  refine ⟨(e0 0).trans h1, (e0 1).trans h2, ?_, ?_, (e2 0).trans h5, (e2 1).trans h6⟩
  · rw [e1 0, h3]; unfold heldC; rw [e1 0, h3]
  · rw [e1 1, h4]; unfold heldC; rw [e1 1, h4]

theorem coK_put {P : Nat} {u0 u1 x y : Value} {w : World} (h : CoK P u0 u1 w) : CoK P u0 u1 ((w.setCell ⟨P + 1, 0, none⟩ x).setCell ⟨P + 1, 1, none⟩ y) := by
  obtain ⟨h1, h2, h3, h4, h5, h6⟩ := h
  have n1 : ∀ (o o' : Nat), (⟨P + 1, o, none⟩ : Addr) ≠ ⟨P, o', none⟩ := fun o o' e => by injection e with e; omega
  have c0 : ((w.setCell ⟨P + 1, 0, none⟩ x).setCell ⟨P + 1, 1, none⟩ y).cell? ⟨P + 1, 0, none⟩ = some x := (World.cell?_setCell_other _ _ _ _ (by simp)).trans (World.cell?_setCell_same _ _ _ h3)
  have c1 : ((w.setCell ⟨P + 1, 0, none⟩ x).setCell ⟨P + 1, 1, none⟩ y).cell? ⟨P + 1, 1, none⟩ = some y := World.cell?_setCell_same _ _ _ ((World.cell?_setCell_other _ _ _ _ (by simp)).trans h4)
  refine ⟨((World.cell?_setCell_other _ _ _ _ (n1 1 0)).trans (World.cell?_setCell_other _ _ _ _ (n1 0 0))).trans h1, ((World.cell?_setCell_other _ _ _ _ (n1 1 1)).trans (World.cell?_setCell_other _ _ _ _ (n1 0 1))).trans h2, ?_, ?_, ?_, ?_⟩
  · rw [c0]; unfold heldC; rw [c0]; rfl
  · rw [c1]; unfold heldC; rw [c1]; rfl
  · rw [World.frozen?_setCell, World.frozen?_setCell]; exact h5
  · rw [World.frozen?_setCell, World.frozen?_setCell]; exact h6

set_option maxRecDepth 100000 in
set_option maxHeartbeats 2000000 in
theorem l1CopyOf_any (ts : List Int) (s : Sts) (At As : Option Addr) (ct cs : Nat) (w : World) (hl : ts.length ≤ 100000) (hsz : s.size ≤ 100000) (hT : IntsV w 0 w.heap.size ts At ct) (hS : RepV w 0 w.heap.size s As cs) :
    Calls Try.prog 39 #[.agg #[.slice At ts.length ct, .slice As s.len cs]] w (CopyOfP ts s w) := by
  obtain ⟨W, hW⟩ : ∃ W, (w.alloc (.cells #[.slice At ts.length ct, .slice As s.len cs] 29)).alloc (.cells #[.slice none 0 0, .slice none 0 0] 29) = W := ⟨_, rfl⟩
  have hbW : Below w.heap.size w W := by rw [← hW]; exact ((Below.refl _ _).alloc (Nat.le_refl _) _).alloc (by simp) _
  have hWz : w.heap.size + 2 = W.heap.size := by rw [← hW]; simp
  have hWP : W.heap[w.heap.size]? = some (.cells #[.slice At ts.length ct, .slice As s.len cs] 29 (0, 0)) := by
    rw [← hW]
    show ((w.heap.push _).push _)[w.heap.size]? = _
    simp only [Array.getElem?_push, Array.size_push]
    rw [if_neg (by omega), if_pos trivial]
  have hWR : W.heap[w.heap.size + 1]? = some (.cells #[.slice none 0 0, .slice none 0 0] 29 (0, 0)) := by
    rw [← hW]
    show ((w.heap.push _).push _)[w.heap.size + 1]? = _
    simp only [Array.getElem?_push, Array.size_push]
    rw [if_pos trivial]
  have HT := Lib.hid (hT.below hbW hbW.size)
  have HS := Lib.hid (hS.below hbW hbW.size)
  have HWR := Lib.hid hWR
  have hWle : w.heap.size + 2 ≤ W.heap.size := Nat.le_of_eq hWz
  obtain ⟨n, hn⟩ : ∃ n, ts.length = n := ⟨_, rfl⟩
  obtain ⟨m, hm⟩ : ∃ m, s.len = m := ⟨_, rfl⟩
  have HN := Lib.hid hn
  have HM := Lib.hid hm
  have hp0 : W.cell? ⟨w.heap.size, 0, none⟩ = some (.slice At n ct) := (cell_of_block hWP 0).trans (by rw [← hn]; rfl)
  have hp1 : W.cell? ⟨w.heap.size, 1, none⟩ = some (.slice As m cs) := (cell_of_block hWP 1).trans (by rw [← hm]; rfl)
  rw [hn, hm] at hW ⊢
  rw [hn] at hl
  have HBW := Lib.hid hbW
  clear hWP hWR hT hS hWz hn hm hbW
  go_enter Try.func39, Try.ntmps39
  go_upto_region 1 with (fail)
  clear hW
  have z0 := (cell_of_block HWR.out 0).trans (show _ = some (.slice none 0 0) from rfl)
  have z1 := (cell_of_block HWR.out 1).trans (show _ = some (.slice none 0 0) from rfl)
  have hK0 : CoK w.heap.size (.slice At n ct) (.slice As m cs) W := ⟨hp0, hp1, by rw [z0]; unfold heldC; rw [z0]; rfl, by rw [z1]; unfold heldC; rw [z1]; rfl, frozen_of_block HWR.out 0, frozen_of_block HWR.out 1⟩
  have hK0d : CoK w.heap.size (.slice At n ct) (.slice As m cs) W.drew := hK0
  have hba := ((Below.refl W.heap.size W).alloc (Nat.le_refl _) (.cells #[] 3)).drew
  have hK1 : CoK w.heap.size (.slice At n ct) (.slice As m cs) (W.alloc (.cells #[] 3)).drew := coK_below hK0 hba hWle
  clear hp0 hp1 z0 z1
  have HL0 := Lib.hid (RowI.lit0 W W.heap.size (Nat.le_refl _))
  have HC := Lib.hid (fun (w' : World) (h : RepV w' 0 w'.heap.size s As cs) => l1Copy_any (s.size + 1) s As cs w' (by omega) hsz h)
  rw [HM.out] at HC
  go_region_held3 (CoK w.heap.size (.slice At n ct) (.slice As m cs))
    (first | with_reducible exact hK0 | with_reducible exact hK0d | with_reducible exact hK1 | with_reducible exact hK2 | with_reducible exact hK3 | with_reducible exact coK_put hK3)
    (first
      | (go_at_call 53; refine (HC.out _ (HS.out.below hBa hBa.size)).mono ?_; rintro E wc ⟨rs, A', c', rfl, hR, ho, hb⟩; have hK3 := coK_below hK2 hb (Nat.le_trans hWle hBa.size))
      | (refine step_append_ints (by rfl) _ _ (by rfl) (by rfl) W.heap.size (.slice (some ⟨W.heap.size, 0, none⟩) 0 0) [] At ct ts n HN.out (by rfl) (by rfl) ?hr ?hu ?hl ?hB ?_; (case hr => first | exact HL0.out | exact HL0.out.below (Below.refl _ _).drew); (case hu => exact HT.out.below hba hba.size); (case hl => rw [HN.out]; simp; omega); (case hB => exact hba.size); intro v' wa hown hg hat; have hrow := hown; rw [List.nil_append] at hrow; obtain ⟨Av, cv, hv⟩ := hrow.slice; rw [HN.out] at hv; subst hv; have hBa := hba.grown hg hba.size (fun k hk => by (have : W.heap.size = k := by simpa [Value.ownBlock] using hk); omega); have hK2 := coK_below hK0 hBa hWle))
  have hX := (hb.block (w.heap.size + 1) (by have := hBa.size; omega)).trans ((hBa.block (w.heap.size + 1) (by omega)).trans HWR.out)
  have z0 : wc.cell? ⟨w.heap.size + 1, 0, none⟩ = some (.slice none 0 0) := (cell_of_block hX 0).trans rfl
  have z1 : wc.cell? ⟨w.heap.size + 1, 1, none⟩ = some (.slice none 0 0) := (cell_of_block hX 1).trans rfl
  have y0 := frozen_of_block hX 0
  have y1 := frozen_of_block hX 1
  have hwa := hBa.size
  have hk : ∀ k, W.heap.size ≤ k → ((wc.setCell ⟨w.heap.size + 1, 0, none⟩ (.slice Av n cv)).setCell ⟨w.heap.size + 1, 1, none⟩ (.slice A' rs.length c')).heap[k]? = wc.heap[k]? := fun k hk =>
    (Below.heap_setCell _ _ _ _ (by show k ≠ w.heap.size + 1; omega)).trans (Below.heap_setCell _ _ _ _ (by show k ≠ w.heap.size + 1; omega))
  have hI := Lib.hid (((hrow.below hb).keep fun g hg => hk g ((hrow.below hb).lt g hg).1).mono (show w.heap.size ≤ W.heap.size by omega))
  have hS := Lib.hid ((hR.kept (w' := (wc.setCell ⟨w.heap.size + 1, 0, none⟩ (.slice Av n cv)).setCell ⟨w.heap.size + 1, 1, none⟩ (.slice A' rs.length c')) (by simp [World.setCell]) fun k h1 h2 => hk k (by omega)))
  have hB := Lib.hid ((((HBW.out.trans (hBa.mono (by omega))).trans (hb.mono (by omega))).setCell (p := ⟨w.heap.size + 1, 0, none⟩) (by simp) (.slice Av n cv)).setCell (p := ⟨w.heap.size + 1, 1, none⟩) (by simp) (.slice A' rs.length c'))
  have HO := Lib.hid ho
  have HSEP : Hid (∀ k, (Value.slice Av n cv).ownBlock = some k → k < wa.heap.size) := fun k hk => (hrow.lt k hk).2
  have hz9 : w.heap.size ≤ wa.heap.size := by omega
  have hz8 : wa.heap.size ≤ wc.heap.size := hb.size
  clear hX hwa hk hrow hown hg hat hR ho hb hK0 hK0d hK1 hK2 hK3 hBa hba
  go_wp2_with fail
  exact bodyPost_ret (v := .agg #[.slice Av n cv, .slice A' rs.length c']) (by simp [results, Try.results39, go_sem, z0, z1]) rfl ⟨rs, Av, A', cv, c', wa.heap.size, by rw [HN.out], by rw [HN.out]; exact hI.out, hS.out, HO.out, hB.out, hz9, by simpa [World.setCell] using hz8, by rw [HN.out]; exact HSEP.out⟩

end Go.Proofs.Ytcpmodkplikmcaa
