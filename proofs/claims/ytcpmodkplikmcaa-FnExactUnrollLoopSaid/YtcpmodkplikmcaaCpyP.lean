/-
  The program's deep copy of a program: rows of its own.
-/
import Derived.Test.YtcpmodkplikmcaaCpyI
import Derived.Test.YtcpmodkplikmcaaCof0
namespace Go.Proofs.Ytcpmodkplikmcaa
open Go.RowKit Go.Deep
set_option linter.unusedVariables false

/-- A program of one's own: its rows, and the lists under them, share nothing. -/
def ProgA (w : World) (B : Nat) (ts : List Int) (s : Sts) (v : Value) : Prop := ∃ (A A' : Option Addr) (c c' lo hi : Nat), v = .agg #[.slice A ts.length c, .slice A' s.len c'] ∧
  RowI w B (.slice A ts.length c) ts ∧ SubI w lo hi s A' c' ∧ B ≤ lo ∧ hi ≤ w.heap.size ∧ ∀ k, (Value.slice A ts.length c).ownBlock = some k → k < lo ∨ hi ≤ k

theorem ProgA.keep {w w' : World} {B : Nat} {ts : List Int} {s : Sts} {v : Value} (h : ProgA w B ts s v) (hs : w.heap.size ≤ w'.heap.size) (hk : ∀ k, B ≤ k → k < w.heap.size → w'.heap[k]? = w.heap[k]?) : ProgA w' B ts s v := by
  obtain ⟨A, A', c, c', lo, hi, h1, h2, h3, h4, h5, h6⟩ := h
  exact ⟨A, A', c, c', lo, hi, h1, h2.keep fun g hg => hk g (h2.lt g hg).1 (h2.lt g hg).2, h3.keep fun k k1 k2 => hk k (by omega) (by omega), h4, by omega, h6⟩

theorem ProgA.below {w w' : World} {B : Nat} {ts : List Int} {s : Sts} {v : Value} (h : ProgA w B ts s v) (hb : Below w.heap.size w w') : ProgA w' B ts s v := h.keep hb.size fun k _ hk => hb.block k hk

theorem ProgA.mono {w : World} {B B' : Nat} {ts : List Int} {s : Sts} {v : Value} (h : ProgA w B ts s v) (hB : B' ≤ B) : ProgA w B' ts s v := by
  obtain ⟨A, A', c, c', lo, hi, h1, h2, h3, h4, h5, h6⟩ := h
  exact ⟨A, A', c, c', lo, hi, h1, h2.mono hB, h3, by omega, h5, h6⟩

set_option maxRecDepth 100000 in
set_option maxHeartbeats 2000000 in
theorem copyProgram_any (ts : List Int) (s : Sts) (At As : Option Addr) (ct cs : Nat) (w : World) (hl : ts.length ≤ 100000) (hsz : s.size ≤ 100000) (hT : IntsV w 0 w.heap.size ts At ct) (hS : RepV w 0 w.heap.size s As cs) :
    Calls Try.prog 82 #[.agg #[.slice At ts.length ct, .slice As s.len cs]] w fun E w' => ∃ v, E = .returned v ∧ ProgA w' w.heap.size ts s v ∧ Below w.heap.size w w' := by
  obtain ⟨W, hW⟩ : ∃ W, (w.alloc (.cells #[.slice At ts.length ct, .slice As s.len cs] 29)).alloc (.cells #[.slice none 0 0, .slice none 0 0] 29) = W := ⟨_, rfl⟩
  have hbW : Below w.heap.size w W := by rw [← hW]; exact ((Below.refl _ _).alloc (Nat.le_refl _) _).alloc (by simp) _
  have hWz : w.heap.size + 2 = W.heap.size := by rw [← hW]; simp
  have hWP : W.heap[w.heap.size]? = some (.cells #[.slice At ts.length ct, .slice As s.len cs] 29 (0, 0)) := by
    rw [← hW]
    show ((w.heap.push _).push _)[w.heap.size]? = _
    simp only [Array.getElem?_push, Array.size_push]
    rw [if_neg (by omega), if_pos trivial]
  have hWR : W.heap[w.heap.size + 1]? = some (.cells #[.slice none 0 0, .slice none 0 0] 29 (0, 0)) := by
    rw [← hW]
    show ((w.heap.push _).push _)[w.heap.size + 1]? = _
    simp only [Array.getElem?_push, Array.size_push]
    rw [if_pos trivial]
  have HT := Lib.hid (hT.below hbW hbW.size)
  have HS := Lib.hid (hS.below hbW hbW.size)
  have HWR := Lib.hid hWR
  have hWle : w.heap.size + 2 ≤ W.heap.size := Nat.le_of_eq hWz
  obtain ⟨n, hn⟩ : ∃ n, ts.length = n := ⟨_, rfl⟩
  obtain ⟨m, hm⟩ : ∃ m, s.len = m := ⟨_, rfl⟩
  have HN := Lib.hid hn
  have HM := Lib.hid hm
  have hp0 : W.cell? ⟨w.heap.size, 0, none⟩ = some (.slice At n ct) := (cell_of_block hWP 0).trans (by rw [← hn]; rfl)
  have hp1 : W.cell? ⟨w.heap.size, 1, none⟩ = some (.slice As m cs) := (cell_of_block hWP 1).trans (by rw [← hm]; rfl)
  rw [hn, hm] at hW ⊢
  rw [hn] at hl
  have HBW := Lib.hid hbW
  clear hWP hWR hT hS hWz hn hm hbW
  go_enter Try.func82, Try.ntmps82
  go_upto_region 1 with (fail)
  clear hW
  have z0 := (cell_of_block HWR.out 0).trans (show _ = some (.slice none 0 0) from rfl)
  have z1 := (cell_of_block HWR.out 1).trans (show _ = some (.slice none 0 0) from rfl)
  have hK0 : CoK w.heap.size (.slice At n ct) (.slice As m cs) W := ⟨hp0, hp1, by rw [z0]; unfold heldC; rw [z0]; rfl, by rw [z1]; unfold heldC; rw [z1]; rfl, frozen_of_block HWR.out 0, frozen_of_block HWR.out 1⟩
  have hK0d : CoK w.heap.size (.slice At n ct) (.slice As m cs) W.drew := hK0
  have hba := (Below.refl W.heap.size W).drew
  clear hp0 hp1 z0 z1
  have HC := Lib.hid (fun (w' : World) (h : RepV w' 0 w'.heap.size s As cs) => copyStmts_any (s.size + 1) s As cs w' (by omega) hsz h)
  rw [HM.out] at HC
  go_region_held3 (CoK w.heap.size (.slice At n ct) (.slice As m cs))
    (first | with_reducible exact hK0 | with_reducible exact hK0d | with_reducible exact hK2 | with_reducible exact hK3 | with_reducible exact coK_put hK3)
    (first
      | (go_at_call 103; refine (HC.out _ (HS.out.below hBa hBa.size)).mono ?_; rintro E wc ⟨rs, A', c', rfl, hR, ho, hb⟩; have hK3 := coK_below hK2 hb (Nat.le_trans hWle hBa.size))
      | (refine step_append_ints (by rfl) _ _ (by rfl) (by rfl) W.heap.size (.slice none 0 0) [] At ct ts n HN.out (by rfl) (by rfl) ?hr ?hu ?hl ?hB ?_; (case hr => exact World.ownsRow_nil _ _ _ _); (case hu => first | exact HT.out | exact HT.out.below hba hba.size); (case hl => rw [HN.out]; simp; omega); (case hB => exact Nat.le_refl _); intro v' wa hown hg hat; have hrow := hown; rw [List.nil_append] at hrow; obtain ⟨Av, cv, hv⟩ := hrow.slice; rw [HN.out] at hv; subst hv; have hBa := hba.grown hg (Nat.le_refl _) (fun k hk => by cases hk); have hK2 := coK_below hK0 hBa hWle))
  have hX := (hb.block (w.heap.size + 1) (by have := hBa.size; omega)).trans ((hBa.block (w.heap.size + 1) (by omega)).trans HWR.out)
  have z0 : wc.cell? ⟨w.heap.size + 1, 0, none⟩ = some (.slice none 0 0) := (cell_of_block hX 0).trans rfl
  have z1 : wc.cell? ⟨w.heap.size + 1, 1, none⟩ = some (.slice none 0 0) := (cell_of_block hX 1).trans rfl
  have y0 := frozen_of_block hX 0
  have y1 := frozen_of_block hX 1
  have hwa := hBa.size
  have hlm : rs.length = m := by rw [← ofR_len, ho]; exact HM.out
  have hk : ∀ k, W.heap.size ≤ k → ((wc.setCell ⟨w.heap.size + 1, 0, none⟩ (.slice Av n cv)).setCell ⟨w.heap.size + 1, 1, none⟩ (.slice A' rs.length c')).heap[k]? = wc.heap[k]? := fun k hk =>
    (Below.heap_setCell _ _ _ _ (by show k ≠ w.heap.size + 1; omega)).trans (Below.heap_setCell _ _ _ _ (by show k ≠ w.heap.size + 1; omega))
  have hI := Lib.hid (((hrow.below hb).keep fun g hg => hk g ((hrow.below hb).lt g hg).1).mono (show w.heap.size ≤ W.heap.size by omega))
  have hSs := hR.sub.2
  rw [ho] at hSs
  have hS := Lib.hid (hSs.keep (w' := (wc.setCell ⟨w.heap.size + 1, 0, none⟩ (.slice Av n cv)).setCell ⟨w.heap.size + 1, 1, none⟩ (.slice A' rs.length c')) fun k h1 h2 => hk k (by omega))
  have hB := Lib.hid ((((HBW.out.trans (hBa.mono (by omega))).trans (hb.mono (by omega))).setCell (p := ⟨w.heap.size + 1, 0, none⟩) (by simp) (.slice Av n cv)).setCell (p := ⟨w.heap.size + 1, 1, none⟩) (by simp) (.slice A' rs.length c'))
  have HSEP : Hid (∀ k, (Value.slice Av n cv).ownBlock = some k → k < wa.heap.size) := fun k hk => (hrow.lt k hk).2
  have hz9 : w.heap.size ≤ wa.heap.size := by omega
  have hz8 : wa.heap.size ≤ wc.heap.size := hb.size
  rw [hlm] at hI hS hB ⊢
  clear hX hwa hk hrow hown hg hat hR ho hb hK0 hK0d hK2 hK3 hBa hba hSs hlm
  go_wp2_with fail
  exact bodyPost_ret (v := .agg #[.slice Av n cv, .slice A' m c']) (by simp [results, Try.results82, go_sem, z0, z1]) rfl ⟨_, rfl, ⟨Av, A', cv, c', wa.heap.size, wc.heap.size, by rw [HN.out, HM.out], by rw [HN.out]; exact hI.out, hS.out, hz9, by simp [World.setCell], fun k hk => .inl (HSEP.out k (by rw [← HN.out]; exact hk))⟩, hB.out⟩

end Go.Proofs.Ytcpmodkplikmcaa
