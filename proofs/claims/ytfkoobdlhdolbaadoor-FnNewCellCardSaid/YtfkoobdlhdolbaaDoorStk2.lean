/-
  Stacks as rows again, and stacks without the unique tags above a part.
-/
import Derived.Test.YtfkoobdlhdolbaaDoorStk
import Derived.StillTailTactics
namespace Go.Proofs.YtfkoobdlhdolbaaDoor
open Go.RowKit Go.Deep
set_option linter.unusedVariables false

/-- A measure of pointers. -/
def ptrOf : Value → Nat
  | .pointer (some a) => a.block + 1
  | _ => 0

theorem Stk.less {w : World} {hi : Nat} {ts : List TagD} {p : Option Addr} (h : Stk w hi ts p) : ptrOf (.pointer p) ≤ hi := by
  cases ts with
  | nil =>
    have : p = none := h
    subst this
    exact Nat.zero_le _
  | cons t ts =>
    obtain ⟨g, pb, rfl, hlt, _⟩ := h
    exact hlt

set_option maxRecDepth 100000 in
set_option maxHeartbeats 4000000 in
theorem list_any (w : World) (hi : Nat) (ts : List TagD) (p : Option Addr) (h : Stk w hi ts p) (hh : hi ≤ w.heap.size) (hl : ts.length ≤ 1048600) :
    Calls Tryd.prog 87 #[.pointer p] w fun E w' => E = .returned (.slice (some ⟨w.heap.size, 0, none⟩) ts.length ts.length) ∧ RowT w' w.heap.size (.slice (some ⟨w.heap.size, 0, none⟩) ts.length ts.length) ts.reverse ∧ Below w.heap.size w w' := by
  have H := Lib.hid h
  obtain ⟨n, hn⟩ : ∃ n, n = ts.length := ⟨_, rfl⟩
  rw [← hn] at hl ⊢
  have HN := Lib.hid hn
  have HH := Lib.hid hh
  clear h hn hh
  have hmk := run_make_rows (P := Tryd.prog) 31 35 (.agg #[.int .i64 0, .bool false]) #[.int .i64 0, .bool false] 2 16 Tryd.underlying31 Tryd.infoTag rfl .i64 .i64 n (by omega) (by omega)
  have hst : RowT (w.alloc (.cells (madeCells #[.int .i64 0, .bool false] (n * 2)) 35)) w.heap.size (.slice (some ⟨w.heap.size, 0, none⟩) n n) (List.replicate n zTag) := by
    have := own_made (w := w) (B := w.heap.size) (n := n) (e := 35) (s := 2) (f := TagD.cells) zTag rfl (by omega) (Nat.le_refl _) (by unfold maxLen; omega) (madeCells #[.int .i64 0, .bool false] (n * 2)) rfl
    unfold RowT
    simpa using this
  have HST := Lib.hid hst
  have hbs : Below w.heap.size w (w.alloc (.cells (madeCells #[.int .i64 0, .bool false] (n * 2)) 35)) := (Below.refl _ _).alloc (Nat.le_refl _) _
  clear hst
  go_enter Tryd.func87, Tryd.ntmps87
  go_wp2_with fail
  refine (size_any w hi ts p H.out).mono ?_
  rintro E w1 ⟨rfl, rfl⟩
  rw [← HN.out]
  go_wp2_with fail
  go_loopw [0] (fun s wr => ∃ (xs ys : List TagD) (q : Option Addr) (hx : Nat), s = .pointer q ∧ Hid (Stk w hx xs q ∧ hx ≤ hi) ∧ Hid (ts = ys ++ xs) ∧ Hid (RowT wr w.heap.size (.slice (some ⟨w.heap.size, 0, none⟩) n n) (List.replicate xs.length zTag ++ ys.reverse)) ∧ Below w.heap.size w wr) (fun s _ => ptrOf s)
  case atStart => exact ⟨ts, [], p, hi, rfl, ⟨H.out, Nat.le_refl _⟩, rfl, by rw [← HN.out]; simpa using HST, hbs⟩
  case round =>
    clear HST hmk hbs
    obtain ⟨xs, ys, q, hx, rfl, HS, HY, HR, hb⟩ := hrel
    cases xs with
    | nil =>
      have hp : q = none := HS.out.1
      subst hp
      have HF : Hid (RowT wr w.heap.size (.slice (some ⟨w.heap.size, 0, none⟩) n n) ts.reverse) := by
        have h1 := HR.out
        have h2 := HY.out
        rw [List.append_nil] at h2
        subst h2
        show RowT wr w.heap.size (.slice (some ⟨w.heap.size, 0, none⟩) n n) ts.reverse
        simpa using h1
      go_wp2_with fail
      go_ret
      exact ⟨rfl, HF.out, hb⟩
    | cons t xs =>
      obtain ⟨⟨g, pb, rfl, hg, hc, hst⟩, hxi⟩ := HS.out
      have hcr := (hb.block g (by have := HH.out; omega)).trans hc
      have c0 : wr.cell? ⟨g, 0, none⟩ = some (.int .i64 t.id) := (cell_of_block hcr 0).trans rfl
      have c1 : wr.cell? ⟨g, 1, none⟩ = some (.bool t.u) := (cell_of_block hcr 1).trans rfl
      have c2 : wr.cell? ⟨g, 2, none⟩ = some (.pointer pb) := (cell_of_block hcr 2).trans rfl
      have c3 : wr.cell? ⟨g, 3, none⟩ = some (.int .i64 ((xs.length + 1 : Nat) : Int)) := (cell_of_block hcr 3).trans rfl
      obtain ⟨m, hm⟩ : ∃ m, m = xs.length := ⟨_, rfl⟩
      have hmn : m < n := by
        have := congrArg List.length HY.out
        simp at this
        have := HN.out
        omega
      have hR : RowT wr w.heap.size (.slice (some ⟨w.heap.size, 0, none⟩) n n) (List.replicate m zTag ++ zTag :: ys.reverse) := by
        have h1 := HR.out
        rw [List.length_cons, List.replicate_succ', List.append_assoc, ← hm] at h1
        exact h1
      have hlen : (List.replicate m zTag ++ zTag :: ys.reverse).length = n := by
        have h1 := congrArg List.length HY.out
        simp at h1
        have h2 := HN.out
        simp
        omega
      obtain ⟨d0, d1, fz⟩ := hR.cells2 hlen
      obtain ⟨hR2, hO2⟩ := hR.put2 hlen t
      rw [List.length_replicate] at d0 d1 hR2 hO2
      have HR2 : Hid (RowT ((wr.drew.setCell ⟨w.heap.size, m * 2, none⟩ (.int .i64 t.id)).setCell ⟨w.heap.size, m * 2 + 1, none⟩ (.bool t.u)) w.heap.size (.slice (some ⟨w.heap.size, 0, none⟩) n n) (List.replicate xs.length zTag ++ (ys ++ [t]).reverse)) := by
        rw [← hm, List.reverse_append]
        exact hR2
      have hb2 : Below w.heap.size w ((wr.drew.setCell ⟨w.heap.size, m * 2, none⟩ (.int .i64 t.id)).setCell ⟨w.heap.size, m * 2 + 1, none⟩ (.bool t.u)) := (hb.drew.setCell (Nat.le_refl _) _).setCell (Nat.le_refl _) _
      have HS2 : Hid (Stk w g xs pb ∧ g ≤ hi) := ⟨hst, by omega⟩
      have HY2 : Hid (ts = (ys ++ [t]) ++ xs) := by
        show _ = _
        rw [HY.out]
        simp
      have hmeas := hst.less
      have f0 := fz (m * 2)
      have f1 := fz (m * 2 + 1)
      unfold zTag at d0 d1
      rw [← hm, show ((m + 1 : Nat) : Int) = (m : Int) + 1 by omega] at c3
      have hw1 : IntKind.i64.wrap (m : Int) = (m : Int) := IntWalk.i64_in _ (by omega)
      have hn1 : (m : Int) < (n : Int) := by omega
      have hgw : g ≠ w.heap.size := by have := HH.out; omega
      have c2' : ∀ x y, ((wr.drew.setCell ⟨w.heap.size, m * 2, none⟩ x).setCell ⟨w.heap.size, m * 2 + 1, none⟩ y).cell? ⟨g, 2, none⟩ = some (.pointer pb) := fun x y =>
        (World.cell?_setCell_other _ _ _ _ (fun e => by injection e with e _; omega)).trans ((World.cell?_setCell_other _ _ _ _ (fun e => by injection e with e _; omega)).trans c2)
      clear hR hlen hR2 hO2 HR fz hc hcr hst hm
      go_wp2_with fail
      go_still_tail 11, (by kernel_rfl)
      change wpList _ _ _ _ _ wr.drew
      go_wp2_with fail
      go_roundw
      case rel => exact ⟨xs, ys ++ [t], pb, g, rfl, HS2, HY2, HR2, hb2⟩
      case measure =>
        have : ptrOf (.pointer pb) ≤ g := hmeas
        simp only [ptrOf] at this ⊢
        omega

end Go.Proofs.YtfkoobdlhdolbaaDoor
