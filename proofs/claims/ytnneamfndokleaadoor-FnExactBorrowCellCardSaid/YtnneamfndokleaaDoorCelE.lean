/-
  Comparing memories and pointers that read alike.
-/
import Derived.Test.YtnneamfndokleaaDoorCelS
import Derived.Deep.QuietTactic
import Derived.BigQuiet
namespace Go.Proofs.YtnneamfndokleaaDoor
open Go.RowKit Go.Deep
set_option linter.unusedVariables false

theorem eqTag_any (id : Int) (u : Bool) (w : World) : Calls Tryd.prog 73 #[.agg #[.int .i64 id, .bool u], .agg #[.int .i64 id, .bool u]] w fun e w' => e = .returned (.bool true) ∧ Below w.heap.size w w' := by
  have hbw : ∀ o1 o2 : Obj, Below w.heap.size w ((w.alloc o1).alloc o2) := fun o1 o2 => ((Below.refl w.heap.size w).alloc (Nat.le_refl _) o1).alloc (by simp) o2
  go_enter Tryd.func73, Tryd.ntmps73
  go_wp2_with fail
  go_ret
  exact ⟨rfl, hbw _ _⟩

set_option maxRecDepth 100000 in
set_option maxHeartbeats 2000000 in
theorem eqTagS_any (ts : List TagD) (A A' : Option Addr) (q c c' : Nat) (w : World) (h : RdT w (.slice A q c) ts) (h' : RdT w (.slice A' q c') ts) :
    Calls Tryd.prog 55 #[.slice A q c, .slice A' q c'] w fun e w' => e = .returned (.bool true) ∧ Below w.heap.size w w' := by
  obtain ⟨hq, hc1, hc2⟩ := h.len
  obtain ⟨-, hc1', hc2'⟩ := h'.len
  unfold maxLen at hc2 hc2'
  have HN := Lib.hid hq
  have H := Lib.hid h
  have H' := Lib.hid h'
  clear hq h h'
  go_enter Tryd.func55, Tryd.ntmps55
  go_wp2_with fail
  go_loopw [5] (fun i wr => ∃ k : Nat, k ≤ q ∧ i = .int .i64 k ∧ Below w.heap.size w wr) (fun i _ => q - (intOf i).toNat)
  case atStart => exact ⟨0, Nat.zero_le _, rfl, Below.refl _ _⟩
  case round =>
    obtain ⟨k, hk, rfl, hb⟩ := hrel
    by_cases hlt : k < q
    · obtain ⟨b, id, u, rfl, hbb, hd, a0, a1⟩ := (H.out.below hb).elem (k := k) (by rw [← HN.out]; exact hlt)
      obtain ⟨b', id', u', rfl, hbb', hd', b0, b1⟩ := (H'.out.below hb).elem (k := k) (by rw [← HN.out]; exact hlt)
      rw [hd] at hd'
      injection hd' with hd'
      injection hd' with e1 e2
      subst e1 e2
      clear hd
      go_wp2_with fail
      go_still_tail 8, (by kernel_rfl)
      change wpList _ _ _ _ _ wr.drew
      have hbd : Below w.heap.size w wr.drew := hb.drew
      have hE := eqTag_any id u wr.drew
      have hbz := hbd.size
      clear hb a0 a1 b0 b1
      generalize wr.drew = w2 at *
      go_wp2_with fail
      refine hE.mono ?_
      rintro E w3 ⟨rfl, hb3⟩
      go_wp2_with fail
      go_roundw
      case rel => exact ⟨k + 1, by omega, by go_num, hbd.trans (hb3.mono hbz)⟩
      case measure => simp [intOf]; omega
    · have hk' : k = q := by omega
      subst hk'
      go_wp2_with fail
      go_ret
      exact ⟨rfl, hb⟩

set_option maxHeartbeats 1000000 in
theorem eqCell_any (val nx : Int) (al : Bool) (ts : List TagD) (A A' : Option Addr) (q c c' : Nat) (w : World) (h : RdT w (.slice A q c) ts) (h' : RdT w (.slice A' q c') ts) :
    Calls Tryd.prog 32 #[.agg #[.int .i64 val, .bool al, .int .i64 nx, .slice A q c], .agg #[.int .i64 val, .bool al, .int .i64 nx, .slice A' q c']] w fun e w' => e = .returned (.bool true) ∧ Below w.heap.size w w' := by
  have hbw : ∀ o1 o2 : Obj, Below w.heap.size w ((w.alloc o1).alloc o2) := fun o1 o2 => ((Below.refl w.heap.size w).alloc (Nat.le_refl _) o1).alloc (by simp) o2
  go_enter Tryd.func32, Tryd.ntmps32
  go_wp2_with fail
  refine (eqTagS_any ts A A' q c c' _ (h.below (hbw _ _)) (h'.below (hbw _ _))).mono ?_
  rintro E w1 ⟨rfl, hb1⟩
  go_wp2_with fail
  go_ret
  exact ⟨rfl, (hbw _ _).trans (hb1.mono (by simp; omega))⟩

set_option maxRecDepth 100000 in
set_option maxHeartbeats 2000000 in
theorem eqCellS_any (cs : List CellD) (A A' : Option Addr) (q c c' : Nat) (w : World) (h : RdC w (.slice A q c) cs) (h' : RdC w (.slice A' q c') cs) :
    Calls Tryd.prog 13 #[.slice A q c, .slice A' q c'] w fun e w' => e = .returned (.bool true) ∧ Below w.heap.size w w' := by
  obtain ⟨hq, hc1, hc2⟩ := h.len
  obtain ⟨-, hc1', hc2'⟩ := h'.len
  unfold maxLen at hc2 hc2'
  have HN := Lib.hid hq
  have H := Lib.hid h
  have H' := Lib.hid h'
  clear hq h h'
  go_enter Tryd.func13, Tryd.ntmps13
  go_wp2_with fail
  go_loopw [5] (fun i wr => ∃ k : Nat, k ≤ q ∧ i = .int .i64 k ∧ Below w.heap.size w wr) (fun i _ => q - (intOf i).toNat)
  case atStart => exact ⟨0, Nat.zero_le _, rfl, Below.refl _ _⟩
  case round =>
    obtain ⟨k, hk, rfl, hb⟩ := hrel
    by_cases hlt : k < q
    · obtain ⟨b, val, al, nx, ts, Au, cu, rfl, hbb, hd, ⟨a0, a1, a2, a3⟩, hT, t1, t2⟩ := (H.out.below hb).elem (k := k) (by rw [← HN.out]; exact hlt)
      obtain ⟨b', val', al', nx', ts', Au', cu', rfl, hbb', hd', ⟨b0, b1, b2, b3⟩, hT', t1', t2'⟩ := (H'.out.below hb).elem (k := k) (by rw [← HN.out]; exact hlt)
      rw [hd] at hd'
      injection hd' with hd'
      injection hd' with e1 e2 e3 e4
      subst e1 e2 e3 e4
      clear hd
      go_wp2_with fail
      go_still_tail 8, (by kernel_rfl)
      change wpList _ _ _ _ _ wr.drew
      have hbd : Below w.heap.size w wr.drew := hb.drew
      have hE := eqCell_any val nx al ts Au Au' ts.length cu cu' wr.drew (hT.below (Below.refl _ _).drew) (hT'.below (Below.refl _ _).drew)
      have hbz := hbd.size
      clear hb a0 a1 a2 a3 b0 b1 b2 b3 hT hT'
      generalize wr.drew = w2 at *
      go_wp2_with fail
      refine hE.mono ?_
      rintro E w3 ⟨rfl, hb3⟩
      go_wp2_with fail
      go_roundw
      case rel => exact ⟨k + 1, by omega, by go_num, hbd.trans (hb3.mono hbz)⟩
      case measure => simp [intOf]; omega
    · have hk' : k = q := by omega
      subst hk'
      go_wp2_with fail
      go_ret
      exact ⟨rfl, hb⟩

theorem eqPointer_any (a b : Int) (w : World) : Calls Tryd.prog 20 #[.agg #[.int .i64 a, .int .i64 b], .agg #[.int .i64 a, .int .i64 b]] w fun e w' => e = .returned (.bool true) ∧ Below w.heap.size w w' := by
  have hbw : ∀ o1 o2 : Obj, Below w.heap.size w ((w.alloc o1).alloc o2) := fun o1 o2 => ((Below.refl w.heap.size w).alloc (Nat.le_refl _) o1).alloc (by simp) o2
  go_enter Tryd.func20, Tryd.ntmps20
  go_wp2_with fail
  go_ret
  exact ⟨rfl, hbw _ _⟩

end Go.Proofs.YtnneamfndokleaaDoor
