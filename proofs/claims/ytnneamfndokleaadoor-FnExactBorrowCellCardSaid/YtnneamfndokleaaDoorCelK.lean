/-
  What the laws write over a memory, and how they read it again.
-/
import Derived.Test.YtnneamfndokleaaDoorCelS
namespace Go.Proofs.YtnneamfndokleaaDoor
open Go.RowKit Go.Deep
set_option linter.unusedVariables false

/-- The flag that is written for a number. -/
def b3 (z : Int) : Bool := z % 3 == 0

/-- The tags that are written over n tags. -/
def mkT (k : Int) (n : Nat) : List TagD := (List.range n).map fun j => ⟨k + 2 * (j : Nat), b3 (k + 2 * (j : Nat) + 1)⟩

theorem mkT_length (k : Int) (n : Nat) : (mkT k n).length = n := by simp [mkT]

theorem mkT_succ (k : Int) (n : Nat) : mkT k (n + 1) = mkT k n ++ [⟨k + 2 * (n : Nat), b3 (k + 2 * (n : Nat) + 1)⟩] := by
  simp [mkT, List.range_succ]

theorem mkT_get (k : Int) {n j : Nat} (hj : j < n) : (mkT k n)[j]? = some ⟨k + 2 * (j : Nat), b3 (k + 2 * (j : Nat) + 1)⟩ := by
  simp [mkT, hj]

/-- The cell that is written over a cell. -/
def mk1 (k : Int) (c : CellD) : CellD := ⟨k, b3 (k + 1), k + 2, mkT (k + 3) c.tags.length⟩

/-- The number behind a list of cells. -/
def endC (k : Int) : List CellD → Int
  | [] => k
  | c :: cs => endC (k + 3 + 2 * c.tags.length) cs

def mkC (k : Int) : List CellD → List CellD
  | [] => []
  | c :: cs => mk1 k c :: mkC (k + 3 + 2 * c.tags.length) cs

theorem endC_eq : ∀ (cs : List CellD) (k : Int), endC k cs = k + 3 * cs.length + 2 * tagSum cs
  | [], k => by simp [endC, tagSum]
  | c :: cs, k => by
    simp only [endC, tagSum, List.length_cons]
    rw [endC_eq cs]
    omega

theorem mkC_snoc (c : CellD) : ∀ (cs : List CellD) (k : Int), mkC k (cs ++ [c]) = mkC k cs ++ [mk1 (endC k cs) c]
  | [], k => rfl
  | d :: cs, k => by
    simp only [List.cons_append, mkC, endC]
    rw [mkC_snoc c cs]

theorem endC_snoc (c : CellD) (cs : List CellD) (k : Int) : endC k (cs ++ [c]) = endC k cs + 3 + 2 * c.tags.length := by
  rw [endC_eq, endC_eq, tagSum_snoc, List.length_append, List.length_singleton]
  omega

theorem mkC_length : ∀ (cs : List CellD) (k : Int), (mkC k cs).length = cs.length
  | [], k => rfl
  | c :: cs, k => by simp only [mkC, List.length_cons]; rw [mkC_length cs]

theorem mkC_get : ∀ (cs : List CellD) (k : Int) (j : Nat) (c : CellD), cs[j]? = some c → (mkC k cs)[j]? = some (mk1 (endC k (cs.take j)) c)
  | [], k, j, c, h => by simp at h
  | d :: cs, k, 0, c, h => by
    simp at h
    subst h
    rfl
  | d :: cs, k, j + 1, c, h => by
    simp only [List.getElem?_cons_succ] at h
    simp only [mkC, List.getElem?_cons_succ, List.take_succ_cons, endC]
    exact mkC_get cs _ j c h

/-- The marks over a row, where its stacks lie. -/
def mkR (k : Int) (rs : List (CellD × Value)) : List (CellD × Value) := (mkC k (rs.map Prod.fst)).zip (rs.map Prod.snd)

theorem mkR_length (k : Int) (rs : List (CellD × Value)) : (mkR k rs).length = rs.length := by simp [mkR, mkC_length]

theorem mkR_fst (k : Int) (rs : List (CellD × Value)) : (mkR k rs).map Prod.fst = mkC k (rs.map Prod.fst) := by
  unfold mkR
  rw [List.map_fst_zip]
  simp [mkC_length]

theorem mkR_snoc (k : Int) (rs : List (CellD × Value)) (p : CellD × Value) : mkR k (rs ++ [p]) = mkR k rs ++ [(mk1 (endC k (rs.map Prod.fst)) p.1, p.2)] := by
  unfold mkR
  rw [List.map_append, List.map_append]
  simp only [List.map_cons, List.map_nil]
  rw [mkC_snoc, List.zip_append (by simp [mkC_length])]
  rfl

theorem OneV.trans {v : Value} {a b c : World} (h : OneV v a b) (k : OneV v b c) : OneV v a c :=
  ⟨k.os.trans h.os, k.tape.trans h.tape, k.output.trans h.output, k.size.trans h.size, fun i hi => (k.block i hi).trans (h.block i hi)⟩

theorem RowT.cells2 {w : World} {B g n cap : Nat} {A C : List TagD} {p : TagD} (h : RowT w B (.slice (some ⟨g, 0, none⟩) n cap) (A ++ p :: C)) (hn : (A ++ p :: C).length = n) :
    w.cell? ⟨g, A.length * 2, none⟩ = some (.int .i64 p.id) ∧ w.cell? ⟨g, A.length * 2 + 1, none⟩ = some (.bool p.u) ∧ ∀ o, w.frozen? ⟨g, o, none⟩ = false := by
  subst hn
  have hp : (A ++ p :: C)[A.length]? = some p := by simp
  have hl : A.length * 2 + 1 < (A ++ p :: C).length * 2 := by simp; omega
  have h0 := (World.ownsRow.cellAt h (A.length * 2 + 0) (by omega)).trans (flat_get TagD.cells_length _ A.length 0 p hp (by omega))
  have h1 := (World.ownsRow.cellAt h (A.length * 2 + 1) hl).trans (flat_get TagD.cells_length _ A.length 1 p hp (by omega))
  exact ⟨h0, h1, fun o => World.ownsRow.frozenAt h o⟩

set_option maxRecDepth 100000 in
set_option maxHeartbeats 2000000 in
theorem markTagS_row (ts : List TagD) (B g n cap : Nat) (k : Int) (w : World) (h : RowT w B (.slice (some ⟨g, 0, none⟩) n cap) ts) (hn : ts.length = n) (hn2 : n ≤ 100000000) (hk : 0 ≤ k) (hk2 : k ≤ 100000000) :
    Calls Tryd.prog 33 #[.slice (some ⟨g, 0, none⟩) n cap, .int .i64 k] w fun E w' => E = .returned (.int .i64 (k + 2 * n)) ∧ RowT w' B (.slice (some ⟨g, 0, none⟩) n cap) (mkT k n) ∧ One g w w' := by
  obtain ⟨hnc, hcm⟩ : n ≤ cap ∧ cap ≤ maxLen := by
    obtain ⟨A0, c0, e0, hnc, hcm, -⟩ := own_form h
    injection e0 with _ e1 e2
    subst e2
    exact ⟨by omega, hcm⟩
  unfold maxLen at hcm
  have HN := Lib.hid hn
  have H := Lib.hid h
  clear hn h
  go_enter Tryd.func33, Tryd.ntmps33
  go_wp2_with fail
  go_loopw [1, 5] (fun q i wr => ∃ j : Nat, j ≤ n ∧ i = .int .i64 j ∧ q = .int .i64 (k + 2 * j) ∧ Hid (One g w wr) ∧ Hid (RowT wr B (.slice (some ⟨g, 0, none⟩) n cap) (mkT k j ++ ts.drop j))) (fun _ i _ => n - (intOf i).toNat)
  case atStart => exact ⟨0, Nat.zero_le _, rfl, by simp, One.refl _ _, by simpa [mkT] using H⟩
  case round =>
    clear H
    obtain ⟨j, hj, rfl, rfl, HO, HR⟩ := hrel
    by_cases hlt : j < n
    · have hjt : j < ts.length := by rw [HN.out]; exact hlt
      have hR := HR.out
      obtain ⟨d0, hd0⟩ : ∃ d, ts.drop j = d :: ts.drop (j + 1) := ⟨ts[j], List.drop_eq_getElem_cons hjt⟩
      rw [hd0] at hR
      have hlen : (mkT k j ++ d0 :: ts.drop (j + 1)).length = n := by
        have := HN.out
        simp [mkT_length]
        omega
      obtain ⟨a0, a1, fz⟩ := hR.cells2 hlen
      obtain ⟨hR2, hO2⟩ := hR.put2 hlen ⟨k + 2 * (j : Nat), b3 (k + 2 * (j : Nat) + 1)⟩
      rw [mkT_length] at a0 a1 hR2 hO2
      have HR2 : Hid (RowT ((wr.setCell ⟨g, j * 2, none⟩ (.int .i64 (k + 2 * j))).setCell ⟨g, j * 2 + 1, none⟩ (.bool (b3 (k + 2 * j + 1)))) B (.slice (some ⟨g, 0, none⟩) n cap) (mkT k (j + 1) ++ ts.drop (j + 1))) := by
        rw [mkT_succ, List.append_assoc]
        exact hR2
      have HO2 : Hid (One g w ((wr.setCell ⟨g, j * 2, none⟩ (.int .i64 (k + 2 * j))).setCell ⟨g, j * 2 + 1, none⟩ (.bool (b3 (k + 2 * j + 1))))) := (HO.out.set (j * 2) (.int .i64 (k + 2 * j))).set (j * 2 + 1) (.bool (b3 (k + 2 * j + 1)))
      have f0 := fz (j * 2)
      have f1 := fz (j * 2 + 1)
      unfold b3 at HR2 HO2
      clear hR hlen hR2 hO2 HR fz HO hjt hd0
      go_wp2_with fail
      go_roundw
      case rel => exact ⟨j + 1, by omega, by go_num, by first | go_num | (congr 1; omega), HO2, HR2⟩
      case measure => simp [intOf]; omega
    · have hjn : j = n := by omega
      subst hjn
      go_wp2_with fail
      go_ret
      exact ⟨rfl, by have := HR.out; rwa [List.drop_eq_nil_of_le (by rw [HN.out]; exact Nat.le_refl _), List.append_nil] at this, HO.out⟩

theorem markTagS_nil (A : Option Addr) (c : Nat) (k : Int) (w : World) : Calls Tryd.prog 33 #[.slice A 0 c, .int .i64 k] w fun E w' => E = .returned (.int .i64 k) ∧ w = w' := by
  go_enter Tryd.func33, Tryd.ntmps33
  go_wp2_with fail
  go_loop [1, 5] (fun q i => q = .int .i64 k ∧ i = .int .i64 0) (fun _ _ => 0)
  case atStart => exact ⟨rfl, rfl⟩
  case round =>
    obtain ⟨rfl, rfl⟩ := hrel
    go_wp2_with fail
    go_ret
    exact ⟨rfl, rfl⟩

theorem markTagS_any (ts : List TagD) (B : Nat) (v : Value) (k : Int) (w : World) (h : RowT w B v ts) (hn2 : ts.length ≤ 100000000) (hk : 0 ≤ k) (hk2 : k ≤ 100000000) :
    Calls Tryd.prog 33 #[v, .int .i64 k] w fun E w' => E = .returned (.int .i64 (k + 2 * ts.length)) ∧ RowT w' B v (mkT k ts.length) ∧ OneV v w w' := by
  rcases h.2 with ⟨hv, h0⟩ | ⟨g, cap, cur, hv, _⟩
  · subst hv
    refine (markTagS_nil none 0 k w).mono ?_
    rintro E w' ⟨rfl, rfl⟩
    rw [h0]
    refine ⟨by simp, ?_, OneV.refl _ _⟩
    have := h
    unfold RowT at this ⊢
    rw [List.eq_nil_of_length_eq_zero h0] at this
    simpa [mkT] using this
  · subst hv
    refine (markTagS_row ts B g ts.length cap k w h rfl hn2 hk hk2).mono ?_
    rintro E w' ⟨rfl, hR, hO⟩
    exact ⟨rfl, hR, OneV.of_one hO⟩

set_option maxRecDepth 100000 in
set_option maxHeartbeats 2000000 in
theorem heldTagS_any (A : Option Addr) (n c : Nat) (k : Int) (w : World) (h : RdT w (.slice A n c) (mkT k n)) (hn2 : n ≤ 100000000) (hk : 0 ≤ k) (hk2 : k ≤ 100000000) :
    Calls Tryd.prog 34 #[.slice A n c, .int .i64 k] w fun E w' => E = .returned (.int .i64 (k + 2 * n)) ∧ w = w' := by
  obtain ⟨-, hc1, hc2⟩ := h.len
  unfold maxLen at hc2
  have H := Lib.hid h
  clear h
  go_enter Tryd.func34, Tryd.ntmps34
  go_wp2_with fail
  go_loop [1, 5] (fun q i => ∃ j : Nat, j ≤ n ∧ i = .int .i64 j ∧ q = .int .i64 (k + 2 * j)) (fun _ i => n - (intOf i).toNat)
  case atStart => exact ⟨0, Nat.zero_le _, rfl, by simp⟩
  case round =>
    obtain ⟨j, hj, rfl, rfl⟩ := hrel
    by_cases hlt : j < n
    · obtain ⟨b, id, u, rfl, hbb, hd, a0, a1⟩ := H.out.elem (k := j) (by rw [mkT_length]; exact hlt)
      rw [mkT_get k hlt] at hd
      injection hd with hd
      injection hd with e1 e2
      subst e1 e2
      unfold b3 at a1
      go_wp2_with fail
      go_round
      case rel => exact ⟨j + 1, by omega, by go_num, by first | go_num | (congr 1; omega)⟩
      case measure => simp [intOf]; omega
    · have hjn : j = n := by omega
      subst hjn
      go_wp2_with fail
      go_ret
      exact ⟨rfl, rfl⟩

end Go.Proofs.YtnneamfndokleaaDoor
