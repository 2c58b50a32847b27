/-
  The program's points of a list of statements.
-/
import Derived.Test.YtcaklhempmlpgaaGrA
import Derived.Lib.Hide
namespace Go.Proofs.Ytcaklhempmlpgaa
open Go.RowKit Go.Deep
set_option linter.unusedVariables false

theorem set_mid {α : Type} (A : List α) (d d' : α) (B : List α) : (A ++ d :: B).set A.length d' = A ++ d' :: B := by simp

theorem get_mid {α : Type} (A : List α) (d : α) (B : List α) : (A ++ d :: B)[A.length]? = some d := by simp

set_option maxHeartbeats 1000000 in
theorem leadHere_any (C k : Nat) (d : Nd) (ns : List Nd) (w : World) (hG : Gr C w ns) (hd : ns[k]? = some d) (h1 : d.next.length < 2) :
    Calls Try.prog 59 #[.pointer (some ⟨C, 0, none⟩), .int .i64 k] w
      fun E w' => E = .returned (.tuple #[]) ∧ Gr C w' (ns.set k { d with next := d.next ++ [(ns.length : Int)] }) ∧ Turn C w w' := by
  have hcount := hG.count
  have HG := Lib.hid hG
  have HD := Lib.hid hd
  clear hG hd
  go_enter Try.func59, Try.ntmps59
  go_wp2_with fail
  refine (lead_any C k ns.length d ns w HG.out HD.out h1).mono ?_
  rintro E w1 ⟨rfl, hG1, hT1⟩
  have HG1 := Lib.hid hG1
  clear hG1
  go_wp2_with fail
  go_end0
  exact ⟨rfl, HG1.out, hT1⟩

/-- What adding a list of statements, or one, does. -/
def AddPost (C : Nat) (w : World) (ns ds : List Nd) (E : Ending) (w' : World) : Prop := E = .returned (.tuple #[]) ∧ Gr C w' (ns ++ ds) ∧ Turn C w w'

theorem add_at (C k : Nat) (op x y n : Int) (ns : List Nd) (w : World) (hG : Gr C w ns) (hk : Hid (ns.length = k)) (h60 : k < 61) :
    Calls Try.prog 39 #[.pointer (some ⟨C, 0, none⟩), .agg #[.int .i64 op, .int .i64 x, .int .i64 y, .int .i64 n, .int .i64 0, .int .i64 0, .int .i64 0]] w
      fun E w' => E = .returned (.int .i64 k) ∧ Gr C w' (ns ++ [⟨op, x, y, n, []⟩]) ∧ Turn C w w' := by
  have := hk.out
  subst this
  exact add_any C op x y n ns w hG h60

theorem lead_at (C k : Nat) (to : Int) (d : Nd) (A B : List Nd) (w : World) (hG : Gr C w (A ++ d :: B)) (hk : Hid (A.length = k)) (h1 : d.next.length < 2) :
    Calls Try.prog 60 #[.pointer (some ⟨C, 0, none⟩), .int .i64 k, .int .i64 to] w
      fun E w' => E = .returned (.tuple #[]) ∧ Gr C w' (A ++ { d with next := d.next ++ [to] } :: B) ∧ Turn C w w' := by
  have := hk.out
  subst this
  refine (lead_any C A.length to d _ w hG (get_mid A d B) h1).mono fun E w' h => ?_
  rw [set_mid] at h
  exact h

theorem leadHere_at (C k m : Nat) (d : Nd) (A B : List Nd) (w : World) (hG : Gr C w (A ++ d :: B)) (hk : Hid (A.length = k)) (hm : Hid (A.length + (B.length + 1) = m)) (h1 : d.next.length < 2) :
    Calls Try.prog 59 #[.pointer (some ⟨C, 0, none⟩), .int .i64 k] w
      fun E w' => E = .returned (.tuple #[]) ∧ Gr C w' (A ++ { d with next := d.next ++ [(m : Int)] } :: B) ∧ Turn C w w' := by
  have := hk.out
  subst this
  have := hm.out
  subst this
  refine (leadHere_any C A.length d _ w hG (get_mid A d B) h1).mono fun E w' h => ?_
  rw [set_mid, List.length_append, List.length_cons] at h
  exact h

set_option maxRecDepth 100000 in
set_option maxHeartbeats 2000000 in
theorem addStmt_simple (C : Nat) (op x y n : Int) (nt ct ne ce : Nat) (At Ae : Option Addr) (T E' : List Nd) (kt ke : Nat) (ns : List Nd) (w : World) (hG : Gr C w ns) (h9 : (op == 9) = false) (h10 : (op == 10) = false) (hl : ns.length + 1 ≤ 61) :
    Calls Try.prog 50 #[.pointer (some ⟨C, 0, none⟩), .agg #[.int .i64 op, .int .i64 x, .int .i64 y, .int .i64 n, .slice At nt ct, .slice Ae ne ce]] w (AddPost C w ns (stPts op x y n ns.length kt ke T E')) := by
  have hst : Hid (stPts op x y n ns.length kt ke T E' = [⟨op, x, y, n, [((ns.length + 1 : Nat) : Int)]⟩]) := by
    have e9 : ¬ op = 9 := by simpa using h9
    have e10 : ¬ op = 10 := by simpa using h10
    simp [Hid, stPts, e9, e10]
  have hT0 := (Turn.refl C w).alloc (.cells #[.int .i64 op, .int .i64 x, .int .i64 y, .int .i64 n, .slice At nt ct, .slice Ae ne ce] 41)
  have hG0 := hG.alloc (.cells #[.int .i64 op, .int .i64 x, .int .i64 y, .int .i64 n, .slice At nt ct, .slice Ae ne ce] 41)
  have HG0 := Lib.hid hG0
  clear hG0 hG
  go_enter Try.func50, Try.ntmps50
  go_wp2_with fail
  refine (add_at C ns.length op x y n ns _ HG0.out rfl (by omega)).mono ?_
  rintro E w1 ⟨rfl, hG1, hT1⟩
  have HG1 := Lib.hid hG1
  clear hG1
  go_wp2_with fail
  refine (leadHere_at C ns.length (ns.length + 1) ⟨op, x, y, n, []⟩ ns [] _ HG1.out rfl rfl (by simp)).mono ?_
  rintro E w2 ⟨rfl, hG2, hT2⟩
  have HG2 := Lib.hid hG2
  clear hG2
  go_wp2_with fail
  go_end0
  exact ⟨rfl, by rw [hst.out]; exact HG2.out, hT0.trans (hT1.trans hT2)⟩

set_option maxRecDepth 100000 in
set_option maxHeartbeats 4000000 in
theorem addStmt_10 (C : Nat) (x y n : Int) (t e : Sts) (At Ae : Option Addr) (ct ce : Nat) (ns : List Nd) (w : World) (hG : Gr C w ns) (hl : ns.length + (2 + t.npts) ≤ 61)
    (HT : ∀ ns' w', Turn C w w' → Gr C w' ns' → ns'.length + t.npts ≤ 61 → Calls Try.prog 38 #[.pointer (some ⟨C, 0, none⟩), .slice At t.len ct] w' (AddPost C w' ns' (t.pts ns'.length))) :
    Calls Try.prog 50 #[.pointer (some ⟨C, 0, none⟩), .agg #[.int .i64 10, .int .i64 x, .int .i64 y, .int .i64 n, .slice At t.len ct, .slice Ae e.len ce]] w
      (AddPost C w ns (stPts 10 x y n ns.length t.npts e.npts (t.pts (ns.length + 1)) (e.pts (ns.length + 2 + t.npts)))) := by
  obtain ⟨T, hTT⟩ : ∃ T, T = t.pts (ns.length + 1) := ⟨_, rfl⟩
  obtain ⟨m, hm⟩ : ∃ m, m = ns.length + 1 + t.npts := ⟨_, rfl⟩
  have htl : T.length = t.npts := by rw [hTT, Sts.pts_len]
  have hst : Hid (stPts 10 x y n ns.length t.npts e.npts (t.pts (ns.length + 1)) (e.pts (ns.length + 2 + t.npts)) = ⟨10, 0, 0, 0, [((ns.length + 1 : Nat) : Int), ((m + 1 : Nat) : Int)]⟩ :: (T ++ [⟨10, 0, 0, 1, [(ns.length : Int)]⟩])) := by
    unfold Hid
    rw [← hTT, hm, show ns.length + 1 + t.npts + 1 = ns.length + 2 + t.npts by omega]
    rfl
  have h2 : ns.length + 1 + t.npts ≤ 61 := by omega
  have h3 : m < 61 := by omega
  have HA : Hid ((ns ++ ⟨10, 0, 0, 0, [((ns.length + 1 : Nat) : Int)]⟩ :: T).length = m) := by unfold Hid; simp; omega
  have HM : Hid (ns.length + ((T ++ [(⟨10, 0, 0, 1, [(ns.length : Int)]⟩ : Nd)]).length + 1) = m + 1) := by unfold Hid; simp; omega
  have HTT := Lib.hid hTT
  clear hTT hm htl
  have hT0 := (Turn.refl C w).alloc (.cells #[.int .i64 10, .int .i64 x, .int .i64 y, .int .i64 n, .slice At t.len ct, .slice Ae e.len ce] 41)
  have hG0 := hG.alloc (.cells #[.int .i64 10, .int .i64 x, .int .i64 y, .int .i64 n, .slice At t.len ct, .slice Ae e.len ce] 41)
  have hz0 : (w.alloc (.cells #[.int .i64 10, .int .i64 x, .int .i64 y, .int .i64 n, .slice At t.len ct, .slice Ae e.len ce] 41)).heap.size = w.heap.size + 1 := by simp
  have hB0 := heap_alloc_new w (.cells #[.int .i64 10, .int .i64 x, .int .i64 y, .int .i64 n, .slice At t.len ct, .slice Ae e.len ce] 41)
  have hCw := hG.lt
  have HG0 := Lib.hid hG0
  have HB0 := Lib.hid hB0
  have HZ0 := Lib.hid hz0
  clear hG0 hG hB0 hz0
  go_enter Try.func50, Try.ntmps50
  go_wp2_with fail
  refine (add_at C ns.length 10 0 0 0 ns _ HG0.out rfl (by omega)).mono ?_
  rintro E w1 ⟨rfl, hG1, hT1⟩
  have HG1 := Lib.hid hG1
  clear hG1
  go_wp2_with fail
  refine (leadHere_at C ns.length (ns.length + 1) ⟨10, 0, 0, 0, []⟩ ns [] _ HG1.out rfl rfl (by simp)).mono ?_
  rintro E w2 ⟨rfl, hG2, hT2⟩
  have HG2 := Lib.hid hG2
  have hTa := hT1.trans hT2
  have hs2 := hTa.size
  rw [HZ0.out] at hs2
  have HB2 := Lib.hid ((hTa.block w.heap.size (by rw [HZ0.out]; omega) (by omega)).trans HB0.out)
  have hTb := hT0.trans hTa
  have c4 : w2.cell? ⟨w.heap.size, 4, none⟩ = some (.slice At t.len ct) := (cell_of_block HB2.out 4).trans rfl
  clear hG2 hT1 hT2 hTa hT0 HG0 HG1
  go_wp2_with fail
  refine (HT _ _ hTb HG2.out (by simp; omega)).mono ?_
  rintro E w3 ⟨rfl, hG3, hT3⟩
  have HG3 : Hid (Gr C w3 (ns ++ ⟨10, 0, 0, 0, [((ns.length + 1 : Nat) : Int)]⟩ :: T)) := by
    unfold Hid
    rw [HTT.out]
    have hln : (ns ++ [(⟨10, 0, 0, 0, [] ++ [((ns.length + 1 : Nat) : Int)]⟩ : Nd)]).length = ns.length + 1 := by simp
    have := hG3
    rw [hln, List.append_assoc] at this
    exact this
  have hTc := hTb.trans hT3
  clear hG3 hT3 hTb c4 HG2
  go_wp2_with fail
  refine (add_at C m 10 0 0 1 _ _ HG3.out HA h3).mono ?_
  rintro E w4 ⟨rfl, hG4, hT4⟩
  have HG4 := Lib.hid hG4
  have hTd := hTc.trans hT4
  clear hG4 hT4 hTc
  go_wp2_with fail
  refine (lead_at C m ns.length ⟨10, 0, 0, 1, []⟩ (ns ++ ⟨10, 0, 0, 0, [((ns.length + 1 : Nat) : Int)]⟩ :: T) [] _ HG4.out HA (by simp)).mono ?_
  rintro E w5 ⟨rfl, hG5, hT5⟩
  have HG5 : Hid (Gr C w5 (ns ++ ⟨10, 0, 0, 0, [((ns.length + 1 : Nat) : Int)]⟩ :: (T ++ [⟨10, 0, 0, 1, [(ns.length : Int)]⟩]))) := by
    unfold Hid
    have := hG5
    rw [List.append_assoc, List.cons_append] at this
    exact this
  have hTe := hTd.trans hT5
  clear hG5 hT5 hTd
  go_wp2_with fail
  refine (leadHere_at C ns.length (m + 1) ⟨10, 0, 0, 0, [((ns.length + 1 : Nat) : Int)]⟩ ns (T ++ [⟨10, 0, 0, 1, [(ns.length : Int)]⟩]) _ HG5.out rfl HM (by simp)).mono ?_
  rintro E w6 ⟨rfl, hG6, hT6⟩
  have HG6 := Lib.hid hG6
  clear hG6
  go_wp2_with fail
  go_end0
  exact ⟨rfl, by rw [hst.out]; exact HG6.out, hTe.trans hT6⟩

set_option maxRecDepth 100000 in
set_option maxHeartbeats 4000000 in
theorem addStmt_9 (C : Nat) (x y n : Int) (t e : Sts) (At Ae : Option Addr) (ct ce : Nat) (ns : List Nd) (w : World) (hG : Gr C w ns) (hl : ns.length + (2 + t.npts + e.npts) ≤ 61)
    (HT : ∀ ns' w', Turn C w w' → Gr C w' ns' → ns'.length + t.npts ≤ 61 → Calls Try.prog 38 #[.pointer (some ⟨C, 0, none⟩), .slice At t.len ct] w' (AddPost C w' ns' (t.pts ns'.length)))
    (HE : ∀ ns' w', Turn C w w' → Gr C w' ns' → ns'.length + e.npts ≤ 61 → Calls Try.prog 38 #[.pointer (some ⟨C, 0, none⟩), .slice Ae e.len ce] w' (AddPost C w' ns' (e.pts ns'.length))) :
    Calls Try.prog 50 #[.pointer (some ⟨C, 0, none⟩), .agg #[.int .i64 9, .int .i64 x, .int .i64 y, .int .i64 n, .slice At t.len ct, .slice Ae e.len ce]] w
      (AddPost C w ns (stPts 9 x y n ns.length t.npts e.npts (t.pts (ns.length + 1)) (e.pts (ns.length + 2 + t.npts)))) := by
  obtain ⟨T, hTT⟩ : ∃ T, T = t.pts (ns.length + 1) := ⟨_, rfl⟩
  obtain ⟨L, hLL⟩ : ∃ L, L = e.pts (ns.length + 2 + t.npts) := ⟨_, rfl⟩
  obtain ⟨m, hm⟩ : ∃ m, m = ns.length + 1 + t.npts := ⟨_, rfl⟩
  obtain ⟨q, hq⟩ : ∃ q, q = ns.length + 2 + t.npts + e.npts := ⟨_, rfl⟩
  have htl : T.length = t.npts := by rw [hTT, Sts.pts_len]
  have hll : L.length = e.npts := by rw [hLL, Sts.pts_len]
  have hst : Hid (stPts 9 x y n ns.length t.npts e.npts (t.pts (ns.length + 1)) (e.pts (ns.length + 2 + t.npts)) = ⟨9, 0, 0, 0, [((ns.length + 1 : Nat) : Int), ((m + 1 : Nat) : Int)]⟩ :: (T ++ ⟨10, 0, 0, 1, [(q : Int)]⟩ :: L)) := by
    unfold Hid
    rw [← hTT, ← hLL, hm, hq, show ns.length + 1 + t.npts + 1 = ns.length + 2 + t.npts by omega]
    rfl
  have h3 : m < 61 := by omega
  have h4 : m + 1 + e.npts ≤ 61 := by omega
  have HA : Hid ((ns ++ ⟨9, 0, 0, 0, [((ns.length + 1 : Nat) : Int)]⟩ :: T).length = m) := by unfold Hid; simp; omega
  have HA2 : Hid ((ns ++ ⟨9, 0, 0, 0, [((ns.length + 1 : Nat) : Int), ((m + 1 : Nat) : Int)]⟩ :: T).length = m) := by unfold Hid; simp; omega
  have HM : Hid (ns.length + ((T ++ [(⟨10, 0, 0, 1, []⟩ : Nd)]).length + 1) = m + 1) := by unfold Hid; simp; omega
  have HQ : Hid ((ns ++ ⟨9, 0, 0, 0, [((ns.length + 1 : Nat) : Int), ((m + 1 : Nat) : Int)]⟩ :: T).length + (L.length + 1) = q) := by unfold Hid; simp; omega
  have HMM : Hid (m = ns.length + 1 + t.npts) := hm
  have HTT := Lib.hid hTT
  have HLL := Lib.hid hLL
  clear hTT hLL hm hq htl hll
  have hT0 := (Turn.refl C w).alloc (.cells #[.int .i64 9, .int .i64 x, .int .i64 y, .int .i64 n, .slice At t.len ct, .slice Ae e.len ce] 41)
  have hG0 := hG.alloc (.cells #[.int .i64 9, .int .i64 x, .int .i64 y, .int .i64 n, .slice At t.len ct, .slice Ae e.len ce] 41)
  have hz0 : (w.alloc (.cells #[.int .i64 9, .int .i64 x, .int .i64 y, .int .i64 n, .slice At t.len ct, .slice Ae e.len ce] 41)).heap.size = w.heap.size + 1 := by simp
  have hB0 := heap_alloc_new w (.cells #[.int .i64 9, .int .i64 x, .int .i64 y, .int .i64 n, .slice At t.len ct, .slice Ae e.len ce] 41)
  have hCw := hG.lt
  have HG0 := Lib.hid hG0
  have HB0 := Lib.hid hB0
  have HZ0 := Lib.hid hz0
  clear hG0 hG hB0 hz0
  go_enter Try.func50, Try.ntmps50
  go_wp2_with fail
  refine (add_at C ns.length 9 0 0 0 ns _ HG0.out rfl (by omega)).mono ?_
  rintro E w1 ⟨rfl, hG1, hT1⟩
  have HG1 := Lib.hid hG1
  clear hG1
  go_wp2_with fail
  refine (leadHere_at C ns.length (ns.length + 1) ⟨9, 0, 0, 0, []⟩ ns [] _ HG1.out rfl rfl (by simp)).mono ?_
  rintro E w2 ⟨rfl, hG2, hT2⟩
  have HG2 := Lib.hid hG2
  have hTa := hT1.trans hT2
  have hs2 := hTa.size
  rw [HZ0.out] at hs2
  have HB2 := Lib.hid ((hTa.block w.heap.size (by rw [HZ0.out]; omega) (by omega)).trans HB0.out)
  have hTb := hT0.trans hTa
  have c4 : w2.cell? ⟨w.heap.size, 4, none⟩ = some (.slice At t.len ct) := (cell_of_block HB2.out 4).trans rfl
  clear hG2 hT1 hT2 hTa hT0 HG0 HG1
  go_wp2_with fail
  refine (HT _ _ hTb HG2.out (by simp; omega)).mono ?_
  rintro E w3 ⟨rfl, hG3, hT3⟩
  have HG3 : Hid (Gr C w3 (ns ++ ⟨9, 0, 0, 0, [((ns.length + 1 : Nat) : Int)]⟩ :: T)) := by
    unfold Hid
    rw [HTT.out]
    have hln : (ns ++ [(⟨9, 0, 0, 0, [] ++ [((ns.length + 1 : Nat) : Int)]⟩ : Nd)]).length = ns.length + 1 := by simp
    have := hG3
    rw [hln, List.append_assoc] at this
    exact this
  have hs3 := hT3.size
  have HB3 := Lib.hid ((hT3.block w.heap.size (by omega) (by omega)).trans HB2.out)
  have hTc := hTb.trans hT3
  clear hG3 hT3 hTb c4 HG2 HB2
  go_wp2_with fail
  refine (add_at C m 10 0 0 1 _ _ HG3.out HA h3).mono ?_
  rintro E w4 ⟨rfl, hG4, hT4⟩
  have HG4 : Hid (Gr C w4 (ns ++ ⟨9, 0, 0, 0, [((ns.length + 1 : Nat) : Int)]⟩ :: (T ++ [⟨10, 0, 0, 1, []⟩]))) := by
    unfold Hid
    have := hG4
    rw [List.append_assoc, List.cons_append] at this
    exact this
  have hs4 := hT4.size
  have HB4 := Lib.hid ((hT4.block w.heap.size (by omega) (by omega)).trans HB3.out)
  have hTd := hTc.trans hT4
  clear hG4 hT4 hTc HB3
  go_wp2_with fail
  refine (leadHere_at C ns.length (m + 1) ⟨9, 0, 0, 0, [((ns.length + 1 : Nat) : Int)]⟩ ns (T ++ [⟨10, 0, 0, 1, []⟩]) _ HG4.out rfl HM (by simp)).mono ?_
  rintro E w5 ⟨rfl, hG5, hT5⟩
  have HG5 : Hid (Gr C w5 ((ns ++ ⟨9, 0, 0, 0, [((ns.length + 1 : Nat) : Int), ((m + 1 : Nat) : Int)]⟩ :: T) ++ [⟨10, 0, 0, 1, []⟩])) := by
    unfold Hid
    rw [List.append_assoc, List.cons_append]
    exact hG5
  have hs5 := hT5.size
  have HB5 := Lib.hid ((hT5.block w.heap.size (by omega) (by omega)).trans HB4.out)
  have c5 : w5.cell? ⟨w.heap.size, 5, none⟩ = some (.slice Ae e.len ce) := (cell_of_block HB5.out 5).trans rfl
  have hTe := hTd.trans hT5
  have HL5 : Hid (((ns ++ ⟨9, 0, 0, 0, [((ns.length + 1 : Nat) : Int), ((m + 1 : Nat) : Int)]⟩ :: T) ++ [(⟨10, 0, 0, 1, []⟩ : Nd)]).length = m + 1) := by
    unfold Hid
    rw [List.length_append, HA2.out]
    rfl
  clear hG5 hT5 hTd HB4 HB5
  go_wp2_with fail
  refine (HE _ _ hTe HG5.out (by rw [HL5.out]; exact h4)).mono ?_
  rintro E w6 ⟨rfl, hG6, hT6⟩
  have HG6 : Hid (Gr C w6 ((ns ++ ⟨9, 0, 0, 0, [((ns.length + 1 : Nat) : Int), ((m + 1 : Nat) : Int)]⟩ :: T) ++ ⟨10, 0, 0, 1, []⟩ :: L)) := by
    unfold Hid
    have := hG6
    rw [HL5.out, List.append_assoc, show m + 1 = ns.length + 2 + t.npts by have := HMM.out; omega, ← HLL.out] at this
    have h5 : ((ns.length + 2 + t.npts : Nat) : Int) = ((m + 1 : Nat) : Int) := by have := HMM.out; omega
    rw [← h5]
    exact this
  have hTf := hTe.trans hT6
  clear hG6 hT6 hTe c5
  go_wp2_with fail
  refine (leadHere_at C m q ⟨10, 0, 0, 1, []⟩ _ L _ HG6.out HA2 HQ (by simp)).mono ?_
  rintro E w7 ⟨rfl, hG7, hT7⟩
  have HG7 := Lib.hid hG7
  clear hG7
  go_wp2_with fail
  go_end0
  refine ⟨rfl, ?_, hTf.trans hT7⟩
  rw [hst.out]
  have := HG7.out
  rw [List.append_assoc, List.cons_append] at this
  exact this

end Go.Proofs.Ytcaklhempmlpgaa
