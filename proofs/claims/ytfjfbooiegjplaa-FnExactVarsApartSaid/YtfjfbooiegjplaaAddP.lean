/-
  The program's list of parts that are still to be visited: addParts.
-/
import Derived.Test.YtfjfbooiegjplaaPSet
import Derived.Deep.RegionHeld3
namespace Go.Proofs.Ytfjfbooiegjplaa
open Go.RowKit Go.Deep
set_option linter.unusedVariables false

theorem Try.infoPtr : (Try.prog.info? 62).map (fun i => (i.zero, i.size, i.bytes)) = some (some (.pointer none), 1, 8) := by kernel_rfl

/-- A pointer as a value. -/
def kvP (a : Addr) : Value := .pointer (some a)

set_option maxRecDepth 4000 in
theorem told_ptr {w : World} {a : Addr} {ks : List Addr} (ha : Plain w a.block) (hk : ∀ b ∈ ks, Plain w b.block) : Told Try.prog 62 kvP w a ks := by
  intro b hb
  obtain ⟨i0, hi, hz0, hz1, hz2⟩ := info_parts Try.infoStmt
  have hte : Try.prog.info? 30 = some i0 := hi
  by_cases hne : a = b
  · subst hne
    have h : ∀ d : Nat, (Op.equalIn (d + 1) 62 (kvP a) (kvP a)).run Try.prog w = .ok true w := fun d => by
      simp [kvP, Op.equalIn, run_underlying Try.underlying62, sizeOf, typeInfo, hte, run_sameAddr_same]
    have h2 := h 9999
    show (Op.equalIn (9999 + 1) 62 (kvP a) (kvP a)).run Try.prog w = _
    rw [h2, decide_eq_true rfl]
  · have h : ∀ d : Nat, (Op.equalIn (d + 1) 62 (kvP a) (kvP b)).run Try.prog w = .ok false w := fun d => by
      simp [kvP, Op.equalIn, run_underlying Try.underlying62, sizeOf, typeInfo, hte, hz1, run_sameAddr_plain hne ha (hk b hb)]
    have h2 := h 9999
    show (Op.equalIn (9999 + 1) 62 (kvP a) (kvP b)).run Try.prog w = _
    rw [h2, decide_eq_false hne]

theorem check_ptr (em : Bool) (a : Addr) (w : World) : (Instr.checkKey em 10000 62 (kvP a)).run Try.prog w = .ok () w := by
  have h : ∀ n, (Instr.checkKey em (n + 1) 62 (kvP a)).run Try.prog w = .ok () w := fun n => by
    simp [Instr.checkKey, kvP, run_underlying Try.underlying62]
  exact h 9999

/-- A row of pointers that the call owns. -/
def RowP (w : World) (B : Nat) (v : Value) (ps : List Addr) : Prop := w.ownsRow B 62 1 v ps.length (ps.map kvP)

theorem RowP.snoc {w : World} {B : Nat} {v : Value} {ps : List Addr} {a : Addr} (h : w.ownsRow B 62 1 v (ps.length + 1) (ps.map kvP ++ [.pointer (some a)])) : RowP w B v (ps ++ [a]) := by
  unfold RowP
  rw [List.length_append, List.map_append]
  exact h

theorem RowP.keep {w w' : World} {B : Nat} {v : Value} {ps : List Addr} (h : RowP w B v ps) (hk : ∀ g, v.ownBlock = some g → w'.heap[g]? = w.heap[g]?) : RowP w' B v ps := own_keep h hk

theorem RowP.form {w : World} {B : Nat} {v : Value} {ps : List Addr} (h : RowP w B v ps) : ∃ A c, v = .slice A ps.length c ∧ ps.length ≤ c ∧ c ≤ maxLen ∧ (0 < ps.length → ∃ g, A = some ⟨g, 0, none⟩ ∧ B ≤ g ∧ g < w.heap.size) := own_form h

/-- A row of pointers, shortened. -/
theorem RowP.short {w : World} {B : Nat} {ps : List Addr} {x : Addr} {A : Option Addr} {c : Nat} (h : RowP w B (.slice A (ps.length + 1) c) (ps ++ [x])) : RowP w B (.slice A ps.length c) ps ∧ ∃ g, A = some ⟨g, 0, none⟩ ∧ ps.length + 1 ≤ c ∧ c ≤ maxLen ∧ w.cell? ⟨g, ps.length, none⟩ = some (.pointer (some x)) := by
  rcases h.2 with ⟨h1, h2⟩ | ⟨g, cap, cur, h1, h2, h3, h4, h5, h6, h7⟩
  · simp at h2
  · simp only [List.length_append, List.length_cons, List.length_nil, Nat.zero_add, Value.slice.injEq, true_and] at h1 h4
    obtain ⟨rfl, rfl⟩ := h1
    have h8 : cur.toList.take (ps.length * 1) = ps.map kvP := by
      have e : cur.toList.take (ps.length * 1) = (cur.toList.take ((ps ++ [x]).length * 1)).take (ps.length * 1) := by
        rw [List.take_take]
        congr 1
        simp
      rw [e, h7, List.map_append]
      have : ps.length * 1 = (ps.map kvP).length := by simp
      rw [this, List.take_left]
    refine ⟨⟨by simp, .inr ⟨g, c, cur, rfl, h2, h3, by omega, h5, h6, h8⟩⟩, g, rfl, h4, h5, ?_⟩
    rw [cell_of_block h3]
    have h9 : (cur.toList.take ((ps ++ [x]).length * 1))[ps.length]? = some (.pointer (some x)) := by
      rw [h7]
      simp [kvP]
    rw [List.getElem?_take] at h9
    simpa using h9

/-- What of a list is new, in order. -/
def addN (ks l : List Addr) : List Addr := l.foldl (fun acc a => if a ∈ ks ++ acc then acc else acc ++ [a]) []

theorem addN_snoc (ks l : List Addr) (a : Addr) : addN ks (l ++ [a]) = if a ∈ ks ++ addN ks l then addN ks l else addN ks l ++ [a] := by
  unfold addN
  rw [List.foldl_append]
  rfl

theorem mem_addN_go (ks : List Addr) (x : Addr) : ∀ (l acc : List Addr), x ∈ ks ++ l.foldl (fun acc a => if a ∈ ks ++ acc then acc else acc ++ [a]) acc ↔ (x ∈ ks ∨ x ∈ acc) ∨ x ∈ l
  | [], acc => by simp
  | a :: l, acc => by
    rw [List.foldl_cons, mem_addN_go ks x l]
    by_cases h : a ∈ ks ++ acc
    · rw [if_pos h]
      simp only [List.mem_append] at h
      simp only [List.mem_cons]
      constructor
      · rintro (h1 | h1)
        · exact .inl h1
        · exact .inr (.inr h1)
      · rintro (h1 | rfl | h1)
        · exact .inl h1
        · exact .inl h
        · exact .inr h1
    · rw [if_neg h]
      simp only [List.mem_append, List.mem_cons, List.not_mem_nil, or_false]
      constructor
      · rintro ((h1 | h1 | h1) | h1)
        · exact .inl (.inl h1)
        · exact .inl (.inr h1)
        · exact .inr (.inl h1)
        · exact .inr (.inr h1)
      · rintro ((h1 | h1) | h1 | h1)
        · exact .inl (.inl h1)
        · exact .inl (.inr (.inl h1))
        · exact .inl (.inr (.inr h1))
        · exact .inr h1

theorem mem_addN (ks l : List Addr) (x : Addr) : x ∈ ks ++ addN ks l ↔ x ∈ ks ∨ x ∈ l := by
  have := mem_addN_go ks x l []
  unfold addN
  rw [this]
  simp

theorem addN_sub (ks l : List Addr) : ∀ x ∈ addN ks l, x ∈ l := by
  have : ∀ (l acc : List Addr), ∀ x ∈ l.foldl (fun acc a => if a ∈ ks ++ acc then acc else acc ++ [a]) acc, x ∈ acc ∨ x ∈ l := by
    intro l
    induction l with
    | nil => intro acc x hx; exact .inl hx
    | cons a l ih =>
      intro acc x hx
      rw [List.foldl_cons] at hx
      rcases ih _ x hx with h | h
      · split at h
        · exact .inl h
        · rcases List.mem_append.1 h with h | h
          · exact .inl h
          · rw [List.mem_singleton] at h
            exact .inr (by simp [h])
      · exact .inr (List.mem_cons_of_mem _ h)
  intro x hx
  rcases this l [] x hx with h | h
  · cases h
  · exact h

theorem addN_len (ks l : List Addr) : (addN ks l).length ≤ l.length := by
  have : ∀ (l acc : List Addr), (l.foldl (fun acc a => if a ∈ ks ++ acc then acc else acc ++ [a]) acc).length ≤ acc.length + l.length := by
    intro l
    induction l with
    | nil => intro acc; simp
    | cons a l ih =>
      intro acc
      rw [List.foldl_cons]
      refine Nat.le_trans (ih _) ?_
      split
      · simp only [List.length_cons]
        omega
      · simp only [List.length_cons, List.length_append, List.length_nil]
        omega
  have := this l []
  rwa [List.length_nil, Nat.zero_add] at this

/-- The pointers to the first n statements of a list. -/
def elsA (A : Option Addr) (n : Nat) : List Addr := match A with | some b => (List.range n).map fun i => b.add (i * 6) | none => []

theorem elsA_succ (b : Addr) (n : Nat) : elsA (some b) (n + 1) = elsA (some b) n ++ [b.add (n * 6)] := by
  simp [elsA, List.range_succ]

theorem elsA_len (A : Option Addr) (n : Nat) : (elsA A n).length ≤ n := by
  cases A <;> simp [elsA]

/-- What a call keeps: the blocks that it may not write. -/
structure Keeps (P : Nat → Prop) (w w' : World) : Prop where
  os : w'.os = w.os
  tape : w'.tape = w.tape
  output : w'.output = w.output
  size : w.heap.size ≤ w'.heap.size
  block : ∀ k, P k → w'.heap[k]? = w.heap[k]?

theorem Keeps.refl (P : Nat → Prop) (w : World) : Keeps P w w := ⟨rfl, rfl, rfl, Nat.le_refl _, fun _ _ => rfl⟩

theorem Keeps.trans {P Q R : Nat → Prop} {a b c : World} (h : Keeps P a b) (k : Keeps Q b c) (h1 : ∀ i, R i → P i) (h2 : ∀ i, R i → Q i) : Keeps R a c :=
  ⟨k.os.trans h.os, k.tape.trans h.tape, k.output.trans h.output, Nat.le_trans h.size k.size, fun i hi => (k.block i (h2 i hi)).trans (h.block i (h1 i hi))⟩

theorem Keeps.of_grown {P : Nat → Prop} {w w' : World} {row : Option Nat} (h : w.grownBy w' row) (hP : ∀ k, P k → k < w.heap.size ∧ row ≠ some k) : Keeps P w w' :=
  ⟨h.os, h.tape, h.output, h.size, fun k hk => h.block k (hP k hk).1 (fun e => (hP k hk).2 e.symm)⟩

theorem Keeps.of_below {P : Nat → Prop} {w w' : World} {B : Nat} (h : Below B w w') (hP : ∀ k, P k → k < B) : Keeps P w w' := ⟨h.os, h.tape, h.output, h.size, fun k hk => h.block k (hP k hk)⟩

theorem Keeps.weak {P Q : Nat → Prop} {w w' : World} (h : Keeps P w w') (hQ : ∀ k, Q k → P k) : Keeps Q w w' := ⟨h.os, h.tape, h.output, h.size, fun k hk => h.block k (hQ k hk)⟩

set_option maxRecDepth 100000 in
set_option maxHeartbeats 4000000 in
theorem addParts_any (g B : Nat) (ps ks : List Addr) (v : Value) (A : Option Addr) (n c : Nat) (w : World) (hv : RowP w B v ps) (hS : PSet kvP w g ks) (hg : g < B) (hB : B ≤ w.heap.size)
    (hn : n ≤ c) (hc : c ≤ maxLen) (hA : 0 < n → ∃ b, A = some b ∧ Plain w b.block ∧ b.block < B) (hk : ∀ b ∈ ks, Plain w b.block ∧ b.block < B) (hl : ps.length + n ≤ 4000000) :
    Calls Try.prog 56 #[v, .slice A n c, .map (some g)] w fun E w' => ∃ v', E = .returned v' ∧ RowP w' B v' (ps ++ addN ks (elsA A n)) ∧ PSet kvP w' g (ks ++ addN ks (elsA A n)) ∧ Keeps (fun k => k < B ∧ k ≠ g) w w' := by
  obtain ⟨i0, hi, hz0, hz1, hz2⟩ := info_parts Try.infoPtr
  have HI := Lib.hid hi
  have HZ0 := Lib.hid hz0
  have HZ1 := Lib.hid hz1
  have HZ2 := Lib.hid hz2
  have HV := Lib.hid hv
  have HS := Lib.hid hS
  have HA := Lib.hid hA
  have HK := Lib.hid hk
  have HNP : Hid (∀ k, Plain w k → k ≠ g) := fun k h1 e => by
    obtain ⟨es, cl, h2, _⟩ := hS
    obtain ⟨cs, t, fr, h3, _⟩ := h1
    rw [e, h2] at h3
    cases h3
  unfold maxLen at hc
  clear hi hz0 hz1 hz2 hv hS hA hk
  go_enter Try.func56, Try.ntmps56
  go_wp2_with fail
  go_loopw [0, 11] (fun q i wr => ∃ j : Nat, j ≤ n ∧ i = .int .i64 j ∧ Hid (RowP wr B q (ps ++ addN ks (elsA A j))) ∧ Hid (PSet kvP wr g (ks ++ addN ks (elsA A j))) ∧ Hid (Keeps (fun k => k < B ∧ k ≠ g) w wr)) (fun _ i _ => n - (intOf i).toNat)
  case atStart =>
    have h0 : addN ks (elsA A 0) = [] := by cases A <;> rfl
    exact ⟨0, Nat.zero_le _, rfl, by rw [h0, List.append_nil]; exact HV, by rw [h0, List.append_nil]; exact HS, Keeps.refl _ _⟩
  case round =>
    obtain ⟨j, hj, rfl, hR, hP, hKp⟩ := hrel
    clear HV HS
    by_cases hlt : j < n
    · obtain ⟨b, rfl, hpl, hbB⟩ := HA.out (by omega)
      have hpl2 : ∀ k, Plain w k → k < B → Plain wr k := fun k h1 h2 => h1.keep (hKp.out.block k ⟨h2, HNP.out k h1⟩)
      obtain ⟨p, hp⟩ : ∃ p, b.add (j * 6) = p := ⟨_, rfl⟩
      have hpb : p.block = b.block := by rw [← hp]; exact block_add _ _
      obtain ⟨ns, hns⟩ : ∃ ns, addN ks (elsA (some b) j) = ns := ⟨_, rfl⟩
      have hsnoc : Hid (addN ks (elsA (some b) (j + 1)) = if p ∈ ks ++ ns then ns else ns ++ [p]) := by
        unfold Hid
        rw [elsA_succ, addN_snoc, hp, hns]
      have hnl : ns.length ≤ j := by rw [← hns]; exact Nat.le_trans (addN_len _ _) (elsA_len _ _)
      have hnsub : ∀ x ∈ ns, Plain wr x.block := by
        intro x hx
        rw [← hns] at hx
        have h1 := addN_sub _ _ x hx
        simp only [elsA, List.mem_map] at h1
        obtain ⟨i, _, rfl⟩ := h1
        rw [block_add]
        exact hpl2 _ hpl hbB
      have hT : Hid (Told Try.prog 62 kvP wr p (ks ++ ns)) := told_ptr (by rw [hpb]; exact hpl2 _ hpl hbB) (fun x hx => by
        rcases List.mem_append.1 hx with hx | hx
        · exact hpl2 _ (HK.out x hx).1 (HK.out x hx).2
        · exact hnsub x hx)
      rw [hns] at hR hP
      have hlk := hP.out.lookup Try.underlying62 Try.underlying76 (Try.zeroValue4 wr) (fun em a => check_ptr em a wr) (fun _ _ => rfl) p hT.out
      clear hns hnsub hpl2 HA hpl
      have HP0 := Lib.hid hp
      by_cases hin : p ∈ ks ++ ns
      · rw [decide_eq_true hin] at hlk
        rw [if_pos hin] at hsnoc
        unfold kvP at hlk
        go_wp2_with fail
        go_roundw
        case rel => exact ⟨j + 1, by omega, by go_num, by rw [hsnoc.out]; exact hR, by rw [hsnoc.out]; exact hP, hKp⟩
        case measure => simp [intOf]; omega
      · rw [decide_eq_false hin] at hlk
        rw [if_neg hin] at hsnoc
        obtain ⟨w1, hup, hP1, hg1, hz1⟩ := hP.out.update Try.underlying62 Try.underlying76 (fun em a => check_ptr em a wr) (fun _ _ => rfl) p hT.out hin
        unfold kvP at hlk hup
        have hR1 : RowP w1 B u0 (ps ++ ns) := hR.out.keep fun m hm => hg1.block m (hR.out.lt m hm).2 (fun e => by have := (hR.out.lt m hm).1; injection e with e; omega)
        have HR1 := Lib.hid hR1
        have HP1 := Lib.hid hP1
        have HG1 := Lib.hid hg1
        have hrl : (ps ++ ns).length ≤ 4000000 := by rw [List.length_append]; omega
        clear hR1 hP1 hg1 hR hP
        go_wp2_with (at_builtin; refine wpList_append_own _ rfl _ _ 77 rfl B 62 i0 (.pointer none) 1 8 Try.underlying77 HI.out HZ0.out HZ1.out HZ2.out rfl (by decide) _ _ _ rfl (HR1.out.alloc _) ⟨_, 0, none⟩ 1 1 [.pointer (some p)] rfl rfl ?ra1 ?ra2 ?ra3 ?ra4 ?ra5 ?_)
        try (case ra1 => exact news1 hz1 rfl)
        try (case ra2 => intro u hu; simp only [List.mem_cons, List.not_mem_nil, or_false] at hu; subst hu; rfl)
        try (case ra3 => unfold maxLen; omega)
        try (case ra4 => omega)
        try (case ra5 => have := hKp.out.size; simp; omega)
        intro v' w' hown' hgr hne
        have hsz := hKp.out.size
        have hP2 : PSet kvP w' g (ks ++ (ns ++ [p])) := by
          rw [← List.append_assoc]
          refine HP1.out.keep ((hgr.block g (by simp; omega) (fun e => ?_)).trans (Below.heap_alloc _ _ _ (by omega)))
          have := (HR1.out.lt g e.symm).1
          omega
        have hK2 : Keeps (fun k => k < B ∧ k ≠ g) w w' := ⟨hgr.os.trans (HG1.out.os.trans hKp.out.os), hgr.tape.trans (HG1.out.tape.trans hKp.out.tape), hgr.output.trans (HG1.out.output.trans hKp.out.output), by have := hgr.size; simp at this; omega, fun k hk => by
          refine (hgr.block k (by simp; omega) (fun e => ?_)).trans ((Below.heap_alloc _ _ _ (by omega)).trans ((HG1.out.block k (by omega) (fun e => ?_)).trans (hKp.out.block k hk)))
          · have := (HR1.out.lt k e.symm).1
            omega
          · injection e with e
            omega⟩
        have HR' : Hid (RowP w' B v' (ps ++ (ns ++ [p]))) := by
          unfold Hid
          rw [← List.append_assoc]
          exact RowP.snoc (by simpa using hown')
        have HP2 := Lib.hid hP2
        have HK2 := Lib.hid hK2
        clear hown' hgr hne hP2 hK2 hup hlk HR1 HP1 HG1
        go_wp2_with fail
        go_roundw
        case rel => exact ⟨j + 1, by omega, by go_num, by rw [hsnoc.out]; exact HR', by rw [hsnoc.out]; exact HP2, HK2⟩
        case measure => simp [intOf]; omega
    · have hj' : j = n := by omega
      subst hj'
      go_wp2_with fail
      go_ret
      exact ⟨_, rfl, hR.out, hP.out, hKp.out⟩

end Go.Proofs.Ytfjfbooiegjplaa
