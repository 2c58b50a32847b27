/-
  Worklists of pointers to statements, as plain data.
-/
import Derived.Test.YtfjfbooiegjplaaVisit
namespace Go.Proofs.Ytfjfbooiegjplaa
open Go.RowKit Go.Deep
set_option linter.unusedVariables false

theorem plain_of_cell {w : World} {p : Addr} {v : Value} (h : w.cell? p = some v) (hf : ∀ o, w.frozen? ⟨p.block, o, none⟩ = false) : Plain w p.block := by
  unfold World.cell? at h
  split at h
  · rename_i c t fr he
    exact ⟨c, t, fr, he, hf⟩
  · cases h

/-- The variables of statements, at all levels. -/
def varS : Sts → Nat → Bool
  | .nil, _ => false
  | .cons op x y _ t e r, v => ownB op x y v || varS t v || varS e v || varS r v

/-- A statement with the place where it lies. -/
structure PN where
  a : Addr
  op : Int
  x : Int
  y : Int
  n : Int
  t : Sts
  e : Sts
  At : Option Addr
  ct : Nat
  Ae : Option Addr
  ce : Nat

def PN.vars (q : PN) (v : Nat) : Bool := ownB q.op q.x q.y v || varS q.t v || varS q.e v

def PN.sz (q : PN) : Nat := 1 + q.t.size + q.e.size

def sumP : List PN → Nat
  | [] => 0
  | q :: qs => q.sz + sumP qs

theorem sumP_append : ∀ a b : List PN, sumP (a ++ b) = sumP a + sumP b
  | [], b => by simp [sumP]
  | q :: a, b => by rw [List.cons_append]; simp only [sumP]; rw [sumP_append a b]; omega

theorem sumP_sublist {a b : List PN} (h : a.Sublist b) : sumP a ≤ sumP b := by
  induction h with
  | slnil => exact Nat.le_refl _
  | cons q _ ih => simp only [sumP]; omega
  | cons_cons q _ ih => simp only [sumP]; omega

theorem len_le_sumP : ∀ a : List PN, a.length ≤ sumP a
  | [] => Nat.le_refl _
  | q :: a => by have := len_le_sumP a; simp only [sumP, List.length_cons, PN.sz]; omega

/-- What lies there. -/
def NodeAt (w : World) (lo hi : Nat) (q : PN) : Prop :=
  (w.cell? q.a = some (.int .i64 q.op) ∧ w.cell? ⟨q.a.block, q.a.off + 1, none⟩ = some (.int .i64 q.x) ∧ w.cell? ⟨q.a.block, q.a.off + 2, none⟩ = some (.int .i64 q.y) ∧ w.cell? ⟨q.a.block, q.a.off + 3, none⟩ = some (.int .i64 q.n) ∧
    w.cell? ⟨q.a.block, q.a.off + 4, none⟩ = some (.slice q.At q.t.len q.ct) ∧ w.cell? ⟨q.a.block, q.a.off + 5, none⟩ = some (.slice q.Ae q.e.len q.ce)) ∧
  RepV w lo hi q.t q.At q.ct ∧ RepV w lo hi q.e q.Ae q.ce

theorem elsA_cons (b : Addr) (n : Nat) : elsA (some b) (n + 1) = b :: elsA (some (b.add 6)) n := by
  unfold elsA
  simp only
  rw [List.range_succ_eq_map, List.map_cons, List.map_map, Nat.zero_mul]
  have h0 : b.add 0 = b := by simp [Addr.add]
  rw [h0]
  congr 1
  apply List.map_congr_left
  intro i _
  show b.add ((i + 1) * 6) = (b.add 6).add (i * 6)
  rw [add_add]
  congr 1
  omega

/-- The statements of a row, with their places. -/
theorem nodes_of_rep {w : World} {lo hi : Nat} (s : Sts) : ∀ b : Addr, lo ≤ b.block → b.block < hi → Rep w lo hi s b → ∃ qs : List PN, qs.map PN.a = elsA (some b) s.len ∧ (∀ q ∈ qs, NodeAt w lo hi q ∧ q.a.block = b.block) ∧ (∀ q ∈ qs, ∀ v, q.vars v = true → varS s v = true) ∧ sumP qs = s.size := by
  induction s with
  | nil => intro b _ _ _; exact ⟨[], rfl, by simp, by simp, rfl⟩
  | cons op x y n t e r iht ihe ihr =>
    intro b hb1 hb2 h
    obtain ⟨⟨h0, h1, h2, h3⟩, ⟨A, c, h4, h5, h6, h7⟩, ⟨A', c', h8, h9, h10, h11⟩, hr⟩ := h
    obtain ⟨qs, e1, e2, e3, e4⟩ := ihr (b.add 6) (by rw [block_add]; exact hb1) (by rw [block_add]; exact hb2) hr
    refine ⟨⟨b, op, x, y, n, t, e, A, c, A', c'⟩ :: qs, ?_, ?_, ?_, ?_⟩
    · rw [List.map_cons, e1]
      exact (elsA_cons b r.len).symm
    · intro q hq
      rcases List.mem_cons.1 hq with rfl | hq
      · exact ⟨⟨⟨h0, h1, h2, h3, h4, h8⟩, ⟨h5, h6, h7⟩, ⟨h9, h10, h11⟩⟩, rfl⟩
      · exact ⟨(e2 q hq).1, (e2 q hq).2.trans (block_add _ _)⟩
    · intro q hq v hv
      rcases List.mem_cons.1 hq with rfl | hq
      · show (ownB op x y v || varS t v || varS e v || varS r v) = true
        have : (ownB op x y v || varS t v || varS e v) = true := hv
        rw [this, Bool.true_or]
      · show (ownB op x y v || varS t v || varS e v || varS r v) = true
        rw [e3 q hq v hv, Bool.or_true]
    · simp only [sumP, e4, PN.sz, Sts.size]

theorem nodes_of {w : World} {lo hi : Nat} {s : Sts} {A : Option Addr} {c : Nat} (h : RepV w lo hi s A c) : ∃ qs : List PN, qs.map PN.a = elsA A s.len ∧ (∀ q ∈ qs, NodeAt w lo hi q ∧ lo ≤ q.a.block ∧ q.a.block < hi) ∧ (∀ q ∈ qs, ∀ v, q.vars v = true → varS s v = true) ∧ sumP qs = s.size := by
  by_cases h0 : 0 < s.len
  · obtain ⟨b, rfl, h1, h2, hR⟩ := h.2.2 h0
    obtain ⟨qs, e1, e2, e3, e4⟩ := nodes_of_rep s b h1 h2 hR
    exact ⟨qs, e1, fun q hq => ⟨(e2 q hq).1, by rw [(e2 q hq).2]; exact h1, by rw [(e2 q hq).2]; exact h2⟩, e3, e4⟩
  · have hs : s = .nil := by
      cases s with
      | nil => rfl
      | cons => simp [Sts.len] at h0
    subst hs
    refine ⟨[], ?_, by simp, by simp, rfl⟩
    cases A <;> rfl

/-- Of a sublist of places, the statements. -/
theorem nodes_sub {qs : List PN} {l : List Addr} (h : l.Sublist (qs.map PN.a)) : ∃ qs' : List PN, qs'.Sublist qs ∧ qs'.map PN.a = l := by
  obtain ⟨l', h1, h2⟩ := List.sublist_map_iff.1 h
  exact ⟨l', h1, h2.symm⟩

theorem addN_sublist (ks l : List Addr) : (addN ks l).Sublist l := by
  have : ∀ (l acc : List Addr), ∃ m, l.foldl (fun acc a => if a ∈ ks ++ acc then acc else acc ++ [a]) acc = acc ++ m ∧ m.Sublist l := by
    intro l
    induction l with
    | nil => intro acc; exact ⟨[], by simp, List.Sublist.refl _⟩
    | cons a l ih =>
      intro acc
      rw [List.foldl_cons]
      split
      · obtain ⟨m, h1, h2⟩ := ih acc
        exact ⟨m, h1, h2.cons a⟩
      · obtain ⟨m, h1, h2⟩ := ih (acc ++ [a])
        exact ⟨a :: m, by rw [h1]; simp, h2.cons_cons a⟩
  obtain ⟨m, h1, h2⟩ := this l []
  unfold addN
  rw [h1]
  exact h2

/-- A place that was visited: its own variables are marked, and the places under it are met. -/
def Acc (w : World) (F : Nat → Bool) (ks : List Addr) (k : Addr) : Prop := ∃ op x y At nt ct Ae ne ce, w.cell? k = some (.int .i64 op) ∧ w.cell? ⟨k.block, k.off + 1, none⟩ = some (.int .i64 x) ∧ w.cell? ⟨k.block, k.off + 2, none⟩ = some (.int .i64 y) ∧
  w.cell? ⟨k.block, k.off + 4, none⟩ = some (.slice At nt ct) ∧ w.cell? ⟨k.block, k.off + 5, none⟩ = some (.slice Ae ne ce) ∧ (∀ v, v < 6 → ownB op x y v = true → F v = true) ∧ (∀ a ∈ elsA At nt, a ∈ ks) ∧ ∀ a ∈ elsA Ae ne, a ∈ ks

theorem Acc.mono {w : World} {F G : Nat → Bool} {ks ls : List Addr} {k : Addr} (h : Acc w F ks k) (hF : ∀ v, v < 6 → F v = true → G v = true) (hk : ∀ a ∈ ks, a ∈ ls) : Acc w G ls k := by
  obtain ⟨op, x, y, At, nt, ct, Ae, ne, ce, h0, h1, h2, h3, h4, h5, h6, h7⟩ := h
  exact ⟨op, x, y, At, nt, ct, Ae, ne, ce, h0, h1, h2, h3, h4, fun v hv h => hF v hv (h5 v hv h), fun a ha => hk a (h6 a ha), fun a ha => hk a (h7 a ha)⟩

theorem Acc.of_node {w : World} {lo hi : Nat} {q : PN} (h : NodeAt w lo hi q) {F : Nat → Bool} {ks : List Addr} (hF : ∀ v, v < 6 → ownB q.op q.x q.y v = true → F v = true) (h1 : ∀ a ∈ elsA q.At q.t.len, a ∈ ks) (h2 : ∀ a ∈ elsA q.Ae q.e.len, a ∈ ks) : Acc w F ks q.a :=
  ⟨q.op, q.x, q.y, q.At, q.t.len, q.ct, q.Ae, q.e.len, q.ce, h.1.1, h.1.2.1, h.1.2.2.1, h.1.2.2.2.2.1, h.1.2.2.2.2.2, hF, h1, h2⟩

/-- Where all that was met was visited, all variables are marked. -/
theorem acc_rep {w : World} {lo hi : Nat} {F : Nat → Bool} {ks : List Addr} (hk : ∀ k ∈ ks, Acc w F ks k) (s : Sts) : ∀ b : Addr, Rep w lo hi s b → (∀ a ∈ elsA (some b) s.len, a ∈ ks) → ∀ v, v < 6 → varS s v = true → F v = true := by
  induction s with
  | nil => intro b _ _ v _ h; cases h
  | cons op x y n t e r iht ihe ihr =>
    intro b h hin v hv hs
    obtain ⟨⟨h0, h1, h2, h3⟩, ⟨A, c, h4, h5, h6, h7⟩, ⟨A', c', h8, h9, h10, h11⟩, hr⟩ := h
    have hl : (Sts.cons op x y n t e r).len = r.len + 1 := rfl
    rw [hl, elsA_cons] at hin
    obtain ⟨op', x', y', At, nt, ct, Ae, ne, ce, k0, k1, k2, k3, k4, k5, k6, k7⟩ := hk b (hin b (List.mem_cons_self ..))
    have e0 := h0.symm.trans k0
    have e1 : some (Value.int .i64 x) = some (.int .i64 x') := h1.symm.trans k1
    have e2 : some (Value.int .i64 y) = some (.int .i64 y') := h2.symm.trans k2
    have e3 : some (Value.slice A t.len c) = some (.slice At nt ct) := h4.symm.trans k3
    have e4 : some (Value.slice A' e.len c') = some (.slice Ae ne ce) := h8.symm.trans k4
    simp only [Option.some.injEq, Value.int.injEq, Value.slice.injEq, true_and] at e0 e1 e2 e3 e4
    obtain ⟨rfl, rfl, rfl⟩ := e3
    obtain ⟨rfl, rfl, rfl⟩ := e4
    subst e0 e1 e2
    have hs' : (ownB op x y v || varS t v || varS e v || varS r v) = true := hs
    simp only [Bool.or_eq_true] at hs'
    rcases hs' with ((h | h) | h) | h
    · exact k5 v hv h
    · have ht : 0 < t.len := by
        cases t with
        | nil => cases h
        | cons => simp [Sts.len]
      obtain ⟨b', rfl, _, _, hR⟩ := h7 ht
      exact iht b' hR k6 v hv h
    · have he : 0 < e.len := by
        cases e with
        | nil => cases h
        | cons => simp [Sts.len]
      obtain ⟨b', rfl, _, _, hR⟩ := h11 he
      exact ihe b' hR k7 v hv h
    · exact ihr (b.add 6) hr (fun a ha => hin a (List.mem_cons_of_mem _ ha)) v hv h

theorem acc_repV {w : World} {lo hi : Nat} {F : Nat → Bool} {ks : List Addr} (hk : ∀ k ∈ ks, Acc w F ks k) {s : Sts} {A : Option Addr} {c : Nat} (h : RepV w lo hi s A c) (hin : ∀ a ∈ elsA A s.len, a ∈ ks) : ∀ v, v < 6 → varS s v = true → F v = true := by
  intro v hv hs
  have h0 : 0 < s.len := by
    cases s with
    | nil => cases hs
    | cons => simp [Sts.len]
  obtain ⟨b, rfl, _, _, hR⟩ := h.2.2 h0
  exact acc_rep hk s b hR hin v hv hs

end Go.Proofs.Ytfjfbooiegjplaa
