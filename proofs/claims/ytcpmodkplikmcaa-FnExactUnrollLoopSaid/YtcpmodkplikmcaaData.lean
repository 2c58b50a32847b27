/-
  Lists of statements as plain data, and how they lie in memory. Nothing of the program is used here.
-/
import Derived.Below
import Derived.Deep.Slices
namespace Go.Proofs.Ytcpmodkplikmcaa
open Go.RowKit Go.Deep

/-- A list of statements: the fields of the first one, and the rest. -/
inductive Sts where
  | nil
  | cons (op x y n : Int) (t e r : Sts)

def Sts.len : Sts → Nat
  | .nil => 0
  | .cons _ _ _ _ _ _ r => r.len + 1

/-- All statements, at all levels. -/
def Sts.size : Sts → Nat
  | .nil => 0
  | .cons _ _ _ _ t e r => 1 + t.size + e.size + r.size

def Sts.drop : Nat → Sts → Sts
  | 0, s => s
  | _ + 1, .nil => .nil
  | k + 1, .cons _ _ _ _ _ _ r => r.drop k

theorem Sts.len_le_size (s : Sts) : s.len ≤ s.size := by
  induction s with
  | nil => simp [Sts.len, Sts.size]
  | cons op x y n t e r iht ihe ihr => simp only [Sts.len, Sts.size]; omega

theorem Sts.drop_lt (s : Sts) : ∀ k, k < s.len → ∃ op x y n t e, s.drop k = .cons op x y n t e (s.drop (k + 1)) := by
  induction s with
  | nil => intro k hk; simp [Sts.len] at hk
  | cons op x y n t e r iht ihe ihr =>
    intro k hk
    cases k with
    | zero => exact ⟨op, x, y, n, t, e, rfl⟩
    | succ k =>
      obtain ⟨op', x', y', n', t', e', h⟩ := ihr k (by simp only [Sts.len] at hk; omega)
      exact ⟨op', x', y', n', t', e', h⟩

theorem Sts.drop_len (s : Sts) : s.drop s.len = .nil := by
  induction s with
  | nil => rfl
  | cons op x y n t e r iht ihe ihr => exact ihr

/-- A list of statements lies at an address, in blocks from lo up to hi. -/
def Rep (w : World) (lo hi : Nat) : Sts → Addr → Prop
  | .nil, _ => True
  | .cons op x y n t e r, a =>
    (w.cell? a = some (.int .i64 op) ∧ w.cell? (a.add 1) = some (.int .i64 x) ∧ w.cell? (a.add 2) = some (.int .i64 y) ∧ w.cell? (a.add 3) = some (.int .i64 n)) ∧
    (∃ A c, w.cell? (a.add 4) = some (.slice A t.len c) ∧ t.len ≤ c ∧ c ≤ maxLen ∧ (0 < t.len → ∃ b, A = some b ∧ lo ≤ b.block ∧ b.block < hi ∧ Rep w lo hi t b)) ∧
    (∃ A c, w.cell? (a.add 5) = some (.slice A e.len c) ∧ e.len ≤ c ∧ c ≤ maxLen ∧ (0 < e.len → ∃ b, A = some b ∧ lo ≤ b.block ∧ b.block < hi ∧ Rep w lo hi e b)) ∧
    Rep w lo hi r (a.add 6)

/-- A slice reads as a list of statements. -/
def RepV (w : World) (lo hi : Nat) (s : Sts) (A : Option Addr) (c : Nat) : Prop :=
  s.len ≤ c ∧ c ≤ maxLen ∧ (0 < s.len → ∃ b, A = some b ∧ lo ≤ b.block ∧ b.block < hi ∧ Rep w lo hi s b)

/-- A slice reads as a list of integers. -/
def IntsV (w : World) (lo hi : Nat) (xs : List Int) (A : Option Addr) (c : Nat) : Prop :=
  xs.length ≤ c ∧ c ≤ maxLen ∧ (0 < xs.length → ∃ b, A = some b ∧ lo ≤ b.block ∧ b.block < hi ∧ ∀ j v, xs[j]? = some v → w.cell? (b.add j) = some (.int .i64 v))

theorem block_add (a : Addr) (n : Nat) : (a.add n).block = a.block := by unfold Addr.add; split <;> rfl

/-- What is kept: the cells of the blocks from lo up to hi. -/
theorem Rep.keep {w w' : World} {lo hi lo' hi' : Nat} (hlo : lo' ≤ lo) (hhi : hi ≤ hi') (hk : ∀ p : Addr, lo ≤ p.block → p.block < hi → w'.cell? p = w.cell? p) (s : Sts) :
    ∀ a : Addr, lo ≤ a.block → a.block < hi → Rep w lo hi s a → Rep w' lo' hi' s a := by
  induction s with
  | nil => intro _ _ _ _; trivial
  | cons op x y n t e r iht ihe ihr =>
    intro a ha ha' h
    obtain ⟨⟨h0, h1, h2, h3⟩, ⟨A, c, h4, h5, h6, h7⟩, ⟨A', c', h8, h9, h10, h11⟩, hr⟩ := h
    have hb : ∀ k, lo ≤ (a.add k).block := fun k => by rw [block_add]; exact ha
    have hb' : ∀ k, (a.add k).block < hi := fun k => by rw [block_add]; exact ha'
    refine ⟨⟨(hk _ ha ha').trans h0, (hk _ (hb 1) (hb' 1)).trans h1, (hk _ (hb 2) (hb' 2)).trans h2, (hk _ (hb 3) (hb' 3)).trans h3⟩,
      ⟨A, c, (hk _ (hb 4) (hb' 4)).trans h4, h5, h6, fun hl => ?_⟩, ⟨A', c', (hk _ (hb 5) (hb' 5)).trans h8, h9, h10, fun hl => ?_⟩, ihr _ (hb 6) (hb' 6) hr⟩
    · obtain ⟨b, rfl, hbb, hbb', hR⟩ := h7 hl
      exact ⟨b, rfl, by omega, by omega, iht _ hbb hbb' hR⟩
    · obtain ⟨b, rfl, hbb, hbb', hR⟩ := h11 hl
      exact ⟨b, rfl, by omega, by omega, ihe _ hbb hbb' hR⟩

theorem RepV.keep {w w' : World} {lo hi lo' hi' : Nat} {s : Sts} {A : Option Addr} {c : Nat} (h : RepV w lo hi s A c) (hlo : lo' ≤ lo) (hhi : hi ≤ hi') (hk : ∀ p : Addr, lo ≤ p.block → p.block < hi → w'.cell? p = w.cell? p) : RepV w' lo' hi' s A c :=
  ⟨h.1, h.2.1, fun hl => by
    obtain ⟨b, rfl, hb, hb', hR⟩ := h.2.2 hl
    exact ⟨b, rfl, by omega, by omega, hR.keep hlo hhi hk _ _ hb hb'⟩⟩

theorem RepV.below {w w' : World} {lo hi hi' : Nat} {s : Sts} {A : Option Addr} {c : Nat} (h : RepV w lo hi s A c) (hb : Below hi w w') (hhi : hi ≤ hi') : RepV w' 0 hi' s A c :=
  h.keep (Nat.zero_le _) hhi fun _ _ hp => hb.cell hp

theorem RepV.below' {w w' : World} {lo hi hi' : Nat} {s : Sts} {A : Option Addr} {c : Nat} (h : RepV w lo hi s A c) (hb : Below hi w w') (hhi : hi ≤ hi') : RepV w' lo hi' s A c :=
  h.keep (Nat.le_refl _) hhi fun _ _ hp => hb.cell hp

theorem IntsV.keep {w w' : World} {lo hi lo' hi' : Nat} {xs : List Int} {A : Option Addr} {c : Nat} (h : IntsV w lo hi xs A c) (hlo : lo' ≤ lo) (hhi : hi ≤ hi') (hk : ∀ p : Addr, lo ≤ p.block → p.block < hi → w'.cell? p = w.cell? p) : IntsV w' lo' hi' xs A c :=
  ⟨h.1, h.2.1, fun hl => by
    obtain ⟨b, rfl, hb, hb', hR⟩ := h.2.2 hl
    exact ⟨b, rfl, by omega, by omega, fun j v hv => (hk _ (by rw [block_add]; exact hb) (by rw [block_add]; exact hb')).trans (hR j v hv)⟩⟩

theorem IntsV.below {w w' : World} {lo hi hi' : Nat} {xs : List Int} {A : Option Addr} {c : Nat} (h : IntsV w lo hi xs A c) (hb : Below hi w w') (hhi : hi ≤ hi') : IntsV w' 0 hi' xs A c :=
  h.keep (Nat.zero_le _) hhi fun _ _ hp => hb.cell hp

theorem IntsV.below' {w w' : World} {lo hi hi' : Nat} {xs : List Int} {A : Option Addr} {c : Nat} (h : IntsV w lo hi xs A c) (hb : Below hi w w') (hhi : hi ≤ hi') : IntsV w' lo hi' xs A c :=
  h.keep (Nat.le_refl _) hhi fun _ _ hp => hb.cell hp

theorem IntsV.elem {w : World} {lo hi : Nat} {xs : List Int} {A : Option Addr} {c : Nat} (h : IntsV w lo hi xs A c) {k : Nat} (hk : k < xs.length) :
    ∃ b v, A = some b ∧ lo ≤ b.block ∧ b.block < hi ∧ xs[k]? = some v ∧ w.cell? (b.add k) = some (.int .i64 v) := by
  obtain ⟨b, rfl, hb, hb', hR⟩ := h.2.2 (by omega)
  exact ⟨b, xs[k], rfl, hb, hb', List.getElem?_eq_getElem hk, hR k _ (List.getElem?_eq_getElem hk)⟩

/-- The k-th statement in memory. -/
theorem Rep.at_ {w : World} {lo hi : Nat} (s : Sts) : ∀ (k : Nat) (a : Addr), Rep w lo hi s a → Rep w lo hi (s.drop k) (a.add (6 * k)) := by
  induction s with
  | nil => intro k a _; cases k <;> trivial
  | cons op x y n t e r iht ihe ihr =>
    intro k a h
    cases k with
    | zero => simpa [Sts.drop, Addr.add] using h
    | succ k =>
      have := ihr k (a.add 6) h.2.2.2
      rw [add_add] at this
      rw [show 6 * (k + 1) = 6 + 6 * k by omega]
      exact this

/-- The cells of the k-th statement, spelled as a walk comes to them. -/
theorem RepV.elem {w : World} {lo hi : Nat} {s : Sts} {A : Option Addr} {c : Nat} (h : RepV w lo hi s A c) {k : Nat} (hk : k < s.len) :
    ∃ b op x y n t e, A = some b ∧ lo ≤ b.block ∧ b.block < hi ∧ s.drop k = .cons op x y n t e (s.drop (k + 1)) ∧ ∃ At ct Ae ce,
      (w.cell? (b.add (k * 6)) = some (.int .i64 op) ∧ w.cell? ⟨(b.add (k * 6)).block, (b.add (k * 6)).off + 1, none⟩ = some (.int .i64 x) ∧ w.cell? ⟨(b.add (k * 6)).block, (b.add (k * 6)).off + 2, none⟩ = some (.int .i64 y) ∧
        w.cell? ⟨(b.add (k * 6)).block, (b.add (k * 6)).off + 3, none⟩ = some (.int .i64 n) ∧ w.cell? ⟨(b.add (k * 6)).block, (b.add (k * 6)).off + 4, none⟩ = some (.slice At t.len ct) ∧
        w.cell? ⟨(b.add (k * 6)).block, (b.add (k * 6)).off + 5, none⟩ = some (.slice Ae e.len ce)) ∧ RepV w lo hi t At ct ∧ RepV w lo hi e Ae ce := by
  obtain ⟨b, rfl, hb, hb', hR⟩ := h.2.2 (by omega)
  obtain ⟨op, x, y, n, t, e, hd⟩ := s.drop_lt k hk
  have hk' := hR.at_ s k b
  rw [hd, Nat.mul_comm] at hk'
  obtain ⟨⟨h0, h1, h2, h3⟩, ⟨At, ct, h4, h5, h6, h7⟩, ⟨Ae, ce, h8, h9, h10, h11⟩, _⟩ := hk'
  exact ⟨b, op, x, y, n, t, e, rfl, hb, hb', hd, At, ct, Ae, ce, ⟨h0, h1, h2, h3, h4, h8⟩, ⟨h5, h6, h7⟩, ⟨h9, h10, h11⟩⟩

theorem Sts.drop_size_le (s : Sts) : ∀ k, (s.drop k).size ≤ s.size := by
  induction s with
  | nil => intro k; cases k <;> exact Nat.le_refl _
  | cons op x y n t e r iht ihe ihr =>
    intro k
    cases k with
    | zero => exact Nat.le_refl _
    | succ k => exact Nat.le_trans (ihr k) (by simp only [Sts.size]; omega)

theorem RepV.drop_sizes {s : Sts} {k : Nat} {op x y n : Int} {t e : Sts} (hd : s.drop k = .cons op x y n t e (s.drop (k + 1))) : t.size < s.size ∧ e.size < s.size := by
  have := s.drop_size_le k
  rw [hd] at this
  simp only [Sts.size] at this
  omega

/-- What is still to be counted from the k-th statement on, without the statements of the list themselves. -/
def Sts.inner (s : Sts) : Nat := s.size - s.len

theorem Sts.inner_cons (op x y n : Int) (t e r : Sts) : (Sts.cons op x y n t e r).inner = t.size + e.size + r.inner := by
  have := r.len_le_size
  simp only [Sts.inner, Sts.size, Sts.len]
  omega

theorem Sts.drop_inner_le (s : Sts) : ∀ k, (s.drop k).inner ≤ s.inner := by
  induction s with
  | nil => intro k; cases k <;> exact Nat.le_refl _
  | cons op x y n t e r iht ihe ihr =>
    intro k
    cases k with
    | zero => exact Nat.le_refl _
    | succ k => exact Nat.le_trans (ihr k) (by rw [Sts.inner_cons]; omega)

/-- The first k statements lie in the block g. -/
def Filled (w : World) (lo hi g : Nat) (s : Sts) (k : Nat) : Prop :=
  ∀ j, j < k → ∀ op x y n t e, s.drop j = .cons op x y n t e (s.drop (j + 1)) → ∃ At ct Ae ce,
    (w.cell? ⟨g, j * 6, none⟩ = some (.int .i64 op) ∧ w.cell? ⟨g, j * 6 + 1, none⟩ = some (.int .i64 x) ∧ w.cell? ⟨g, j * 6 + 2, none⟩ = some (.int .i64 y) ∧ w.cell? ⟨g, j * 6 + 3, none⟩ = some (.int .i64 n) ∧
      w.cell? ⟨g, j * 6 + 4, none⟩ = some (.slice At t.len ct) ∧ w.cell? ⟨g, j * 6 + 5, none⟩ = some (.slice Ae e.len ce)) ∧ RepV w lo hi t At ct ∧ RepV w lo hi e Ae ce

theorem add_block (g o k : Nat) : (⟨g, o, none⟩ : Addr).add k = ⟨g, o + k, none⟩ := by
  unfold Addr.add
  by_cases h : k = 0 <;> simp [h]

theorem Filled.rep {w : World} {lo hi g : Nat} (S : Sts) (k0 : Nat) : ∀ (s : Sts) (k : Nat), S.drop k = s → k + s.len = k0 → Filled w lo hi g S k0 → Rep w lo hi s ⟨g, k * 6, none⟩ := by
  intro s
  induction s with
  | nil => intro k _ _ _; trivial
  | cons op x y n t e r iht ihe ihr =>
    intro k hd hl hF
    simp only [Sts.len] at hl
    have hkl : k < S.len := by
      rcases Nat.lt_or_ge k S.len with h | h
      · exact h
      · exfalso
        have : ∀ (s : Sts) k, s.len ≤ k → s.drop k = .nil := by
          intro s
          induction s with
          | nil => intro k _; cases k <;> rfl
          | cons op x y n t e r iht ihe ihr =>
            intro k hk
            cases k with
            | zero => simp [Sts.len] at hk
            | succ k => exact ihr k (by simp only [Sts.len] at hk; omega)
        rw [this S k h] at hd
        cases hd
    obtain ⟨op', x', y', n', t', e', hd'⟩ := S.drop_lt k hkl
    have hd2 := hd'
    rw [hd] at hd2
    injection hd2 with e1 e2 e3 e4 e5 e6 e7
    subst e1 e2 e3 e4 e5 e6
    obtain ⟨At, ct, Ae, ce, ⟨h0, h1, h2, h3, h4, h5⟩, hRt, hRe⟩ := hF k (by omega) _ _ _ _ _ _ hd'
    refine ⟨⟨h0, by rw [add_block]; exact h1, by rw [add_block]; exact h2, by rw [add_block]; exact h3⟩, ⟨At, ct, by rw [add_block]; exact h4, hRt.1, hRt.2.1, hRt.2.2⟩, ⟨Ae, ce, by rw [add_block]; exact h5, hRe.1, hRe.2.1, hRe.2.2⟩, ?_⟩
    rw [add_block, show k * 6 + 6 = (k + 1) * 6 by omega]
    exact ihr (k + 1) e7.symm (by omega) hF

theorem Filled.mono {w : World} {lo hi lo' g : Nat} {s : Sts} {k : Nat} (h : Filled w lo hi g s k) (hlo : lo' ≤ lo) : Filled w lo' hi g s k := by
  intro j hj op x y n t e hd
  obtain ⟨At, ct, Ae, ce, h0, hRt, hRe⟩ := h j hj op x y n t e hd
  exact ⟨At, ct, Ae, ce, h0, hRt.keep hlo (Nat.le_refl _) fun _ _ _ => rfl, hRe.keep hlo (Nat.le_refl _) fun _ _ _ => rfl⟩

theorem Filled.repV {w : World} {lo hi g : Nat} {s : Sts} (h : Filled w lo hi g s s.len) (hg : lo ≤ g) (hg' : g < hi) (hm : s.len ≤ maxLen) : RepV w lo hi s (some ⟨g, 0, none⟩) s.len :=
  ⟨Nat.le_refl _, hm, fun _ => ⟨_, rfl, hg, hg', by simpa using Filled.rep s s.len s 0 rfl (by omega) h⟩⟩

end Go.Proofs.Ytcpmodkplikmcaa
