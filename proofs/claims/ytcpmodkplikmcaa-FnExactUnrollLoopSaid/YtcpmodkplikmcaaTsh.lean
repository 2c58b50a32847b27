/-
  Lists of statements that share nothing: every list under them lies in blocks of its own.
-/
import Derived.Test.YtcpmodkplikmcaaRws
namespace Go.Proofs.Ytcpmodkplikmcaa
open Go.RowKit Go.Deep
set_option linter.unusedVariables false

/-- A list of statements lies in block g from o on; the lists under it lie one behind the other in blocks from lo up to hi, and none of them meets g. -/
def TrI (w : World) : Sts → Nat → Nat → Nat → Nat → Prop
  | .nil, _, _, lo, hi => lo ≤ hi
  | .cons op x y n t e r, g, o, lo, hi =>
    (w.cell? ⟨g, o, none⟩ = some (.int .i64 op) ∧ w.cell? ⟨g, o + 1, none⟩ = some (.int .i64 x) ∧ w.cell? ⟨g, o + 2, none⟩ = some (.int .i64 y) ∧ w.cell? ⟨g, o + 3, none⟩ = some (.int .i64 n)) ∧
    ∃ l m h, lo ≤ l ∧ l ≤ m ∧ m ≤ h ∧ (g < l ∨ h ≤ g) ∧
      (∃ A c, w.cell? ⟨g, o + 4, none⟩ = some (.slice A t.len c) ∧ t.len ≤ c ∧ c ≤ maxLen ∧ (0 < t.len → ∃ b, A = some ⟨b, 0, none⟩ ∧ l ≤ b ∧ b < m ∧ (∀ q, w.frozen? ⟨b, q, none⟩ = false) ∧ TrI w t b 0 l m)) ∧
      (∃ A c, w.cell? ⟨g, o + 5, none⟩ = some (.slice A e.len c) ∧ e.len ≤ c ∧ c ≤ maxLen ∧ (0 < e.len → ∃ b, A = some ⟨b, 0, none⟩ ∧ m ≤ b ∧ b < h ∧ (∀ q, w.frozen? ⟨b, q, none⟩ = false) ∧ TrI w e b 0 m h)) ∧
      TrI w r g (o + 6) h hi

/-- A slice reads so. -/
def SubI (w : World) (lo hi : Nat) (s : Sts) (A : Option Addr) (c : Nat) : Prop :=
  s.len ≤ c ∧ c ≤ maxLen ∧ lo ≤ hi ∧ (0 < s.len → ∃ b, A = some ⟨b, 0, none⟩ ∧ lo ≤ b ∧ b < hi ∧ (∀ q, w.frozen? ⟨b, q, none⟩ = false) ∧ TrI w s b 0 lo hi)

theorem TrI.le {w : World} (s : Sts) : ∀ {g o lo hi : Nat}, TrI w s g o lo hi → lo ≤ hi := by
  induction s with
  | nil => intro g o lo hi h; exact h
  | cons op x y n t e r iht ihe ihr =>
    intro g o lo hi h
    obtain ⟨_, l, m, h', h1, h2, h3, _, _, _, hr⟩ := h
    have := ihr hr
    omega

theorem TrI.wide {w : World} (s : Sts) : ∀ {g o lo hi lo' hi' : Nat}, TrI w s g o lo hi → lo' ≤ lo → hi ≤ hi' → TrI w s g o lo' hi' := by
  induction s with
  | nil => intro g o lo hi lo' hi' h h1 h2; exact Nat.le_trans h1 (Nat.le_trans h h2)
  | cons op x y n t e r iht ihe ihr =>
    intro g o lo hi lo' hi' h k1 k2
    obtain ⟨hc, l, m, h', h1, h2, h3, h4, h5, h6, hr⟩ := h
    exact ⟨hc, l, m, h', by omega, h2, h3, h4, h5, h6, ihr hr (Nat.le_refl _) k2⟩

theorem SubI.wide {w : World} {lo hi lo' hi' : Nat} {s : Sts} {A : Option Addr} {c : Nat} (h : SubI w lo hi s A c) (h1 : lo' ≤ lo) (h2 : hi ≤ hi') : SubI w lo' hi' s A c :=
  ⟨h.1, h.2.1, by have := h.2.2.1; omega, fun h0 => by
    obtain ⟨b, e1, e2, e3, e4, e5⟩ := h.2.2.2 h0
    exact ⟨b, e1, by omega, by omega, e4, TrI.wide _ e5 h1 h2⟩⟩

/-- What is kept: the row's block, and the blocks under it. -/
theorem TrI.keep {w w' : World} (s : Sts) : ∀ {g o lo hi : Nat}, TrI w s g o lo hi → w'.heap[g]? = w.heap[g]? → (∀ k, lo ≤ k → k < hi → w'.heap[k]? = w.heap[k]?) → TrI w' s g o lo hi := by
  induction s with
  | nil => intro g o lo hi h _ _; exact h
  | cons op x y n t e r iht ihe ihr =>
    intro g o lo hi h hg hk
    obtain ⟨⟨c0, c1, c2, c3⟩, l, m, h', h1, h2, h3, h4, ⟨A, c, h5, h6, h7, h8⟩, ⟨A', c', i5, i6, i7, i8⟩, hr⟩ := h
    have hhi := hr.le
    have hc : ∀ q, w'.cell? ⟨g, q, none⟩ = w.cell? ⟨g, q, none⟩ := fun q => World.cell?_of_block (w := w) (a := ⟨g, q, none⟩) hg
    refine ⟨⟨(hc _).trans c0, (hc _).trans c1, (hc _).trans c2, (hc _).trans c3⟩, l, m, h', h1, h2, h3, h4, ⟨A, c, (hc _).trans h5, h6, h7, fun h0 => ?_⟩, ⟨A', c', (hc _).trans i5, i6, i7, fun h0 => ?_⟩, ihr hr hg fun k k1 k2 => hk k (by omega) k2⟩
    · obtain ⟨b, e1, e2, e3, e4, e5⟩ := h8 h0
      exact ⟨b, e1, e2, e3, fun q => (World.frozen?_of_block (hk b (by omega) (by omega))).trans (e4 q), iht e5 (hk b (by omega) (by omega)) fun k k1 k2 => hk k (by omega) (by omega)⟩
    · obtain ⟨b, e1, e2, e3, e4, e5⟩ := i8 h0
      exact ⟨b, e1, e2, e3, fun q => (World.frozen?_of_block (hk b (by omega) (by omega))).trans (e4 q), ihe e5 (hk b (by omega) (by omega)) fun k k1 k2 => hk k (by omega) (by omega)⟩

theorem SubI.keep {w w' : World} {lo hi : Nat} {s : Sts} {A : Option Addr} {c : Nat} (h : SubI w lo hi s A c) (hk : ∀ k, lo ≤ k → k < hi → w'.heap[k]? = w.heap[k]?) : SubI w' lo hi s A c :=
  ⟨h.1, h.2.1, h.2.2.1, fun h0 => by
    obtain ⟨b, e1, e2, e3, e4, e5⟩ := h.2.2.2 h0
    exact ⟨b, e1, e2, e3, fun q => (World.frozen?_of_block (hk b e2 e3)).trans (e4 q), TrI.keep _ e5 (hk b e2 e3) hk⟩⟩

theorem SubI.nil (w : World) (lo : Nat) (A : Option Addr) (c : Nat) (hc : c ≤ maxLen) : SubI w lo lo .nil A c := ⟨Nat.zero_le _, hc, Nat.le_refl _, fun h => absurd h (by simp [Sts.len])⟩

/-- Such a list reads as its statements. -/
theorem TrI.rep {w : World} (s : Sts) : ∀ {g o lo hi : Nat}, TrI w s g o lo hi → Rep w lo hi s ⟨g, o, none⟩ := by
  induction s with
  | nil => intro g o lo hi h; trivial
  | cons op x y n t e r iht ihe ihr =>
    intro g o lo hi h
    obtain ⟨⟨c0, c1, c2, c3⟩, l, m, h', h1, h2, h3, h4, ⟨A, c, h5, h6, h7, h8⟩, ⟨A', c', i5, i6, i7, i8⟩, hr⟩ := h
    have hhi := hr.le
    refine ⟨⟨c0, c1, c2, c3⟩, ⟨A, c, h5, h6, h7, fun h0 => ?_⟩, ⟨A', c', i5, i6, i7, fun h0 => ?_⟩, ?_⟩
    · obtain ⟨b, e1, e2, e3, e4, e5⟩ := h8 h0
      exact ⟨_, e1, Nat.le_trans h1 e2, by show b < hi; omega, (iht e5).keep h1 (by omega) (fun _ _ _ => rfl) _ _ e2 e3⟩
    · obtain ⟨b, e1, e2, e3, e4, e5⟩ := i8 h0
      exact ⟨_, e1, by show lo ≤ b; omega, by show b < hi; omega, (ihe e5).keep (by omega) (by omega) (fun _ _ _ => rfl) _ _ e2 e3⟩
    · exact (ihr (TrI.wide _ hr (show lo ≤ h' by omega) (Nat.le_refl _)))

theorem SubI.rep {w : World} {lo hi : Nat} {s : Sts} {A : Option Addr} {c : Nat} (h : SubI w lo hi s A c) : RepV w lo hi s A c :=
  ⟨h.1, h.2.1, fun h0 => by
    obtain ⟨b, e1, e2, e3, _, e5⟩ := h.2.2.2 h0
    exact ⟨_, e1, e2, e3, e5.rep⟩⟩

/-- The lists under a row lie in blocks of their own, and none of them meets the row's. -/
def Subs (w : World) (g : Option Nat) : Nat → List StR → Nat → Prop
  | lo, [], hi => lo ≤ hi
  | lo, r :: rs, hi => ∃ l m h, lo ≤ l ∧ l ≤ m ∧ m ≤ h ∧ (∀ k, g = some k → k < l ∨ h ≤ k) ∧ SubI w l m r.t r.At r.ct ∧ SubI w m h r.e r.Ae r.ce ∧ Subs w g h rs hi

theorem Subs.le {w : World} {g : Option Nat} : ∀ {rs : List StR} {lo hi : Nat}, Subs w g lo rs hi → lo ≤ hi
  | [], _, _, h => h
  | r :: rs, lo, hi, h => by
    obtain ⟨l, m, h', h1, h2, h3, _, _, _, hr⟩ := h
    have := Subs.le hr
    omega

theorem Subs.keep {w w' : World} {g : Option Nat} : ∀ {rs : List StR} {lo hi : Nat}, Subs w g lo rs hi → (∀ k, lo ≤ k → k < hi → g ≠ some k → w'.heap[k]? = w.heap[k]?) → Subs w' g lo rs hi
  | [], _, _, h, _ => h
  | r :: rs, lo, hi, h, hk => by
    obtain ⟨l, m, h', h1, h2, h3, h4, h5, h6, hr⟩ := h
    have hle := Subs.le hr
    exact ⟨l, m, h', h1, h2, h3, h4, h5.keep (fun k k1 k2 => hk k (by omega) (by omega) fun e => by have := h4 k e; omega), h6.keep (fun k k1 k2 => hk k (by omega) (by omega) fun e => by have := h4 k e; omega),
      Subs.keep hr fun k k1 k2 => hk k (by omega) k2⟩

theorem Subs.off {w : World} {g g' : Option Nat} : ∀ {rs : List StR} {lo hi : Nat}, Subs w g lo rs hi → (∀ k, g' = some k → hi ≤ k) → Subs w g' lo rs hi
  | [], _, _, h, _ => h
  | r :: rs, lo, hi, h, hk => by
    obtain ⟨l, m, h', h1, h2, h3, h4, h5, h6, hr⟩ := h
    have hle := Subs.le hr
    exact ⟨l, m, h', h1, h2, h3, fun k e => .inr (by have := hk k e; omega), h5, h6, Subs.off hr hk⟩

theorem Subs.snoc {w : World} {g : Option Nat} {r : StR} {l m h : Nat} (h4 : ∀ k, g = some k → k < l ∨ h ≤ k) (h5 : SubI w l m r.t r.At r.ct) (h6 : SubI w m h r.e r.Ae r.ce) : ∀ {rs : List StR} {lo hi : Nat}, Subs w g lo rs hi → hi ≤ l → Subs w g lo (rs ++ [r]) h
  | [], lo, hi, hs, hl => ⟨l, m, h, Nat.le_trans hs hl, h5.2.2.1, h6.2.2.1, h4, h5, h6, Nat.le_refl _⟩
  | q :: rs, lo, hi, hs, hl => by
    obtain ⟨l', m', h', i1, i2, i3, i4, i5, i6, hr⟩ := hs
    exact ⟨l', m', h', i1, i2, i3, i4, i5, i6, Subs.snoc h4 h5 h6 hr hl⟩

theorem Subs.wide {w : World} {g : Option Nat} : ∀ {rs : List StR} {lo hi lo' hi' : Nat}, Subs w g lo rs hi → lo' ≤ lo → hi ≤ hi' → Subs w g lo' rs hi'
  | [], _, _, _, _, h, k1, k2 => Nat.le_trans k1 (Nat.le_trans h k2)
  | r :: rs, lo, hi, lo', hi', h, k1, k2 => by
    obtain ⟨l, m, h', h1, h2, h3, h4, h5, h6, hr⟩ := h
    exact ⟨l, m, h', by omega, h2, h3, h4, h5, h6, Subs.wide hr (Nat.le_refl _) k2⟩

/-- A row of statements that the call owns, with the lists under it. -/
structure RowT (w : World) (B : Nat) (v : Value) (rs : List StR) : Prop where
  own : w.ownsRow B 53 6 v rs.length (rs.flatMap StR.cells)
  subs : Subs w v.ownBlock B rs w.heap.size

theorem RowT.form {w : World} {B : Nat} {v : Value} {rs : List StR} (h : RowT w B v rs) : ∃ A c, v = .slice A rs.length c ∧ rs.length ≤ c ∧ c ≤ maxLen ∧ (0 < rs.length → ∃ g, A = some ⟨g, 0, none⟩ ∧ B ≤ g ∧ g < w.heap.size) := own_form h.own

theorem RowT.kept {w w' : World} {B : Nat} {v : Value} {rs : List StR} (h : RowT w B v rs) (hs : w.heap.size ≤ w'.heap.size) (hk : ∀ k, B ≤ k → k < w.heap.size → w'.heap[k]? = w.heap[k]?) : RowT w' B v rs :=
  ⟨own_keep h.own fun g hg => hk g (h.own.lt g hg).1 (h.own.lt g hg).2, (h.subs.keep fun k k1 k2 _ => hk k k1 k2).wide (Nat.le_refl _) hs⟩

theorem RowT.below {w w' : World} {B : Nat} {v : Value} {rs : List StR} (h : RowT w B v rs) (hb : Below w.heap.size w w') : RowT w' B v rs := h.kept hb.size fun k _ hk => hb.block k hk

theorem RowT.nil0 (w : World) (B : Nat) (hB : B ≤ w.heap.size) : RowT w B (.slice none 0 0) [] := ⟨World.ownsRow_nil w B _ 6, hB⟩

/-- A statement more: the lists under it were made behind the row. -/
theorem RowT.snoc {w w' : World} {B g cap l m : Nat} {v : Value} {rs : List StR} {r : StR} (hB : Subs w v.ownBlock B rs l) (hl : ∀ k, v.ownBlock = some k → k < l)
    (h5 : SubI w l m r.t r.At r.ct) (h6 : SubI w m w.heap.size r.e r.Ae r.ce)
    (hown : w'.ownsRow B 53 6 (.slice (some ⟨g, 0, none⟩) (rs.length + 1) cap) (rs.length + 1) (rs.flatMap StR.cells ++ r.cells)) (hg : w.grownBy w' v.ownBlock) (hat : v.ownBlock = some g ∨ g = w.heap.size) :
    RowT w' B (.slice (some ⟨g, 0, none⟩) (rs.length + 1) cap) (rs ++ [r]) := by
  refine ⟨by rw [List.length_append, List.flatMap_append]; simpa using hown, ?_⟩
  have e1 : (Value.slice (some ⟨g, 0, none⟩) (rs.length + 1) cap).ownBlock = some g := rfl
  rw [e1]
  have hS : Subs w' v.ownBlock B (rs ++ [r]) w.heap.size := Subs.keep (Subs.snoc (fun k hk => .inl (hl k hk)) h5 h6 hB (Nat.le_refl _)) fun k _ k2 k3 => hg.block k k2 (fun e2 => k3 e2.symm)
  rcases hat with e | e
  · rw [← e]
    exact hS.wide (Nat.le_refl _) hg.size
  · exact (Subs.off hS fun k hk => by injection hk with hk; omega).wide (Nat.le_refl _) hg.size

end Go.Proofs.Ytcpmodkplikmcaa
