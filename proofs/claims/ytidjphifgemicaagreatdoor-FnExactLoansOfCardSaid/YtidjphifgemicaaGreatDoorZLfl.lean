/-
  Loans that come to a point: plain. The least sets of pairs of a place and a loan that have what points bring and what they hand on; and a list of work that finds them.
-/
import Derived.Test.YtidjphifgemicaaGreatDoorZMem
namespace Go.Proofs.YtidjphifgemicaaGreatDoor
set_option linter.unusedVariables false

/-- What comes to a point: G is what a point brings to a place, T what it hands on from place to place. -/
inductive LFlo (e : Nat → Nat → Prop) (G : Nat → Nat → Nat → Prop) (T : Nat → Nat → Nat → Nat → Prop) : Nat → Nat → Nat → Prop
  | gen {k m v l : Nat} : e k m → G k v l → LFlo e G T m v l
  | step {k m u v l : Nat} : e k m → LFlo e G T k u l → T k u v l → LFlo e G T m v l

/-- What is behind a point, by what is before it. -/
def Beh (G : Nat → Nat → Nat → Prop) (T : Nat → Nat → Nat → Nat → Prop) (k : Nat) (S : Nat → Nat → Prop) (v l : Nat) : Prop := G k v l ∨ ∃ u, u < 7 ∧ S u l ∧ T k u v l

/-- The bits of a row of sets. -/
def bitR (x : Nat → Nat) (u l : Nat) : Prop := (x u).testBit l = true

/-- A row changed at one point. -/
def setP (f : Nat → Nat → Nat) (i : Nat) (v : Nat → Nat) : Nat → Nat → Nat := fun j => if j = i then v else f j

theorem setP_at (f : Nat → Nat → Nat) (i : Nat) (v : Nat → Nat) : setP f i v i = v := by simp [setP]
theorem setP_ne (f : Nat → Nat → Nat) (i : Nat) (v : Nat → Nat) {j : Nat} (h : j ≠ i) : setP f i v j = f j := by simp [setP, h]

theorem or_lt61 {x y : Nat} (hx : x < 2305843009213693952) (hy : y < 2305843009213693952) : x ||| y < 2305843009213693952 := Nat.or_lt_two_pow (n := 61) hx hy

structure LIn (e : Nat → Nat → Prop) (G : Nat → Nat → Nat → Prop) (T : Nat → Nat → Nat → Nat → Prop) (n : Nat) (kn : Nat → Nat → Nat) (W : Nat → Prop) : Prop where
  lt : ∀ m v, kn m v < 2305843009213693952
  sound : ∀ m, m < n → ∀ v, v < 7 → ∀ l, bitR (kn m) v l → LFlo e G T m v l
  next : ∀ k, k < n → ¬ W k → ∀ m, e k m → ∀ v, v < 7 → ∀ l, Beh G T k (bitR (kn k)) v l → bitR (kn m) v l

theorem LFlo.place {e : Nat → Nat → Prop} {G : Nat → Nat → Nat → Prop} {T : Nat → Nat → Nat → Nat → Prop} (hG : ∀ k v l, G k v l → v < 7) (hT : ∀ k u v l, T k u v l → v < 7) {m v l : Nat} (h : LFlo e G T m v l) : v < 7 := by
  cases h with
  | gen _ h => exact hG _ _ _ h
  | step _ _ h => exact hT _ _ _ _ h

theorem LIn.last {e : Nat → Nat → Prop} {G : Nat → Nat → Nat → Prop} {T : Nat → Nat → Nat → Nat → Prop} {n : Nat} {kn : Nat → Nat → Nat} {W : Nat → Prop} (h : LIn e G T n kn W) (hW : ∀ k, ¬ W k) (hE : ∀ a b, e a b → a < n) (hG : ∀ k v l, G k v l → v < 7) (hT : ∀ k u v l, T k u v l → v < 7) {m v l : Nat} (hm : m < n) (hv : v < 7) : bitR (kn m) v l ↔ LFlo e G T m v l := by
  refine ⟨h.sound m hm v hv l, fun hf => ?_⟩
  clear hm
  induction hf with
  | gen h1 h2 => exact h.next _ (hE _ _ h1) (hW _) _ h1 _ hv _ (.inl h2)
  | step h1 h2 h3 ih =>
    have hu := h2.place hG hT
    exact h.next _ (hE _ _ h1) (hW _) _ h1 _ hv _ (.inr ⟨_, hu, ih hu, h3⟩)

structure LAt (e : Nat → Nat → Prop) (G : Nat → Nat → Nat → Prop) (T : Nat → Nat → Nat → Nat → Prop) (n : Nat) (kn : Nat → Nat → Nat) (W : Nat → Prop) (a : Nat) (x0 y : Nat → Nat) (D : Nat → Prop) : Prop where
  lt : ∀ m v, kn m v < 2305843009213693952
  ylt : ∀ v, y v < 2305843009213693952
  sound : ∀ m, m < n → ∀ v, v < 7 → ∀ l, bitR (kn m) v l → LFlo e G T m v l
  behind : ∀ v, v < 7 → ∀ l, (bitR y v l ↔ Beh G T a (bitR x0) v l)
  old : ∀ v, v < 7 → ∀ l, bitR x0 v l → LFlo e G T a v l
  here : ¬ W a → kn a = x0
  next : ∀ k, k < n → ¬ W k → ∀ m, e k m → (k = a → D m) → ∀ v, v < 7 → ∀ l, Beh G T k (bitR (kn k)) v l → bitR (kn m) v l

section
variable {e : Nat → Nat → Prop} {G : Nat → Nat → Nat → Prop} {T : Nat → Nat → Nat → Nat → Prop} {n : Nat} {kn : Nat → Nat → Nat} {W W' : Nat → Prop} {a : Nat} {x0 y : Nat → Nat} {D D' : Nat → Prop} {b : Nat}

theorem LIn.take (h : LIn e G T n kn W) (ha : a < n) (hy : ∀ v, y v < 2305843009213693952) (hb : ∀ v, v < 7 → ∀ l, (bitR y v l ↔ Beh G T a (bitR (kn a)) v l)) (hW : ∀ k, W k → W' k ∨ k = a) : LAt e G T n kn W' a (kn a) y (fun _ => False) :=
  ⟨h.lt, hy, h.sound, hb, h.sound a ha, fun _ => rfl, fun k hk hw m hm hD v hv l hg => by
    by_cases hka : k = a
    · exact absurd (hD hka) id
    · refine h.next k hk (fun hWk => ?_) m hm v hv l hg
      rcases hW k hWk with h1 | h1
      · exact hw h1
      · exact hka h1⟩

theorem LAt.done (h : LAt e G T n kn W a x0 y D) (hD : ∀ m, e a m → D m) : LIn e G T n kn W :=
  ⟨h.lt, h.sound, fun k hk hw m hm v hv l hg => h.next k hk hw m hm (fun e' => hD m (e' ▸ hm)) v hv l hg⟩

theorem LAt.less (h : LAt e G T n kn W a x0 y D) (hD : ∀ m, D' m → D m) : LAt e G T n kn W a x0 y D' :=
  ⟨h.lt, h.ylt, h.sound, h.behind, h.old, h.here, fun k hk hw m hm hDm => h.next k hk hw m hm (fun e' => hD m (hDm e'))⟩

theorem bitR_or (x y : Nat → Nat) (v l : Nat) : bitR (fun v => x v ||| y v) v l ↔ bitR x v l ∨ bitR y v l := by
  unfold bitR
  rw [Nat.testBit_or, Bool.or_eq_true]

/-- What comes is known already. -/
theorem LAt.same (h : LAt e G T n kn W a x0 y D) (hj : ∀ v, v < 7 → kn b v ||| y v = kn b v) (hD : ∀ m, D' m → D m ∨ m = b) : LAt e G T n kn W a x0 y D' :=
  ⟨h.lt, h.ylt, h.sound, h.behind, h.old, h.here, fun k hk hw m hm hDm v hv l hg => by
    by_cases hka : k = a
    · subst hka
      rcases hD m (hDm rfl) with h1 | h1
      · exact h.next k hk hw m hm (fun _ => h1) v hv l hg
      · subst h1
        have h2 : bitR (fun v => kn m v ||| y v) v l := (bitR_or _ _ _ _).mpr (.inr ((h.behind v hv l).mpr (by rw [← h.here hw]; exact hg)))
        unfold bitR at h2 ⊢
        rw [← hj v hv]
        exact h2
    · exact h.next k hk hw m hm (fun e' => absurd e' hka) v hv l hg⟩

/-- Something new comes. -/
theorem LAt.more (h : LAt e G T n kn W a x0 y D) (hab : e a b) {z : Nat → Nat} (hz : ∀ v, z v = kn b v ||| y v) (hW : ∀ k, W' k ↔ W k ∨ k = b) (hD : ∀ m, D' m → D m ∨ m = b) : LAt e G T n (setP kn b z) W' a x0 y D' := by
  have hzb : ∀ v l, bitR z v l ↔ bitR (kn b) v l ∨ bitR y v l := by
    intro v l
    unfold bitR
    rw [hz v, Nat.testBit_or, Bool.or_eq_true]
  have hmono : ∀ m v l, bitR (kn m) v l → bitR (setP kn b z m) v l := by
    intro m v l hd
    by_cases hmb : m = b
    · subst hmb
      rw [setP_at]
      exact (hzb _ _).mpr (.inl hd)
    · rw [setP_ne _ _ _ hmb]; exact hd
  refine ⟨fun m v => ?_, h.ylt, fun m hm v hv l hd => ?_, h.behind, h.old, fun hw => ?_, fun k hk hw m hm hDm v hv l hg => ?_⟩
  · by_cases hmb : m = b
    · rw [hmb, setP_at, hz]; exact or_lt61 (h.lt b v) (h.ylt v)
    · rw [setP_ne _ _ _ hmb]; exact h.lt m v
  · by_cases hmb : m = b
    · subst hmb
      rw [setP_at] at hd
      rcases (hzb _ _).mp hd with h1 | h1
      · exact h.sound m hm v hv l h1
      · rcases (h.behind v hv l).mp h1 with h2 | ⟨u, hu, h2, h3⟩
        · exact .gen hab h2
        · exact .step hab (h.old u hu l h2) h3
    · rw [setP_ne _ _ _ hmb] at hd
      exact h.sound m hm v hv l hd
  · have : ¬ (W a ∨ a = b) := fun h' => hw ((hW a).mpr h')
    rw [setP_ne _ _ _ (fun e' => this (.inr e'))]
    exact h.here (fun h' => this (.inl h'))
  · have hwk : ¬ (W k ∨ k = b) := fun h' => hw ((hW k).mpr h')
    have hkb : k ≠ b := fun e' => hwk (.inr e')
    rw [setP_ne _ _ _ hkb] at hg
    by_cases hka : k = a
    · subst hka
      rcases hD m (hDm rfl) with h1 | h1
      · exact hmono _ _ _ (h.next k hk (fun h' => hwk (.inl h')) m hm (fun _ => h1) v hv l hg)
      · subst h1
        rw [setP_at]
        refine (hzb _ _).mpr (.inr ((h.behind v hv l).mpr ?_))
        rw [← h.here (fun h' => hwk (.inl h'))]
        exact hg
    · exact hmono _ _ _ (h.next k hk (fun h' => hwk (.inl h')) m hm (fun e' => absurd e' hka) v hv l hg)
end

theorem LIn.start {e : Nat → Nat → Prop} {G : Nat → Nat → Nat → Prop} {T : Nat → Nat → Nat → Nat → Prop} {n : Nat} {W : Nat → Prop} (hW : ∀ k, k < n → W k) : LIn e G T n (fun _ _ => 0) W := by
  refine ⟨fun _ _ => by decide, fun m hm v hv l hb => ?_, fun k hk hw => absurd (hW k hk) hw⟩
  unfold bitR at hb
  simp at hb

theorem sumTo_le {f g : Nat → Nat} : ∀ {n : Nat}, (∀ i, i < n → g i ≤ f i) → sumTo g n ≤ sumTo f n
  | 0, _ => Nat.le_refl _
  | n + 1, h => by
    unfold sumTo
    have := sumTo_le (n := n) (f := f) (g := g) (fun i hi => h i (by omega))
    have := h n (by omega)
    omega

theorem sumTo_lt {f g : Nat → Nat} {k : Nat} : ∀ {n : Nat}, k < n → g k < f k → (∀ i, i < n → g i ≤ f i) → sumTo g n < sumTo f n
  | 0, h, _, _ => by omega
  | n + 1, h, h1, h2 => by
    unfold sumTo
    by_cases hk : k = n
    · subst hk
      have := sumTo_le (n := k) (f := f) (g := g) (fun i hi => h2 i (by omega))
      omega
    · have := sumTo_lt (n := n) (f := f) (g := g) (by omega) h1 (fun i hi => h2 i (by omega))
      have := h2 n (by omega)
      omega

/-- How much the sets of a point can still grow. -/
def wtP (x : Nat → Nat) : Nat := sumTo (fun v => 2305843009213693952 - x v) 7

theorem wtP_or {x y z : Nat → Nat} (hx : ∀ v, x v < 2305843009213693952) (hz : ∀ v, z v = x v ||| y v) (h : ∃ v, v < 7 ∧ z v ≠ x v) : wtP z < wtP x := by
  obtain ⟨v, hv, hne⟩ := h
  have hle : ∀ i, x i ≤ z i := fun i => by rw [hz]; exact Nat.left_le_or
  unfold wtP
  refine sumTo_lt hv ?_ (fun i _ => ?_)
  · have := hle v
    have := hx v
    omega
  · have := hle i
    omega

theorem wtP_set {kn : Nat → Nat → Nat} {n b : Nat} {y z : Nat → Nat} (hb : b < n) (hx : ∀ v, kn b v < 2305843009213693952) (hz : ∀ v, z v = kn b v ||| y v) (h : ∃ v, v < 7 ∧ z v ≠ kn b v) : sumTo (fun m => wtP (setP kn b z m)) n < sumTo (fun m => wtP (kn m)) n := by
  refine sumTo_less hb ?_ (fun i hi => ?_)
  · rw [setP_at]; exact wtP_or hx hz h
  · rw [setP_ne _ _ _ hi]

/-! The loans of a program's points. -/

/-- A point makes a loan of a variable. -/
def loanN (ns : List Nd) (l : Nat) (v : Int) : Prop := ∃ d, ns[l]? = some d ∧ (d.op = 4 ∨ d.op = 5) ∧ d.y = v

/-- A point takes or sets a variable: what its value was is gone then. -/
def lostN (ts : List Int) (ns : List Nd) (k v : Nat) : Prop := usesN ts ns k v 2 ∨ setsN ns k v

/-- What a point brings: its own loan, to what it sets and to what is placed (6). -/
def genL (ns : List Nd) (k v l : Nat) : Prop := ∃ d, ns[k]? = some d ∧ (d.op = 4 ∨ d.op = 5) ∧ l = k ∧ (v = 6 ∨ d.x = (v : Int)) ∧ v < 7

/-- What a point hands on. -/
def handL (ts : List Int) (ns : List Nd) (k u v l : Nat) : Prop :=
  (v < 6 ∧ u < 6 ∧ ((∃ d, ns[k]? = some d ∧ (d.op = 3 ∨ d.op = 4 ∨ d.op = 5) ∧ d.x = (v : Int) ∧ d.y = (u : Int)) ∨ (u = v ∧ ¬ lostN ts ns k v))) ∨
  (v = 6 ∧ u = 6 ∧ ∀ z : Nat, z < 6 → lostN ts ns k z → ¬ loanN ns l z)

/-- The loans from which values come (places 0 to 5), and those that are placed (6), before a point. -/
def LoanB (ts : List Int) (ns : List Nd) : Nat → Nat → Nat → Prop := LFlo (eN ns) (genL ns) (handL ts ns)

theorem genL_place (ns : List Nd) (k v l : Nat) (h : genL ns k v l) : v < 7 := by
  obtain ⟨_, _, _, _, _, h⟩ := h
  exact h

theorem handL_place (ts : List Int) (ns : List Nd) (k u v l : Nat) (h : handL ts ns k u v l) : v < 7 := by
  rcases h with ⟨h, _⟩ | ⟨h, _⟩ <;> omega

/-- Loans are points that make them. -/
theorem LoanB.loan {ts : List Int} {ns : List Nd} {m v l : Nat} (h : LoanB ts ns m v l) : ∃ d, ns[l]? = some d ∧ (d.op = 4 ∨ d.op = 5) := by
  induction h with
  | gen _ h =>
    obtain ⟨d, h1, h2, rfl, _⟩ := h
    exact ⟨d, h1, h2⟩
  | step _ _ _ ih => exact ih

end Go.Proofs.YtidjphifgemicaaGreatDoor
