/-
  What comes to a point, for six variables: plain. The least sets that have what points bring and hand on; a list of work that finds them; and what points bring and hand on for cells, setters and numbers.
-/
import Derived.Test.YtnoejapnjhogaaaGreatDoorZMem
namespace Go.Proofs.YtnoejapnjhogaaaGreatDoor.tr
set_option linter.unusedVariables false

/-- What comes to a point: G is what a point brings to a place, T what it hands on from place to place. -/
inductive LFlo (e : Nat → Nat → Prop) (G : Nat → Nat → Nat → Prop) (T : Nat → Nat → Nat → Nat → Prop) : Nat → Nat → Nat → Prop
  | gen {k m v l : Nat} : e k m → G k v l → LFlo e G T m v l
  | step {k m u v l : Nat} : e k m → LFlo e G T k u l → T k u v l → LFlo e G T m v l

/-- What is behind a point, by what is before it. -/
def Beh (G : Nat → Nat → Nat → Prop) (T : Nat → Nat → Nat → Nat → Prop) (k : Nat) (S : Nat → Nat → Prop) (v l : Nat) : Prop := G k v l ∨ ∃ u, u < 6 ∧ S u l ∧ T k u v l

/-- The bits of a row of sets. -/
def bitR (x : Nat → Nat) (u l : Nat) : Prop := (x u).testBit l = true

/-- A row changed at one point. -/
def setP (f : Nat → Nat → Nat) (i : Nat) (v : Nat → Nat) : Nat → Nat → Nat := fun j => if j = i then v else f j

theorem setP_at (f : Nat → Nat → Nat) (i : Nat) (v : Nat → Nat) : setP f i v i = v := by simp [setP]
theorem setP_ne (f : Nat → Nat → Nat) (i : Nat) (v : Nat → Nat) {j : Nat} (h : j ≠ i) : setP f i v j = f j := by simp [setP, h]

theorem or_lt61 {x y : Nat} (hx : x < 2305843009213693952) (hy : y < 2305843009213693952) : x ||| y < 2305843009213693952 := Nat.or_lt_two_pow (n := 61) hx hy

structure LIn (e : Nat → Nat → Prop) (G : Nat → Nat → Nat → Prop) (T : Nat → Nat → Nat → Nat → Prop) (n : Nat) (kn : Nat → Nat → Nat) (W : Nat → Prop) : Prop where
  lt : ∀ m v, kn m v < 2305843009213693952
  sound : ∀ m, m < n → ∀ v, v < 6 → ∀ l, bitR (kn m) v l → LFlo e G T m v l
  next : ∀ k, k < n → ¬ W k → ∀ m, e k m → ∀ v, v < 6 → ∀ l, Beh G T k (bitR (kn k)) v l → bitR (kn m) v l

theorem LFlo.place {e : Nat → Nat → Prop} {G : Nat → Nat → Nat → Prop} {T : Nat → Nat → Nat → Nat → Prop} (hG : ∀ k v l, G k v l → v < 6) (hT : ∀ k u v l, T k u v l → v < 6) {m v l : Nat} (h : LFlo e G T m v l) : v < 6 := by
  cases h with
  | gen _ h => exact hG _ _ _ h
  | step _ _ h => exact hT _ _ _ _ h

theorem LIn.last {e : Nat → Nat → Prop} {G : Nat → Nat → Nat → Prop} {T : Nat → Nat → Nat → Nat → Prop} {n : Nat} {kn : Nat → Nat → Nat} {W : Nat → Prop} (h : LIn e G T n kn W) (hW : ∀ k, ¬ W k) (hE : ∀ a b, e a b → a < n) (hG : ∀ k v l, G k v l → v < 6) (hT : ∀ k u v l, T k u v l → v < 6) {m v l : Nat} (hm : m < n) (hv : v < 6) : bitR (kn m) v l ↔ LFlo e G T m v l := by
  refine ⟨h.sound m hm v hv l, fun hf => ?_⟩
  clear hm
  induction hf with
  | gen h1 h2 => exact h.next _ (hE _ _ h1) (hW _) _ h1 _ hv _ (.inl h2)
  | step h1 h2 h3 ih =>
    have hu := h2.place hG hT
    exact h.next _ (hE _ _ h1) (hW _) _ h1 _ hv _ (.inr ⟨_, hu, ih hu, h3⟩)

structure LAt (e : Nat → Nat → Prop) (G : Nat → Nat → Nat → Prop) (T : Nat → Nat → Nat → Nat → Prop) (n : Nat) (kn : Nat → Nat → Nat) (W : Nat → Prop) (a : Nat) (x0 y : Nat → Nat) (D : Nat → Prop) : Prop where
  lt : ∀ m v, kn m v < 2305843009213693952
  ylt : ∀ v, y v < 2305843009213693952
  sound : ∀ m, m < n → ∀ v, v < 6 → ∀ l, bitR (kn m) v l → LFlo e G T m v l
  behind : ∀ v, v < 6 → ∀ l, (bitR y v l ↔ Beh G T a (bitR x0) v l)
  old : ∀ v, v < 6 → ∀ l, bitR x0 v l → LFlo e G T a v l
  here : ¬ W a → kn a = x0
  next : ∀ k, k < n → ¬ W k → ∀ m, e k m → (k = a → D m) → ∀ v, v < 6 → ∀ l, Beh G T k (bitR (kn k)) v l → bitR (kn m) v l

section
variable {e : Nat → Nat → Prop} {G : Nat → Nat → Nat → Prop} {T : Nat → Nat → Nat → Nat → Prop} {n : Nat} {kn : Nat → Nat → Nat} {W W' : Nat → Prop} {a : Nat} {x0 y : Nat → Nat} {D D' : Nat → Prop} {b : Nat}

theorem LIn.take (h : LIn e G T n kn W) (ha : a < n) (hy : ∀ v, y v < 2305843009213693952) (hb : ∀ v, v < 6 → ∀ l, (bitR y v l ↔ Beh G T a (bitR (kn a)) v l)) (hW : ∀ k, W k → W' k ∨ k = a) : LAt e G T n kn W' a (kn a) y (fun _ => False) :=
  ⟨h.lt, hy, h.sound, hb, h.sound a ha, fun _ => rfl, fun k hk hw m hm hD v hv l hg => by
    by_cases hka : k = a
    · exact absurd (hD hka) id
    · refine h.next k hk (fun hWk => ?_) m hm v hv l hg
      rcases hW k hWk with h1 | h1
      · exact hw h1
      · exact hka h1⟩

theorem LAt.done (h : LAt e G T n kn W a x0 y D) (hD : ∀ m, e a m → D m) : LIn e G T n kn W :=
  ⟨h.lt, h.sound, fun k hk hw m hm v hv l hg => h.next k hk hw m hm (fun e' => hD m (e' ▸ hm)) v hv l hg⟩

theorem LAt.less (h : LAt e G T n kn W a x0 y D) (hD : ∀ m, D' m → D m) : LAt e G T n kn W a x0 y D' :=
  ⟨h.lt, h.ylt, h.sound, h.behind, h.old, h.here, fun k hk hw m hm hDm => h.next k hk hw m hm (fun e' => hD m (hDm e'))⟩

theorem bitR_or (x y : Nat → Nat) (v l : Nat) : bitR (fun v => x v ||| y v) v l ↔ bitR x v l ∨ bitR y v l := by
  unfold bitR
  rw [Nat.testBit_or, Bool.or_eq_true]

/-- What comes is known already. -/
theorem LAt.same (h : LAt e G T n kn W a x0 y D) (hj : ∀ v, v < 6 → kn b v ||| y v = kn b v) (hD : ∀ m, D' m → D m ∨ m = b) : LAt e G T n kn W a x0 y D' :=
  ⟨h.lt, h.ylt, h.sound, h.behind, h.old, h.here, fun k hk hw m hm hDm v hv l hg => by
    by_cases hka : k = a
    · subst hka
      rcases hD m (hDm rfl) with h1 | h1
      · exact h.next k hk hw m hm (fun _ => h1) v hv l hg
      · subst h1
        have h2 : bitR (fun v => kn m v ||| y v) v l := (bitR_or _ _ _ _).mpr (.inr ((h.behind v hv l).mpr (by rw [← h.here hw]; exact hg)))
        unfold bitR at h2 ⊢
        rw [← hj v hv]
        exact h2
    · exact h.next k hk hw m hm (fun e' => absurd e' hka) v hv l hg⟩

/-- Something new comes. -/
theorem LAt.more (h : LAt e G T n kn W a x0 y D) (hab : e a b) {z : Nat → Nat} (hz : ∀ v, z v = kn b v ||| y v) (hW : ∀ k, W' k ↔ W k ∨ k = b) (hD : ∀ m, D' m → D m ∨ m = b) : LAt e G T n (setP kn b z) W' a x0 y D' := by
  have hzb : ∀ v l, bitR z v l ↔ bitR (kn b) v l ∨ bitR y v l := by
    intro v l
    unfold bitR
    rw [hz v, Nat.testBit_or, Bool.or_eq_true]
  have hmono : ∀ m v l, bitR (kn m) v l → bitR (setP kn b z m) v l := by
    intro m v l hd
    by_cases hmb : m = b
    · subst hmb
      rw [setP_at]
      exact (hzb _ _).mpr (.inl hd)
    · rw [setP_ne _ _ _ hmb]; exact hd
  refine ⟨fun m v => ?_, h.ylt, fun m hm v hv l hd => ?_, h.behind, h.old, fun hw => ?_, fun k hk hw m hm hDm v hv l hg => ?_⟩
  · by_cases hmb : m = b
    · rw [hmb, setP_at, hz]; exact or_lt61 (h.lt b v) (h.ylt v)
    · rw [setP_ne _ _ _ hmb]; exact h.lt m v
  · by_cases hmb : m = b
    · subst hmb
      rw [setP_at] at hd
      rcases (hzb _ _).mp hd with h1 | h1
      · exact h.sound m hm v hv l h1
      · rcases (h.behind v hv l).mp h1 with h2 | ⟨u, hu, h2, h3⟩
        · exact .gen hab h2
        · exact .step hab (h.old u hu l h2) h3
    · rw [setP_ne _ _ _ hmb] at hd
      exact h.sound m hm v hv l hd
  · have : ¬ (W a ∨ a = b) := fun h' => hw ((hW a).mpr h')
    rw [setP_ne _ _ _ (fun e' => this (.inr e'))]
    exact h.here (fun h' => this (.inl h'))
  · have hwk : ¬ (W k ∨ k = b) := fun h' => hw ((hW k).mpr h')
    have hkb : k ≠ b := fun e' => hwk (.inr e')
    rw [setP_ne _ _ _ hkb] at hg
    by_cases hka : k = a
    · subst hka
      rcases hD m (hDm rfl) with h1 | h1
      · exact hmono _ _ _ (h.next k hk (fun h' => hwk (.inl h')) m hm (fun _ => h1) v hv l hg)
      · subst h1
        rw [setP_at]
        refine (hzb _ _).mpr (.inr ((h.behind v hv l).mpr ?_))
        rw [← h.here (fun h' => hwk (.inl h'))]
        exact hg
    · exact hmono _ _ _ (h.next k hk (fun h' => hwk (.inl h')) m hm (fun e' => absurd e' hka) v hv l hg)
end

theorem LIn.start {e : Nat → Nat → Prop} {G : Nat → Nat → Nat → Prop} {T : Nat → Nat → Nat → Nat → Prop} {n : Nat} {W : Nat → Prop} (hW : ∀ k, k < n → W k) : LIn e G T n (fun _ _ => 0) W := by
  refine ⟨fun _ _ => by decide, fun m hm v hv l hb => ?_, fun k hk hw => absurd (hW k hk) hw⟩
  unfold bitR at hb
  simp at hb

theorem sumTo_le {f g : Nat → Nat} : ∀ {n : Nat}, (∀ i, i < n → g i ≤ f i) → sumTo g n ≤ sumTo f n
  | 0, _ => Nat.le_refl _
  | n + 1, h => by
    unfold sumTo
    have := sumTo_le (n := n) (f := f) (g := g) (fun i hi => h i (by omega))
    have := h n (by omega)
    omega

theorem sumTo_lt {f g : Nat → Nat} {k : Nat} : ∀ {n : Nat}, k < n → g k < f k → (∀ i, i < n → g i ≤ f i) → sumTo g n < sumTo f n
  | 0, h, _, _ => by omega
  | n + 1, h, h1, h2 => by
    unfold sumTo
    by_cases hk : k = n
    · subst hk
      have := sumTo_le (n := k) (f := f) (g := g) (fun i hi => h2 i (by omega))
      omega
    · have := sumTo_lt (n := n) (f := f) (g := g) (by omega) h1 (fun i hi => h2 i (by omega))
      have := h2 n (by omega)
      omega

/-- How much the sets of a point can still grow. -/
def wtP (x : Nat → Nat) : Nat := sumTo (fun v => 2305843009213693952 - x v) 6

theorem wtP_or {x y z : Nat → Nat} (hx : ∀ v, x v < 2305843009213693952) (hz : ∀ v, z v = x v ||| y v) (h : ∃ v, v < 6 ∧ z v ≠ x v) : wtP z < wtP x := by
  obtain ⟨v, hv, hne⟩ := h
  have hle : ∀ i, x i ≤ z i := fun i => by rw [hz]; exact Nat.left_le_or
  unfold wtP
  refine sumTo_lt hv ?_ (fun i _ => ?_)
  · have := hle v
    have := hx v
    omega
  · have := hle i
    omega

theorem wtP_set {kn : Nat → Nat → Nat} {n b : Nat} {y z : Nat → Nat} (hb : b < n) (hx : ∀ v, kn b v < 2305843009213693952) (hz : ∀ v, z v = kn b v ||| y v) (h : ∃ v, v < 6 ∧ z v ≠ kn b v) : sumTo (fun m => wtP (setP kn b z m)) n < sumTo (fun m => wtP (kn m)) n := by
  refine sumTo_less hb ?_ (fun i hi => ?_)
  · rw [setP_at]; exact wtP_or hx hz h
  · rw [setP_ne _ _ _ hi]


/-- A point takes or sets a variable: what its value was is gone then. -/
def lostN (ts : List Int) (ns : List Nd) (k v : Nat) : Prop := usesN ts ns k v 2 ∨ setsN ns k v

/-- What a point itself answers for the variable that it sets, of question q (0: cells, 1: setters, 2: numbers). -/
def gQ (q : Nat) (d : Nd) (a l : Nat) : Bool :=
  if q = 0 then decide (d.op = 2) && decide (l = a) else if q = 1 then decide (l = a)
  else (decide (d.op = 1) && decide (d.n = (l : Int))) || (decide (d.op = 6) && decide (l < 10))

/-- The variable that a point sets has what Y had. -/
def hQ (q : Nat) (d : Nd) : Bool := if q = 0 then decide (d.op = 3 ∨ d.op = 4 ∨ d.op = 5) else if q = 1 then false else decide (d.op = 3)

/-- How many answers there can be. -/
def szQ (q n : Nat) : Nat := if q = 0 then n else if q = 1 then n else 10

def genT (q : Nat) (ns : List Nd) (k v l : Nat) : Prop := ∃ d, ns[k]? = some d ∧ setI d = (v : Int) ∧ gQ q d k l = true ∧ v < 6

def handT (q : Nat) (ts : List Int) (ns : List Nd) (k u v l : Nat) : Prop :=
  v < 6 ∧ u < 6 ∧ ((∃ d, ns[k]? = some d ∧ setI d = (v : Int) ∧ hQ q d = true ∧ d.y = (u : Int)) ∨ (u = v ∧ ¬ lostN ts ns k v))

/-- The answers to a question about the variables before a point. -/
def TrB (q : Nat) (ts : List Int) (ns : List Nd) : Nat → Nat → Nat → Prop := LFlo (eN ns) (genT q ns) (handT q ts ns)

theorem genT_place (q : Nat) (ns : List Nd) (k v l : Nat) (h : genT q ns k v l) : v < 6 := by
  obtain ⟨_, _, _, _, h⟩ := h
  exact h

theorem handT_place (q : Nat) (ts : List Int) (ns : List Nd) (k u v l : Nat) (h : handT q ts ns k u v l) : v < 6 := h.1

theorem set_op {d : Nd} {v : Nat} (h : setI d = (v : Int)) : 1 ≤ d.op ∧ d.op ≤ 6 ∧ d.x = (v : Int) := by
  unfold setI at h
  split at h
  · rename_i h9; exact ⟨h9.1, h9.2, h⟩
  · omega

theorem gQ_lt {q : Nat} {ts : List Int} {ns : List Nd} (hA : AllTyped ts ns) {a l : Nat} {d : Nd} (hd : ns[a]? = some d) (h : gQ q d a l = true) : l < szQ q ns.length := by
  have ha := (List.getElem?_eq_some_iff.mp hd).1
  unfold gQ at h
  unfold szQ
  by_cases h0 : q = 0
  · rw [if_pos h0] at h ⊢
    simp only [Bool.and_eq_true, decide_eq_true_eq] at h
    omega
  · rw [if_neg h0] at h ⊢
    by_cases h1 : q = 1
    · rw [if_pos h1] at h ⊢
      simp only [decide_eq_true_eq] at h
      omega
    · rw [if_neg h1] at h ⊢
      simp only [Bool.or_eq_true, Bool.and_eq_true, decide_eq_true_eq] at h
      rcases h with ⟨h2, h3⟩ | ⟨_, h3⟩
      · rcases hA.2 a d hd with ⟨_, _, h4⟩ | ⟨h4, _⟩
        · rw [h2] at h4
          simp [simpleB] at h4
          omega
        · omega
      · exact h3

theorem TrB.dom {q : Nat} {ts : List Int} {ns : List Nd} (hA : AllTyped ts ns) {m v l : Nat} (h : TrB q ts ns m v l) : v < ts.length ∧ l < szQ q ns.length := by
  induction h with
  | gen _ h =>
    obtain ⟨d, h1, h2, h3, _⟩ := h
    exact ⟨by have := typed_set (hA.2 _ d h1) _ (by omega) h2; omega, gQ_lt hA h1 h3⟩
  | step _ _ h ih =>
    refine ⟨?_, ih.2⟩
    obtain ⟨_, _, ⟨d, h1, h2, _⟩ | ⟨rfl, _⟩⟩ := h
    · have := typed_set (hA.2 _ d h1) _ (by omega) h2; omega
    · exact ih.1

/-- What is behind a point: its flags, by those before it. -/
def aftT (q : Nat) (ts : List Int) (d : Nd) (a : Nat) (S : Nat → Nat → Bool) (v l : Nat) : Bool :=
  if setI d = (v : Int) then gQ q d a l || (hQ q d && S d.y.toNat l) else if useI ts d (v : Int) = 2 then false else S v l

/-- Flags as a predicate. -/
def flP (o : Nat → Nat → Bool) (v l : Nat) : Prop := o v l = true

theorem aftT_iff {q : Nat} {ts : List Int} {ns : List Nd} (hA : AllTyped ts ns) {a : Nat} {d : Nd} (hd : ns[a]? = some d) {S : Nat → Nat → Bool} {v l : Nat} (hv : v < 6) :
    aftT q ts d a S v l = true ↔ Beh (genT q ns) (handT q ts ns) a (flP S) v l := by
  have hxy := (effD_ok hA.1 (hA.2 a d hd)).xy
  have hset : setsN ns a v ↔ setI d = (v : Int) := setsN_at hd v
  have huse : usesN ts ns a v 2 ↔ useI ts d v = 2 := usesN_at hd v 2
  have hgen : genT q ns a v l ↔ setI d = (v : Int) ∧ gQ q d a l = true := by
    constructor
    · rintro ⟨d', h1, h2, h3, _⟩
      rw [hd] at h1
      cases h1
      exact ⟨h2, h3⟩
    · rintro ⟨h2, h3⟩
      exact ⟨d, hd, h2, h3, hv⟩
  unfold Beh
  rw [hgen]
  unfold aftT
  by_cases hs : setI d = (v : Int)
  · rw [if_pos hs, Bool.or_eq_true, Bool.and_eq_true]
    refine or_congr ⟨fun h => ⟨hs, h⟩, fun h => h.2⟩ ⟨fun ⟨h1, h2⟩ => ⟨d.y.toNat, by omega, h2, hv, by omega, .inl ⟨d, hd, hs, h1, by omega⟩⟩, ?_⟩
    rintro ⟨u, hu, h1, _, _, ⟨d', hd', _, h2, hy⟩ | ⟨_, hl⟩⟩
    · rw [hd] at hd'
      cases hd'
      have e : d.y.toNat = u := by omega
      rw [e]
      exact ⟨h2, h1⟩
    · exact absurd (.inr (hset.mpr hs)) hl
  · rw [if_neg hs]
    by_cases hu2 : useI ts d (v : Int) = 2
    · rw [if_pos hu2]
      simp only [Bool.false_eq_true, false_iff]
      rintro (⟨h1, _⟩ | ⟨u, hu, h1, _, _, ⟨d', hd', h2, _⟩ | ⟨rfl, hl⟩⟩)
      · exact hs h1
      · rw [hd] at hd'
        cases hd'
        exact hs h2
      · exact hl (.inl (huse.mpr hu2))
    · rw [if_neg hu2]
      constructor
      · intro h1
        refine .inr ⟨v, hv, h1, hv, hv, .inr ⟨rfl, ?_⟩⟩
        rintro (h9 | h9)
        · exact hu2 (huse.mp h9)
        · exact hs (hset.mp h9)
      · rintro (⟨h1, _⟩ | ⟨u, hu, h1, _, _, ⟨d', hd', h2, _⟩ | ⟨rfl, hl⟩⟩)
        · exact absurd h1 hs
        · rw [hd] at hd'
          cases hd'
          exact absurd h2 hs
        · exact h1

/-- The sets of a variable behind a point, by the program. -/
def valZ (q : Nat) (d : Nd) (a : Nat) (x : Nat → Nat) : Nat :=
  if q = 0 then (if d.op = 2 then 2 ^ a else if d.op = 3 ∨ d.op = 4 ∨ d.op = 5 then x d.y.toNat else 0)
  else if q = 1 then 2 ^ a
  else (if d.op = 1 then 2 ^ d.n.toNat else if d.op = 3 then x d.y.toNat else if d.op = 6 then 1023 else 0)

def trZ (q : Nat) (ts : List Int) (d : Nd) (a : Nat) (x : Nat → Nat) (v : Nat) : Nat :=
  if setI d = (v : Int) then valZ q d a x else if useI ts d (v : Int) = 2 then 0 else x v

theorem bit_1023 (l : Nat) : Nat.testBit 1023 l = decide (l < 10) := by
  have := Nat.testBit_two_pow_sub_one 10 l
  simpa using this

theorem valZ_bit {q : Nat} (hq : q < 3) {d : Nd} (hn : d.op = 1 → 0 ≤ d.n) (a : Nat) (x : Nat → Nat) (l : Nat) : (valZ q d a x).testBit l = (gQ q d a l || (hQ q d && (x d.y.toNat).testBit l)) := by
  have e2 : ∀ k, (2 ^ k : Nat).testBit l = decide (l = k) := fun k => by rw [Nat.testBit_two_pow]; exact decide_eq_decide.mpr eq_comm
  unfold valZ gQ hQ
  by_cases h0 : q = 0
  · simp only [if_pos h0]
    by_cases h2 : d.op = 2
    · simp only [if_pos h2, e2]
      simp [h2]
    · rw [if_neg h2]
      by_cases h3 : d.op = 3 ∨ d.op = 4 ∨ d.op = 5
      · rw [if_pos h3, decide_eq_false h2, decide_eq_true h3]
        simp
      · rw [if_neg h3, decide_eq_false h2, decide_eq_false h3]
        simp
  · simp only [if_neg h0]
    by_cases h1 : q = 1
    · simp only [if_pos h1, e2]
      simp
    · simp only [if_neg h1]
      by_cases h4 : d.op = 1
      · have hnl : decide (l = d.n.toNat) = decide (d.n = (l : Int)) := decide_eq_decide.mpr (by have := hn h4; omega)
        simp only [if_pos h4, e2, hnl]
        simp [h4]
      · rw [if_neg h4]
        by_cases h5 : d.op = 3
        · rw [if_pos h5, decide_eq_false h4, decide_eq_true h5, decide_eq_false (show ¬ d.op = 6 from by omega)]
          simp
        · rw [if_neg h5]
          by_cases h6 : d.op = 6
          · rw [if_pos h6, decide_eq_false h4, decide_eq_false h5, decide_eq_true h6, bit_1023]
            simp
          · rw [if_neg h6, decide_eq_false h4, decide_eq_false h5, decide_eq_false h6]
            simp

theorem valZ_lt {q : Nat} {d : Nd} {a : Nat} {x : Nat → Nat} (hn : d.op = 1 → d.n ≤ 9) (ha : a < 61) (hx : ∀ v, x v < 2305843009213693952) : valZ q d a x < 2305843009213693952 := by
  have h2 : 2 ^ a < 2305843009213693952 := (Nat.pow_lt_pow_right (by decide) ha : 2 ^ a < 2 ^ 61)
  unfold valZ
  split
  · split
    · exact h2
    · split
      · exact hx _
      · decide
  · split
    · exact h2
    · split
      · rename_i h
        have h9 := hn h
        exact Nat.lt_of_lt_of_le (Nat.pow_lt_pow_right (by decide) (show d.n.toNat < 10 from by omega) : 2 ^ d.n.toNat < 2 ^ 10) (by decide)
      · split
        · exact hx _
        · split
          · decide
          · decide

theorem trZ_lt {q : Nat} {ts : List Int} {d : Nd} {a : Nat} {x : Nat → Nat} (hn : d.op = 1 → d.n ≤ 9) (ha : a < 61) (hx : ∀ v, x v < 2305843009213693952) (v : Nat) : trZ q ts d a x v < 2305843009213693952 := by
  unfold trZ
  split
  · exact valZ_lt hn ha hx
  · split
    · decide
    · exact hx _

theorem num_ok {ts : List Int} {ns : List Nd} (hA : AllTyped ts ns) {a : Nat} {d : Nd} (hd : ns[a]? = some d) (h : d.op = 1) : 0 ≤ d.n ∧ d.n ≤ 9 := by
  rcases hA.2 a d hd with ⟨_, _, h4⟩ | ⟨h4, _⟩
  · rw [h] at h4
    simp [simpleB] at h4
    omega
  · omega

theorem trZ_iff {q : Nat} (hq : q < 3) {ts : List Int} {ns : List Nd} (hA : AllTyped ts ns) {a : Nat} {d : Nd} (hd : ns[a]? = some d) {x : Nat → Nat} {v l : Nat} (hv : v < 6) : bitR (trZ q ts d a x) v l ↔ Beh (genT q ns) (handT q ts ns) a (bitR x) v l := by
  have h := aftT_iff (q := q) hA hd (S := fun u j => (x u).testBit j) (l := l) hv
  have e : (trZ q ts d a x v).testBit l = aftT q ts d a (fun u j => (x u).testBit j) v l := by
    unfold trZ aftT
    split
    · exact valZ_bit hq (fun h1 => (num_ok hA hd h1).1) a x l
    · split
      · simp
      · rfl
  unfold bitR
  rw [e]
  exact h

end Go.Proofs.YtnoejapnjhogaaaGreatDoor.tr
