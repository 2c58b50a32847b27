/-
  Lists of choices by their numbers: the digits, as the program and the model write them.
-/
import Derived.Test.YtekojgcjncfndaaInB
namespace Go.Proofs.Ytekojgcjncfndaa
open Go.RowKit Go.Deep
set_option linter.unusedVariables false

theorem Try.infoInt : (Try.prog.info? 3).map (fun i => (i.zero, i.size, i.bytes)) = some (some (.int .i64 0), 1, 8) := by kernel_rfl

theorem info_parts {P : Program} {t : TypeId} {z : Value} {s b : Nat} (h : (P.info? t).map (fun i => (i.zero, i.size, i.bytes)) = some (some z, s, b)) : ∃ i, P.info? t = some i ∧ i.zero = some z ∧ i.size = s ∧ i.bytes = b := by
  obtain ⟨i, hi, hzz⟩ := Option.map_eq_some_iff.1 h
  simp only [Prod.mk.injEq] at hzz
  exact ⟨i, hi, hzz.1, hzz.2.1, hzz.2.2⟩

theorem news1 {w : World} {H : Nat} {cs : Array Value} {t : TypeId} {l : List Value} (hH : w.heap.size = H) (hl : l.toArray = cs) : ∀ j u, l[j]? = some u → (w.alloc (.cells cs t)).cell? ((⟨H, 0, none⟩ : Addr).add j) = some u := by
  subst hH hl
  intro j u hj
  rw [add_block, Nat.zero_add, cell_of_block (heap_alloc_new _ _)]
  simpa using hj

/-- The binary digits of a number, the last one first. -/
def dig : Nat → Nat → List Int
  | 0, _ => []
  | l + 1, n => ((n : Int) % 2) :: dig l (n / 2)

theorem dig_len : ∀ l n, (dig l n).length = l
  | 0, _ => rfl
  | l + 1, n => by unfold dig; rw [List.length_cons, dig_len l]

/-- How many lists of a length there are. -/
def cnt (len : Int) : Int := if 0 ≤ len ∧ len ≤ 6 then ((2 ^ len.toNat : Nat) : Int) else 0

/-- The list with a number. -/
def choA (n len : Int) : List Int := if 0 ≤ n ∧ n < cnt len then dig len.toNat n.toNat else []

theorem cnt_out {len : Int} (h : len < 0 ∨ 6 < len) : cnt len = 0 := by unfold cnt; rw [if_neg (by omega)]

theorem cnt_in {l : Nat} (h : l ≤ 6) : cnt (l : Int) = ((2 ^ l : Nat) : Int) := by unfold cnt; rw [if_pos (by omega), Int.toNat_natCast]

theorem pow_le6 {l : Nat} (h : l ≤ 6) : 2 ^ l ≤ 64 := by
  have : 2 ^ l ≤ 2 ^ 6 := Nat.pow_le_pow_right (by omega) h
  omega

theorem choA_len (n len : Int) : (choA n len).length ≤ 6 := by
  unfold choA
  split
  · rename_i h
    rw [dig_len]
    by_cases h2 : 0 ≤ len ∧ len ≤ 6
    · omega
    · rw [cnt_out (by omega)] at h; omega
  · simp

theorem choA_none {n len : Int} (h : ¬ (0 ≤ n ∧ n < cnt len)) : choA n len = [] := if_neg h

theorem choA_some {n l : Nat} (hl : l ≤ 6) (hn : n < 2 ^ l) : choA (n : Int) (l : Int) = dig l n := by
  unfold choA
  rw [cnt_in hl, if_pos (by omega), Int.toNat_natCast, Int.toNat_natCast]

/-- What is still to be written. -/
def DigAt (L n0 k m : Nat) (cur : List Int) : Prop := cur ++ dig (L - k) m = dig L n0 ∧ cur.length = k

theorem DigAt.step {L n0 k m : Nat} {cur : List Int} (h : DigAt L n0 k m cur) (hk : k < L) : DigAt L n0 (k + 1) (m / 2) (cur ++ [(m : Int) % 2]) := by
  obtain ⟨h1, h2⟩ := h
  refine ⟨?_, by rw [List.length_append, h2]; rfl⟩
  rw [← h1, show L - k = (L - (k + 1)) + 1 from by omega]
  show (cur ++ [(m : Int) % 2]) ++ dig (L - (k + 1)) (m / 2) = cur ++ ((m : Int) % 2 :: dig (L - (k + 1)) (m / 2))
  rw [List.append_assoc]
  rfl

theorem DigAt.last {L n0 m : Nat} {cur : List Int} (h : DigAt L n0 L m cur) : cur = dig L n0 := by
  rw [← h.1, Nat.sub_self]
  unfold dig
  simp

/-- A call that answers with a row of its own. -/
def GiveI (xs : List Int) (w : World) (E : Ending) (w' : World) : Prop := ∃ A c, E = .returned (.slice A xs.length c) ∧ RowI w' w.heap.size (.slice A xs.length c) xs ∧ Below w.heap.size w w'

theorem give_nil (w : World) : GiveI [] w (.returned (.slice none 0 0)) w := ⟨none, 0, rfl, World.ownsRow_nil w w.heap.size 3 1, Below.refl _ _⟩

theorem RowI.lit0 (w : World) : RowI (w.alloc (.cells #[] 3)) w.heap.size (.slice (some ⟨w.heap.size, 0, none⟩) 0 0) [] :=
  World.ownsRow_lit (base := w.heap.size) (e := 3) (size := 1) w #[] 0 (by simp) (by simp [maxLen]) rfl

theorem give_lit (w : World) : GiveI [] w (.returned (.slice (some ⟨w.heap.size, 0, none⟩) 0 0)) (w.alloc (.cells #[] 3)) :=
  ⟨_, _, rfl, RowI.lit0 w, (Below.refl _ _).alloc (Nat.le_refl _) _⟩

set_option maxHeartbeats 400000 in
theorem countLists_any (len : Int) (w : World) : Calls Try.prog 14 #[.int .i64 len] w fun E w' => E = .returned (.int .i64 (cnt len)) ∧ w = w' := by
  by_cases h0 : len < 0
  · rw [cnt_out (.inl h0)]
    go_enter Try.func14, Try.ntmps14
    go_wp2_with fail
    go_ret
    exact ⟨rfl, rfl⟩
  · by_cases h6 : 6 < len
    · rw [cnt_out (.inr h6)]
      go_enter Try.func14, Try.ntmps14
      go_wp2_with fail
      go_ret
      exact ⟨rfl, rfl⟩
    · have hc : len = 0 ∨ len = 1 ∨ len = 2 ∨ len = 3 ∨ len = 4 ∨ len = 5 ∨ len = 6 := by omega
      clear h0 h6
      rcases hc with rfl | rfl | rfl | rfl | rfl | rfl | rfl
      all_goals
        go_enter Try.func14, Try.ntmps14
        go_wp2_with fail
        go_ret
        exact ⟨rfl, rfl⟩

set_option maxHeartbeats 400000 in
theorem l8Runs_any (l r : Nat) (hl : l ≤ 6) (hr : Hid (2 ^ l = r)) (w : World) : Calls Try.prog 15 #[.int .i64 (l : Int)] w fun E w' => E = .returned (.int .i64 (r : Int)) ∧ w = w' := by
  go_enter Try.func15, Try.ntmps15
  go_wp2_with fail
  go_loop [3, 4] (fun n i => ∃ k p : Nat, k ≤ l ∧ i = .int .i64 k ∧ n = .int .i64 p ∧ p ≤ 64 ∧ Hid (p = 2 ^ k)) (fun _ i => l - (intOf i).toNat)
  case atStart => exact ⟨0, 1, Nat.zero_le _, rfl, rfl, by omega, rfl⟩
  case round =>
    obtain ⟨k, p, hk, rfl, rfl, hp, hpk⟩ := hrel
    by_cases hlt : k < l
    · have h2 : Hid (p * 2 = 2 ^ (k + 1)) := by unfold Hid; rw [Nat.pow_succ, hpk.out]
      have h64 : p * 2 ≤ 64 := by rw [h2.out]; exact pow_le6 (by omega)
      go_wp2_with fail
      go_round
      case rel => exact ⟨k + 1, p * 2, by omega, by go_num, by go_num, h64, h2⟩
      case measure => simp [intOf]; omega
    · obtain rfl : k = l := by omega
      obtain rfl : p = r := by rw [hpk.out, hr.out]
      clear hpk hr
      go_wp2_with fail
      go_ret
      exact ⟨rfl, rfl⟩

set_option maxRecDepth 100000 in
set_option maxHeartbeats 1000000 in
theorem l8Choices_any (n l : Nat) (hl : l ≤ 6) (hn : n ≤ 64) (w : World) : Calls Try.prog 16 #[.int .i64 (n : Int), .int .i64 (l : Int)] w (GiveI (dig l n) w) := by
  obtain ⟨i0, hi, hz0, hz1, hz2⟩ := info_parts Try.infoInt
  have HI := Lib.hid hi
  have HZ0 := Lib.hid hz0
  have HZ1 := Lib.hid hz1
  have HZ2 := Lib.hid hz2
  have HR0 := Lib.hid (RowI.lit0 w)
  have HB0 := Lib.hid ((Below.refl w.heap.size w).alloc (Nat.le_refl _) (.cells #[] 3))
  have HD0 : Hid (DigAt l n 0 n []) := ⟨by simp, rfl⟩
  clear hi hz0 hz1 hz2
  go_enter Try.func16, Try.ntmps16
  go_wp2_with fail
  go_loopw [0, 5, 6] (fun q o i wr => ∃ (k m : Nat) (cur : List Int), k ≤ l ∧ i = .int .i64 k ∧ q = .int .i64 m ∧ m ≤ 64 ∧ Hid (DigAt l n k m cur) ∧ Hid (RowI wr w.heap.size o cur) ∧ Below w.heap.size w wr) (fun _ _ i _ => l - (intOf i).toNat)
  case atStart => exact ⟨0, n, [], Nat.zero_le _, rfl, rfl, hn, HD0, HR0, HB0.out⟩
  case round =>
    obtain ⟨k, m, cur, hk, rfl, rfl, hm, hD, hR, hb⟩ := hrel
    clear HR0 HD0
    by_cases hlt : k < l
    · have HD1 := Lib.hid (hD.out.step hlt)
      have hcl : cur.length ≤ 6 := by rw [hD.out.2]; omega
      have hbz := hb.size
      clear hD
      go_wp2_with (at_builtin; refine wpList_append_own _ rfl _ _ 25 rfl w.heap.size 3 i0 (.int .i64 0) 1 8 Try.underlying25 HI.out HZ0.out HZ1.out HZ2.out rfl (by decide) _ _ _ rfl ((RowI.own hR.out).alloc _) ⟨_, 0, none⟩ 1 1 [.int .i64 ((m : Int) % 2)] rfl rfl ?ra1 ?ra2 ?ra3 ?ra4 ?ra5 ?_)
      try (case ra1 => exact news1 (by simp) rfl)
      try (case ra2 => intro u hu; simp only [List.mem_cons, List.not_mem_nil, or_false] at hu; subst hu; rfl)
      try (case ra3 => unfold maxLen; omega)
      try (case ra4 => omega)
      try (case ra5 => simp; omega)
      intro v' w' hown' hg hne
      have hb' := (hb.alloc hbz (.cells #[Value.int .i64 ((m : Int) % 2)] 3)).grown hg (by simp; omega) (fun g hg' => ((RowI.own hR.out).lt g hg').1)
      have HR' : Hid (RowI w' w.heap.size v' (cur ++ [(m : Int) % 2])) := RowI.snoc hown'
      clear hown' hg hne
      go_wp2_with fail
      go_roundw
      case rel => exact ⟨k + 1, m / 2, _, by omega, by go_num, by go_num, by omega, HD1, HR', hb'⟩
      case measure => simp [intOf]; omega
    · obtain rfl : k = l := by omega
      have HL := Lib.hid hD.out.last
      obtain ⟨A, c, hv⟩ := hR.out.slice
      subst hv
      clear hD
      go_wp2_with fail
      go_ret
      exact ⟨A, c, by rw [← HL.out]; rfl, by rw [← HL.out]; exact hR.out, hb⟩

set_option maxRecDepth 100000 in
set_option maxHeartbeats 1000000 in
theorem specChoicesOf_any (n len : Int) (w : World) : Calls Try.prog 8 #[.int .i64 n, .int .i64 len] w (GiveI (choA n len) w) := by
  have HL := Lib.hid (give_lit w)
  by_cases h0 : len < 0
  · rw [choA_none (by rw [cnt_out (.inl h0)]; omega)]
    go_enter Try.func8, Try.ntmps8
    go_wp2_with fail
    go_ret
    exact HL.out
  by_cases h6 : 6 < len
  · rw [choA_none (by rw [cnt_out (.inr h6)]; omega)]
    have h0' : decide (len < 0) = false := decide_eq_false h0
    go_enter Try.func8, Try.ntmps8
    go_wp2_with fail
    go_ret
    exact HL.out
  by_cases hn : n < 0
  · rw [choA_none (by omega)]
    have h0' : decide (len < 0) = false := decide_eq_false h0
    have h6' : decide (6 < len) = false := decide_eq_false h6
    go_enter Try.func8, Try.ntmps8
    go_wp2_with fail
    go_ret
    exact HL.out
  obtain ⟨l, rfl⟩ : ∃ l : Nat, len = (l : Int) := ⟨len.toNat, by omega⟩
  obtain ⟨m, rfl⟩ : ∃ m : Nat, n = (m : Int) := ⟨n.toNat, by omega⟩
  have hl : l ≤ 6 := by omega
  obtain ⟨p, hp⟩ : ∃ p, 2 ^ l = p := ⟨_, rfl⟩
  have HC := Lib.hid (l8Runs_any l p hl hp w)
  have hp64 : p ≤ 64 := by rw [← hp]; exact pow_le6 hl
  by_cases hm : m < p
  · rw [choA_some hl (by rw [hp]; exact hm)]
    have HG := Lib.hid (l8Choices_any m l hl (by omega) w)
    have e1 : decide ((p : Int) ≤ (m : Int)) = false := decide_eq_false (by omega)
    have h0' : decide ((l : Int) < 0) = false := decide_eq_false (by omega)
    have h6' : decide (6 < (l : Int)) = false := decide_eq_false (by omega)
    have hn' : decide ((m : Int) < 0) = false := decide_eq_false (by omega)
    clear hp h0 h6 hn
    go_enter Try.func8, Try.ntmps8
    go_wp2_with fail
    refine HC.out.mono ?_
    rintro E w1 ⟨rfl, rfl⟩
    go_wp2_with fail
    refine HG.out.mono ?_
    rintro E w1 ⟨A, c, rfl, hr, hb⟩
    have HR := Lib.hid hr
    clear hr
    go_wp2_with fail
    go_ret
    exact ⟨A, c, rfl, HR.out, hb⟩
  · rw [choA_none (by rw [cnt_in hl, hp]; omega)]
    have e1 : decide ((p : Int) ≤ (m : Int)) = true := decide_eq_true (by omega)
    have h0' : decide ((l : Int) < 0) = false := decide_eq_false (by omega)
    have h6' : decide (6 < (l : Int)) = false := decide_eq_false (by omega)
    have hn' : decide ((m : Int) < 0) = false := decide_eq_false (by omega)
    clear hp h0 h6 hn
    go_enter Try.func8, Try.ntmps8
    go_wp2_with fail
    refine HC.out.mono ?_
    rintro E w1 ⟨rfl, rfl⟩
    go_wp2_with fail
    go_ret
    exact HL.out

set_option maxRecDepth 100000 in
set_option maxHeartbeats 1000000 in
theorem implChoicesOf_any (n len : Int) (w : World) : Calls Try.prog 6 #[.int .i64 n, .int .i64 len] w (GiveI (choA n len) w) := by
  have HL := Lib.hid (give_nil w)
  by_cases hn : n < 0
  · rw [choA_none (by omega)]
    go_enter Try.func6, Try.ntmps6
    go_wp2_with fail
    go_ret
    exact HL.out
  have HC := Lib.hid (countLists_any len w)
  have hn' : decide (n < 0) = false := decide_eq_false hn
  by_cases hc : cnt len ≤ n
  · rw [choA_none (by omega)]
    have e1 : decide (cnt len ≤ n) = true := decide_eq_true hc
    generalize cnt len = C at HC hc e1
    go_enter Try.func6, Try.ntmps6
    go_wp2_with fail
    refine HC.out.mono ?_
    rintro E w1 ⟨rfl, rfl⟩
    go_wp2_with fail
    go_ret
    exact HL.out
  have hl6 : 0 ≤ len ∧ len ≤ 6 := by
    by_cases h : 0 ≤ len ∧ len ≤ 6
    · exact h
    · rw [cnt_out (by omega)] at hc; omega
  obtain ⟨l, rfl⟩ : ∃ l : Nat, len = (l : Int) := ⟨len.toNat, by omega⟩
  obtain ⟨m, rfl⟩ : ∃ m : Nat, n = (m : Int) := ⟨n.toNat, by omega⟩
  have hl : l ≤ 6 := by omega
  rw [cnt_in hl] at hc HC
  have hp64 := pow_le6 hl
  rw [choA_some hl (by omega)]
  obtain ⟨p, hp⟩ : ∃ p, 2 ^ l = p := ⟨_, rfl⟩
  rw [hp] at hc HC hp64
  have e1 : decide ((p : Int) ≤ (m : Int)) = false := decide_eq_false (by omega)
  have e2 : decide (p ≤ m) = false := decide_eq_false (by omega)
  obtain ⟨i0, hi, hz0, hz1, hz2⟩ := info_parts Try.infoInt
  have HI := Lib.hid hi
  have HZ0 := Lib.hid hz0
  have HZ1 := Lib.hid hz1
  have HZ2 := Lib.hid hz2
  have HR0 : Hid (RowI w w.heap.size (.slice none 0 0) []) := World.ownsRow_nil w w.heap.size 3 1
  have HD0 : Hid (DigAt l m 0 m []) := ⟨by simp, rfl⟩
  clear hi hz0 hz1 hz2 hp hl6 hn
  go_enter Try.func6, Try.ntmps6
  go_wp2_with fail
  refine HC.out.mono ?_
  rintro E w1 ⟨rfl, rfl⟩
  go_wp2_with fail
  go_loopw [0, 5, 15] (fun q o i wr => ∃ (k j : Nat) (cur : List Int), k ≤ l ∧ i = .int .i64 k ∧ q = .int .i64 j ∧ j ≤ 64 ∧ Hid (DigAt l m k j cur) ∧ Hid (RowI wr w.heap.size o cur) ∧ Below w.heap.size w wr) (fun _ _ i _ => l - (intOf i).toNat)
  case atStart => exact ⟨0, m, [], Nat.zero_le _, rfl, rfl, by omega, HD0, HR0, Below.refl _ _⟩
  case round =>
    obtain ⟨k, j, cur, hk, rfl, rfl, hm, hD, hR, hb⟩ := hrel
    clear HR0 HD0
    by_cases hlt : k < l
    · have HD1 := Lib.hid (hD.out.step hlt)
      have hcl : cur.length ≤ 6 := by rw [hD.out.2]; omega
      have hbz := hb.size
      clear hD
      go_wp2_with (at_builtin; refine wpList_append_own _ rfl _ _ 25 rfl w.heap.size 3 i0 (.int .i64 0) 1 8 Try.underlying25 HI.out HZ0.out HZ1.out HZ2.out rfl (by decide) _ _ _ rfl ((RowI.own hR.out).alloc _) ⟨_, 0, none⟩ 1 1 [.int .i64 ((j : Int) % 2)] rfl rfl ?ra1 ?ra2 ?ra3 ?ra4 ?ra5 ?_)
      try (case ra1 => exact news1 (by simp) rfl)
      try (case ra2 => intro u hu; simp only [List.mem_cons, List.not_mem_nil, or_false] at hu; subst hu; rfl)
      try (case ra3 => unfold maxLen; omega)
      try (case ra4 => omega)
      try (case ra5 => simp; omega)
      intro v' w' hown' hg hne
      have hb' := (hb.alloc hbz (.cells #[Value.int .i64 ((j : Int) % 2)] 3)).grown hg (by simp; omega) (fun g hg' => ((RowI.own hR.out).lt g hg').1)
      have HR' : Hid (RowI w' w.heap.size v' (cur ++ [(j : Int) % 2])) := RowI.snoc hown'
      clear hown' hg hne
      go_wp2_with fail
      go_roundw
      case rel => exact ⟨k + 1, j / 2, _, by omega, by go_num, by go_num, by omega, HD1, HR', hb'⟩
      case measure => simp [intOf]; omega
    · obtain rfl : k = l := by omega
      have HL2 := Lib.hid hD.out.last
      obtain ⟨A, c, hv⟩ := hR.out.slice
      subst hv
      clear hD
      go_wp2_with fail
      go_ret
      exact ⟨A, c, by rw [← HL2.out]; rfl, by rw [← HL2.out]; exact hR.out, hb⟩

end Go.Proofs.Ytekojgcjncfndaa
