/-
  The model's draw of a number and a length; the laws' comparison of rows of numbers.
-/
import Derived.Test.YtekojgcjncfndaaD2B
import Derived.Test.YtekojgcjncfndaaCho
namespace Go.Proofs.Ytekojgcjncfndaa
open Go.RowKit Go.Deep
set_option linter.unusedVariables false

/-- A new source of draws: its block is the last one. -/
def OpenP (w : World) (E : Ending) (w' : World) : Prop := E = .returned (.pointer (some ⟨w.heap.size, 0, none⟩)) ∧ SrcV w' w.heap.size 0 ∧ Below w.heap.size w w'

set_option maxRecDepth 100000 in
set_option maxHeartbeats 400000 in
theorem l17Open_any (n c : Nat) (A : Option Addr) (w : World) (hB : ByteV w w.heap.size n A c) :
    Calls Try.prog 12 #[.slice A n c] w (OpenP w) := by
  have hnc := hB.1
  have hcm := hB.2.1
  unfold maxLen at hcm
  by_cases hn : n ≤ 2000
  · have hb := (Below.refl w.heap.size w).alloc (Nat.le_refl _) (.cells #[.slice A n c, .int .i64 0] 36)
    have hp : OpenP w (.returned (.pointer (some ⟨w.heap.size, 0, none⟩))) (w.alloc (.cells #[.slice A n c, .int .i64 0] 36)) := ⟨rfl, ⟨n, c, A, 0, heap_alloc_new w _, hB.below hb (Nat.le_refl _), Nat.le_refl _⟩, hb⟩
    have HP := Lib.hid hp
    clear hb hp hB
    go_enter Try.func12, Try.ntmps12
    go_wp2_with fail
    go_ret
    exact HP.out
  · have hn2 : 2000 < n := by omega
    have hB2 : ByteV w w.heap.size 2000 A c := ⟨by omega, hB.2.1, fun _ => by
      obtain ⟨b, rfl, hbb, hc⟩ := hB.2.2 (by omega)
      exact ⟨b, rfl, hbb, fun j hj => hc j (by omega)⟩⟩
    have hb := (Below.refl w.heap.size w).alloc (Nat.le_refl _) (.cells #[.slice A 2000 c, .int .i64 0] 36)
    have hp : OpenP w (.returned (.pointer (some ⟨w.heap.size, 0, none⟩))) (w.alloc (.cells #[.slice A 2000 c, .int .i64 0] 36)) := ⟨rfl, ⟨2000, c, A, 0, heap_alloc_new w _, hB2.below hb (Nat.le_refl _), Nat.le_refl _⟩, hb⟩
    have HP := Lib.hid hp
    clear hb hp hB hB2
    go_enter Try.func12, Try.ntmps12
    go_wp2_with fail
    go_ret
    exact HP.out


/-- What the draw leaves. -/
def DrawNL (w : World) (E : Ending) (w' : World) : Prop := ∃ v l : Int, E = .returned (.tuple #[.int .i64 v, .int .i64 l]) ∧ Below w.heap.size w w'

set_option maxRecDepth 100000 in
set_option maxHeartbeats 600000 in
theorem drawChoicesOf_any (n c : Nat) (A : Option Addr) (w : World) (hB : ByteV w w.heap.size n A c) :
    Calls Try.prog 5 #[.slice A n c] w (DrawNL w) := by
  have HO := Lib.hid (l17Open_any n c A w hB)
  clear hB
  go_enter Try.func5, Try.ntmps5
  go_wp2_with fail
  refine HO.out.mono ?_
  rintro E w1 ⟨rfl, hs, hb⟩
  have hlt := hs.lt
  have h1 := hb.size
  have hba := (Below.refl w1.heap.size w1).alloc (Nat.le_refl _) (.cells #[.int .i64 5, .int .i64 1, .int .i64 0, .int .i64 6, .int .i64 63, .int .i64 (-1), .int .i64 64] 3)
  have hn1 := num_any w.heap.size 0 w1.heap.size [5, 1, 0, 6, 63, -1, 64] (w1.alloc (.cells #[.int .i64 5, .int .i64 1, .int .i64 0, .int .i64 6, .int .i64 63, .int .i64 (-1), .int .i64 64] 3)) (heap_alloc_new w1 _) (by omega) (by decide) (by decide) (hs.below hba) (by omega)
  have HN1 : Hid (Calls Try.prog 13 #[.pointer (some ⟨w.heap.size, 0, none⟩), .slice (some ⟨w1.heap.size, 0, none⟩) 7 7] (w1.alloc (.cells #[.int .i64 5, .int .i64 1, .int .i64 0, .int .i64 6, .int .i64 63, .int .i64 (-1), .int .i64 64] 3)) _) := hn1
  have hbb := Lib.hid (hb.trans (hba.mono h1))
  clear hn1 HO hs hb hba
  go_wp2_with fail
  refine HN1.out.mono ?_
  rintro E w2 ⟨v, hv, rfl, hs2, ho2⟩
  have hz2 : w2.heap.size = w1.heap.size + 1 := ho2.size.trans (by simp)
  have hz2' : w1.heap.size + 1 ≤ w2.heap.size := Nat.le_of_eq hz2.symm
  have hb2 := Lib.hid (hbb.out.trans (ho2.below (Nat.le_refl _)))
  have hbc := (Below.refl w2.heap.size w2).alloc (Nat.le_refl _) (.cells #[.int .i64 3, .int .i64 6, .int .i64 2, .int .i64 0, .int .i64 7, .int .i64 (-1)] 3)
  have hn2 := num_any w.heap.size 1 w2.heap.size [3, 6, 2, 0, 7, -1] (w2.alloc (.cells #[.int .i64 3, .int .i64 6, .int .i64 2, .int .i64 0, .int .i64 7, .int .i64 (-1)] 3)) (heap_alloc_new w2 _) (by omega) (by decide) (by decide) (hs2.below hbc) (by omega)
  have HN2 : Hid (Calls Try.prog 13 #[.pointer (some ⟨w.heap.size, 0, none⟩), .slice (some ⟨w2.heap.size, 0, none⟩) 6 6] (w2.alloc (.cells #[.int .i64 3, .int .i64 6, .int .i64 2, .int .i64 0, .int .i64 7, .int .i64 (-1)] 3)) _) := hn2
  have hbd := Lib.hid (hb2.out.trans (hbc.mono (by omega)))
  clear hn2 hz2 hs2 ho2 hbc HN1 hv
  go_wp2_with fail
  refine HN2.out.mono ?_
  rintro E w3 ⟨l, hl, rfl, hs3, ho3⟩
  have hb3 := Lib.hid (hbd.out.trans (ho3.below (Nat.le_refl _)))
  clear hs3 ho3 HN2 hl
  go_wp2_with fail
  go_ret2
  exact ⟨v, l, rfl, hb3.out⟩

/-- Lists that are alike up to an index. -/
def Alike (xs ys : List Int) (k : Nat) : Prop := ∀ j, j < k → xs[j]? = ys[j]?

theorem Alike.all {xs ys : List Int} (h : Alike xs ys xs.length) (hl : xs.length = ys.length) : xs = ys := by
  apply List.ext_getElem? 
  intro j
  by_cases hj : j < xs.length
  · exact h j hj
  · rw [List.getElem?_eq_none (by omega), List.getElem?_eq_none (by omega)]

set_option maxHeartbeats 400000 in
theorem bcInts_any (xs ys : List Int) (A A' : Option Addr) (c c' : Nat) (w : World) (hR : IntsV w 0 w.heap.size xs A c) (hR' : IntsV w 0 w.heap.size ys A' c') :
    Calls Try.prog 7 #[.slice A xs.length c, .slice A' ys.length c'] w fun e w' => e = .returned (.bool (decide (xs = ys))) ∧ Below w.heap.size w w' := by
  have hm := hR.2.1
  have hlc := hR.1
  have hm' := hR'.2.1
  have hlc' := hR'.1
  unfold maxLen at hm hm'
  by_cases hl : xs.length = ys.length
  · have H := Lib.hid hR
    have H' := Lib.hid hR'
    have HL := Lib.hid hl
    have hle : xs.length ≤ ys.length := Nat.le_of_eq hl
    have hne : ((xs.length : Int) != (ys.length : Int)) = false := by simp; omega
    clear hl hR hR'
    go_enter Try.func7, Try.ntmps7
    go_wp2_with fail
    go_loopw [5] (fun i wr => ∃ k : Nat, k ≤ xs.length ∧ i = .int .i64 k ∧ Hid (Alike xs ys k) ∧ Below w.heap.size w wr) (fun i _ => xs.length - (intOf i).toNat)
    case atStart => exact ⟨0, Nat.zero_le _, rfl, fun j hj => absurd hj (by omega), Below.refl _ _⟩
    case round =>
      obtain ⟨k, hk, rfl, hA, hb⟩ := hrel
      by_cases hlt : k < xs.length
      · obtain ⟨b, v, rfl, -, hbb, hx, hc⟩ := (H.out.below hb hb.size).elem hlt
        obtain ⟨b', v', rfl, -, hbb', hx', hc'⟩ := (H'.out.below hb hb.size).elem (show k < ys.length by omega)
        have hlt' : k < ys.length := by omega
        by_cases hv : v = v'
        · subst hv
          have hA2 : Hid (Alike xs ys (k + 1)) := by
            intro j hj
            by_cases e : j = k
            · subst e; rw [hx, hx']
            · exact hA.out j (by omega)
          have hnv : ((v != v) : Bool) = false := by simp
          clear hx hx' hA
          go_wp2_with fail
          go_quiet (fail)
          go_wp2_with fail
          go_roundw
          case rel => exact ⟨k + 1, by omega, by go_num, hA2, hb.trans ⟨rfl, rfl, rfl, Nat.le_refl _, fun _ _ => rfl⟩⟩
          case measure => simp [intOf]; omega
        · have hnv : ((v != v') : Bool) = true := by simpa using hv
          have hdec : Hid (decide (xs = ys) = false) := by
            refine decide_eq_false fun e => hv ?_
            rw [e, hx'] at hx
            injection hx with hx
            exact hx.symm
          clear hx hx' hA hv
          go_wp2_with fail
          go_quiet (fail)
          go_wp2_with fail
          go_ret
          exact ⟨by rw [hdec.out]; rfl, hb.trans ⟨rfl, rfl, rfl, Nat.le_refl _, fun _ _ => rfl⟩⟩
      · have hdec : Hid (decide (xs = ys) = true) := decide_eq_true ((show Alike xs ys xs.length by have := hA.out; rwa [show k = xs.length from by omega] at this).all HL.out)
        go_wp2_with fail
        go_ret
        exact ⟨by rw [hdec.out]; rfl, hb⟩
  · have hdec : Hid (decide (xs = ys) = false) := decide_eq_false fun e => hl (by rw [e])
    have hne : ((xs.length : Int) != (ys.length : Int)) = true := by simp; omega
    clear hl
    go_enter Try.func7, Try.ntmps7
    go_wp2_with fail
    go_ret
    exact ⟨by rw [hdec.out]; rfl, Below.refl _ _⟩

theorem dig_inj : ∀ (l n m : Nat), n < 2 ^ l → m < 2 ^ l → dig l n = dig l m → n = m
  | 0, n, m, hn, hm, _ => by simp at hn hm; omega
  | l + 1, n, m, hn, hm, h => by
    unfold dig at h
    injection h with h1 h2
    rw [Nat.pow_succ] at hn hm
    have := dig_inj l (n / 2) (m / 2) (by omega) (by omega) h2
    omega

/-- Two lists of one length that are there: their length, and whether they are the same. -/
theorem choA_two {a m b : Int} (h1 : 0 < (choA a b).length) (h2 : 0 < (choA m b).length) : ((choA a b).length : Int) = b ∧ (decide (choA a b = choA m b) = (a == m)) := by
  have hh : ∀ {z : Int}, 0 < (choA z b).length → 0 ≤ z ∧ z < cnt b := by
    intro z hz
    by_cases h : 0 ≤ z ∧ z < cnt b
    · exact h
    · rw [choA_none h] at hz; simp at hz
  have ha := hh h1
  have hm := hh h2
  have hb : 0 ≤ b ∧ b ≤ 6 := by
    by_cases h : 0 ≤ b ∧ b ≤ 6
    · exact h
    · have := cnt_out (len := b) (by omega); omega
  obtain ⟨l, rfl⟩ : ∃ l : Nat, b = (l : Int) := ⟨b.toNat, by omega⟩
  obtain ⟨x, rfl⟩ : ∃ l : Nat, a = (l : Int) := ⟨a.toNat, by omega⟩
  obtain ⟨y, rfl⟩ : ∃ l : Nat, m = (l : Int) := ⟨m.toNat, by omega⟩
  have hl : l ≤ 6 := by omega
  rw [cnt_in hl] at ha hm
  rw [choA_some hl (by omega), choA_some hl (by omega), dig_len]
  refine ⟨rfl, ?_⟩
  rw [Bool.eq_iff_iff]
  simp only [decide_eq_true_eq, beq_iff_eq]
  constructor
  · intro h
    rw [dig_inj l x y (by omega) (by omega) h]
  · intro h
    rw [show x = y by omega]

end Go.Proofs.Ytekojgcjncfndaa
