/-
  The sizes of memories: what the laws' own counting of values answers.
-/
import Derived.Test.YtnneamfndokleaaDoorCelR
namespace Go.Proofs.YtnneamfndokleaaDoor
open Go.RowKit Go.Deep
set_option linter.unusedVariables false

/-- All tags of all stacks. -/
def tagSum : List CellD → Nat
  | [] => 0
  | c :: cs => c.tags.length + tagSum cs

theorem tagSum_snoc (c : CellD) : ∀ cs : List CellD, tagSum (cs ++ [c]) = tagSum cs + c.tags.length
  | [] => by simp [tagSum]
  | d :: cs => by rw [List.cons_append]; simp only [tagSum]; rw [tagSum_snoc c cs]; omega

theorem take_snoc {α : Type} {l : List α} {k : Nat} {d : α} (h : l[k]? = some d) : l.take (k + 1) = l.take k ++ [d] := by
  rw [List.take_add_one, h]
  rfl

theorem tagSum_take_le : ∀ (cs : List CellD) (k : Nat), tagSum (cs.take k) ≤ tagSum cs
  | [], k => by simp [tagSum]
  | c :: cs, 0 => by simp [tagSum]
  | c :: cs, k + 1 => by rw [List.take_succ_cons]; simp only [tagSum]; have := tagSum_take_le cs k; omega

theorem szTagS_any (n c : Nat) (A : Option Addr) (L : Int) (w : World) (hn : n ≤ c) (hc : c ≤ maxLen) (hL : 0 ≤ L) (hL2 : L ≤ 1048576) :
    Calls Tryd.prog 49 #[.slice A n c, .int .i64 L] w fun e w' => e = .returned (.int .i64 (subI L n)) ∧ w = w' := by
  unfold maxLen at hc
  by_cases h0 : L < n
  · have e3 : subI L n = -1 := if_neg (by omega)
    rw [e3]
    go_enter Tryd.func49, Tryd.ntmps49
    go_wp2_with fail
    go_ret
    exact ⟨rfl, rfl⟩
  · have e3 : subI L n = L - n := if_pos (by omega)
    rw [e3]
    go_enter Tryd.func49, Tryd.ntmps49
    go_wp2_with fail
    go_ret
    exact ⟨rfl, rfl⟩

set_option maxHeartbeats 400000 in
theorem szCell_any (v nx : Int) (al : Bool) (n c : Nat) (A : Option Addr) (L : Int) (w : World) (hn : n ≤ c) (hc : c ≤ maxLen) (hL : 0 ≤ L) (hL2 : L ≤ 1048576) :
    Calls Tryd.prog 25 #[.agg #[.int .i64 v, .bool al, .int .i64 nx, .slice A n c], .int .i64 L] w fun e w' => e = .returned (.int .i64 (subI L n)) ∧ Below w.heap.size w w' := by
  by_cases h0 : (n : Int) ≤ L
  · have e3 : subI L n = L - n := if_pos h0
    rw [e3]
    go_enter Tryd.func25, Tryd.ntmps25
    go_wp2_with fail
    refine (szTagS_any n c A L _ hn hc hL hL2).mono ?_
    rintro E w1 ⟨he, rfl⟩
    rw [e3] at he
    subst he
    go_wp2_with fail
    go_ret
    exact ⟨rfl, (Below.refl _ _).alloc (Nat.le_refl _) _⟩
  · have e3 : subI L n = -1 := if_neg h0
    rw [e3]
    go_enter Tryd.func25, Tryd.ntmps25
    go_wp2_with fail
    refine (szTagS_any n c A L _ hn hc hL hL2).mono ?_
    rintro E w1 ⟨he, rfl⟩
    rw [e3] at he
    subst he
    go_wp2_with fail
    go_ret
    exact ⟨rfl, (Below.refl _ _).alloc (Nat.le_refl _) _⟩

set_option maxHeartbeats 1000000 in
theorem szCellS_any (cs : List CellD) (A : Option Addr) (q c : Nat) (L : Int) (w : World) (h : RdC w (.slice A q c) cs) (hL : 0 ≤ L) (hL2 : L ≤ 1048576) :
    Calls Tryd.prog 8 #[.slice A q c, .int .i64 L] w fun e w' => e = .returned (.int .i64 (subI L (cs.length + tagSum cs))) ∧ Below w.heap.size w w' := by
  obtain ⟨hq, hc1, hc2⟩ := h.len
  obtain ⟨T, hT⟩ : ∃ T, T = tagSum cs := ⟨_, rfl⟩
  rw [← hq, ← hT]
  unfold maxLen at hc2
  have HN := Lib.hid hq
  have HT := Lib.hid hT
  have H := Lib.hid h
  clear hq hT h
  by_cases h0 : L < q
  · have e3 : subI L (q + T) = -1 := if_neg (by omega)
    rw [e3]
    clear e3
    go_enter Tryd.func8, Tryd.ntmps8
    go_wp2_with fail
    go_ret
    exact ⟨rfl, Below.refl _ _⟩
  · go_enter Tryd.func8, Tryd.ntmps8
    go_wp2_with fail
    go_loopw [1, 5] (fun l i wr => ∃ k S : Nat, k ≤ q ∧ i = .int .i64 k ∧ Hid (S = tagSum (cs.take k)) ∧ l = .int .i64 (L - q - S) ∧ 0 ≤ L - q - S ∧ Below w.heap.size w wr) (fun _ i _ => q - (intOf i).toNat)
    case atStart => exact ⟨0, 0, Nat.zero_le _, rfl, rfl, by simp, by omega, Below.refl _ _⟩
    case round =>
      obtain ⟨k, S, hk, rfl, HS, rfl, hpos, hb⟩ := hrel
      by_cases hlt : k < q
      · obtain ⟨b, val, al, nx, ts, Au, cu, rfl, hbb, hd, ⟨h0, h1, h2, h3⟩, hRt, ht1, ht2⟩ := (H.out.below hb).elem (k := k) (by rw [← HN.out]; exact hlt)
        have HD := Lib.hid hd
        clear hd
        go_wp2_with fail
        refine (szCell_any val nx al ts.length cu Au _ _ ht1 ht2 hpos (by omega)).mono ?_
        rintro E w1 ⟨he, hb1⟩
        have hbz := hb.size
        by_cases h6 : (ts.length : Int) ≤ L - q - S
        · have e3 : subI (L - q - S) ts.length = L - q - S - ts.length := if_pos h6
          rw [e3] at he
          clear e3
          subst he
          have HS2 : Hid (S + ts.length = tagSum (cs.take (k + 1))) := by
            show S + ts.length = tagSum (cs.take (k + 1))
            rw [take_snoc HD.out, tagSum_snoc, ← HS.out]
          go_wp2_with fail
          go_roundw
          case rel => exact ⟨k + 1, S + ts.length, by omega, by go_num, HS2, by congr 1; omega, by omega, hb.trans (hb1.mono hbz)⟩
          case measure => simp [intOf]; omega
        · have e3 : subI (L - q - S) ts.length = -1 := if_neg h6
          rw [e3] at he
          clear e3
          subst he
          have hle : S + ts.length ≤ T := by
            have h9 := tagSum_take_le cs (k + 1)
            rw [take_snoc HD.out, tagSum_snoc, ← HS.out, ← HT.out] at h9
            exact h9
          have E4 : Hid (subI L (q + T) = -1) := if_neg (by omega)
          go_wp2_with fail
          go_ret
          exact ⟨by rw [E4.out]; rfl, hb.trans (hb1.mono hbz)⟩
      · have hk' : k = q := by omega
        subst hk'
        have hST : S = T := by rw [HS.out, HT.out, HN.out, List.take_length]
        subst hST
        have E4 : Hid (subI L (k + S) = L - k - S) := by
          show subI L (k + S) = L - k - S
          unfold subI
          rw [if_pos (by omega)]
          omega
        go_wp2_with fail
        go_ret
        exact ⟨by rw [E4.out]; rfl, hb⟩

end Go.Proofs.YtnneamfndokleaaDoor
