/-
  The program's WriteCell answers as the pure model's.
-/
import Derived.Test.YtnneamfndokleaaDoorWrc
import Derived.Test.YtnneamfndokleaaDoorUpT
namespace Go.Proofs.YtnneamfndokleaaDoor
open Go.RowKit Go.Deep
set_option linter.unusedVariables false

/-- An error on the way: the memory stays. -/
theorem write_stop (cs : List CellD) (A : Option Addr) (q c : Nat) (x t y : Int) (hy0 : 0 ≤ y) (hy9 : y ≤ 9) (T : TypeId) (u : Value) (w : World) (hM : RdM w (.slice A q c) cs)
    (hr : ∀ w1, Below w.heap.size w w1 → Calls Tryd.prog 60 #[.slice A q c, .agg #[.int .i64 x, .int .i64 t]] w1 fun E w' => E = .returned (.tuple #[.agg #[.int .i64 0, .bool false, .int .i64 0, .pointer none], .iface T u]) ∧ Below w1.heap.size w1 w') :
    Calls Tryd.prog 38 #[.slice A q c, .agg #[.int .i64 x, .int .i64 t], .int .i64 y] w (MemPost w cs (.iface T u)) := by
  refine (write_err (.slice A q c) x t y hy0 hy9 w T u hr).mono ?_
  rintro E w' ⟨rfl, hb⟩
  exact ⟨_, rfl, hM.below hb, hb⟩

theorem implWriteCell_any (cs : List CellD) (A : Option Addr) (q c : Nat) (x t y : Int) (w : World) (aI aF aL aR : Addr) (h : RdC w (.slice A q c) cs) (hl : cs.length + tagSum cs ≤ 1048590) (hE : Errs w aI aF aL aR) (hl2 : (writeA cs x t y).1.length + tagSum (writeA cs x t y).1 ≤ 1048600) :
    Calls Tryd.prog 17 #[.slice A q c, .agg #[.int .i64 x, .int .i64 t], .int .i64 y] w (ChgPost w (writeA cs x t y).1 (writeA cs x t y).2) := by
  cases hB : memB cs with
  | false =>
    have e : writeA cs x t y = (cs, 4) := by unfold writeA hitW hit; simp [hB]
    rw [e]
    exact implWriteCell_bad cs A q c x t y w h hl hB
  | true =>
    by_cases hy : ¬ (0 ≤ y ∧ y ≤ 9)
    · have e : writeA cs x t y = (cs, 4) := by unfold writeA; rw [if_neg hy]
      rw [e]
      refine implWriteCell_gen cs cs A q c x t y _ 4 w h hl (by omega) hB (fun w1 A1 c1 hb hM => (write_num (.slice A1 cs.length c1) x t y w1 _ _ hy (hE.below hb).gI).mono ?_) (fun w1 hb => codeOf_I w1 aI aF aL aR (hE.below hb))
      rintro E w' ⟨rfl, hb'⟩
      exact ⟨_, rfl, hM.below hb', hb'⟩
    replace hy := Decidable.not_not.1 hy
    by_cases hx : 0 ≤ x ∧ x < cs.length
    · obtain ⟨i, rfl⟩ : ∃ i : Nat, x = (i : Int) := ⟨x.toNat, by omega⟩
      have hi : i < cs.length := by omega
      have hd : cs[i]? = some cs[i] := List.getElem?_eq_getElem hi
      obtain ⟨d, hdd⟩ : ∃ d, cs[i] = d := ⟨_, rfl⟩
      rw [hdd] at hd
      have hok := (memB_out hB).2 i d hd
      cases ha : d.alive with
      | false =>
        have e : writeA cs (i : Int) t y = (cs, 1) := by unfold writeA hitW hit; simp [hB, hy, hi, hdd, ha]
        rw [e]
        exact implWriteCell_gen cs cs A q c i t y _ 1 w h hl (by omega) hB (fun w1 A1 c1 hb hM => write_stop cs A1 cs.length c1 i t y hy.1 hy.2 _ _ w1 hM fun w2 hb2 => afterWrite_err _ _ _ w2 _ _ fun w3 hb3 =>
          reach_freed cs A1 cs.length c1 i t d w3 _ _ ((hM.below hb2).below hb3) hd ha (((hE.below hb).below hb2).below hb3).gF) (fun w1 hb => codeOf_F w1 aI aF aL aR (hE.below hb))
      | true =>
        cases hta : tagAt t d.tags with
        | none =>
          have e : writeA cs (i : Int) t y = (cs, 2) := by unfold writeA hitW hit; simp [hB, hy, hi, hdd, ha, hta]
          rw [e]
          have hlo : upT t d.tags.reverse = [] := upT_none fun s hs => tagAt_none_all hta s (by simpa using hs)
          exact implWriteCell_gen cs cs A q c i t y _ 2 w h hl (by omega) hB (fun w1 A1 c1 hb hM => write_stop cs A1 cs.length c1 i t y hy.1 hy.2 _ _ w1 hM fun w2 hb2 => afterWrite_err _ _ _ w2 _ _ fun w3 hb3 =>
            reach_lost cs A1 cs.length c1 i t d w3 _ _ ((hM.below hb2).below hb3) hd ha hlo (((hE.below hb).below hb2).below hb3).gL) (fun w1 hb => codeOf_L w1 aI aF aL aR (hE.below hb))
        | some k =>
          obtain ⟨⟨tg, hk, hid⟩, -⟩ := tagAt_some hta
          have hab : ∀ s ∈ d.tags.drop (k + 1), s.id ≠ t := by rw [← hid]; exact hok.above hk
          have hup := upT_take hk hid hab
          have htk : d.tags.take (k + 1) = d.tags.take k ++ [tg] := by rw [List.take_add_one, hk]; rfl
          have hup2 : upT t d.tags.reverse = tg :: (d.tags.take k).reverse := by rw [hup, htk]; simp
          have hln : d.tags.length ≤ 1000 := by have := hok.lenM; omega
          cases hu : tg.u with
          | false =>
            have e : writeA cs (i : Int) t y = (cs, 3) := by unfold writeA hitW hit uAt; simp [hB, hy, hi, hdd, ha, hta, hk, hu]
            rw [e]
            exact implWriteCell_gen cs cs A q c i t y _ 3 w h hl (by omega) hB (fun w1 A1 c1 hb hM => write_stop cs A1 cs.length c1 i t y hy.1 hy.2 _ _ w1 hM fun w2 hb2 =>
              afterWrite_ro _ _ _ d w2 _ _ tg _ hup2 hu (((hE.below hb).below hb2)).gR hln fun w3 hb3 =>
                reach_ok cs A1 cs.length c1 i t d w3 _ _ ((hM.below hb2).below hb3) hd ha (by rw [hup2]; simp) (((hE.below hb).below hb2).below hb3).gL) (fun w1 hb => codeOf_R w1 aI aF aL aR (hE.below hb))
          | true =>
            have e : writeA cs (i : Int) t y = (cs.set i ⟨y, true, d.next, d.tags.take (k + 1)⟩, 0) := by unfold writeA hitW hit uAt; simp [hB, hy, hi, hdd, ha, hta, hk, hu]
            rw [e] at hl2 ⊢
            refine implWriteCell_gen cs _ A q c i t y .nilIface 0 w h hl hl2 hB (fun w1 A1 c1 hb hM => ?_) (fun w1 hb => codeOf_nil w1)
            refine (write_ok cs A1 cs.length c1 i t y hy.1 hy.2 d (d.tags.take (k + 1)) w1 hM hd (by have := (memB_out hB).1; omega) fun w2 hb2 => ?_).mono ?_
            · refine (afterWrite_ok _ _ _ d w2 tg _ hup2 hu hln fun w3 hb3 => reach_ok cs A1 cs.length c1 i t d w3 _ _ ((hM.below hb2).below hb3) hd ha (by rw [hup2]; simp) (((hE.below hb).below hb2).below hb3).gL).mono ?_
              rintro E w' ⟨p2, rfl, hs, hb'⟩
              exact ⟨p2, rfl, by rw [← hup]; exact hs, hb'⟩
            · rintro E w' ⟨v', rfl, hM', hb'⟩
              exact ⟨v', rfl, hM'.reads, hb'⟩
    · have e : writeA cs x t y = (cs, 4) := by unfold writeA hitW hit; simp only [if_pos hy]; rw [if_neg (fun e => hx e.2)]
      rw [e]
      exact implWriteCell_gen cs cs A q c x t y _ 4 w h hl (by omega) hB (fun w1 A1 c1 hb hM => write_stop cs A1 cs.length c1 x t y hy.1 hy.2 _ _ w1 hM fun w2 hb2 => afterWrite_err _ _ _ w2 _ _ fun w3 hb3 =>
        reach_bad A1 cs.length c1 x t w3 _ _ (((hE.below hb).below hb2).below hb3).gI hx) (fun w1 hb => codeOf_I w1 aI aF aL aR (hE.below hb))

end Go.Proofs.YtnneamfndokleaaDoor
