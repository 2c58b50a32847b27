/-
  The program's ReadCell answers as the pure model's.
-/
import Derived.Test.YtnneamfndokleaaDoorAcc
import Derived.Test.YtnneamfndokleaaDoorMrd
namespace Go.Proofs.YtnneamfndokleaaDoor
open Go.RowKit Go.Deep
set_option linter.unusedVariables false

/-- An error on the way: the memory stays. -/
theorem read_stop (cs : List CellD) (A : Option Addr) (q c : Nat) (x t : Int) (T : TypeId) (u : Value) (Bm : Nat) (w : World) (hM : RowM w Bm (.slice A q c) cs)
    (hr : ∀ w1, Below w.heap.size w w1 → Calls Tryd.prog 53 #[.slice A q c, .agg #[.int .i64 x, .int .i64 t]] w1 fun E w' => E = .returned (.tuple #[.agg #[.int .i64 0, .bool false, .int .i64 0, .pointer none], .iface T u]) ∧ Below w1.heap.size w1 w') :
    Calls Tryd.prog 31 #[.slice A q c, .agg #[.int .i64 x, .int .i64 t]] w (ResPost w Bm cs (.int .i64 0) (.iface T u)) := by
  refine (read_err (.slice A q c) x t w T u hr).mono ?_
  rintro E w' ⟨rfl, hb⟩
  exact ⟨_, rfl, hM.below hb, hb⟩

theorem implReadCell_any (cs : List CellD) (A : Option Addr) (q c : Nat) (x t : Int) (w : World) (aI aF aL aR : Addr) (h : RdC w (.slice A q c) cs) (hl : cs.length + tagSum cs ≤ 1048590) (hE : Errs w aI aF aL aR) (hl2 : (readA cs x t).1.length + tagSum (readA cs x t).1 ≤ 1048600) :
    Calls Tryd.prog 12 #[.slice A q c, .agg #[.int .i64 x, .int .i64 t]] w (IntPostI w (readA cs x t).1 (readA cs x t).2.1 (readA cs x t).2.2) := by
  cases hB : memB cs with
  | false =>
    have e : readA cs x t = (cs, 0, 4) := by unfold readA hit; simp [hB]
    rw [e]
    exact implReadCell_of cs A q c x t 0 4 w fun w1 hb => accessedI_bad cs A q c x t w1 (h.below hb) hl hB
  | true =>
    by_cases hx : 0 ≤ x ∧ x < cs.length
    · obtain ⟨i, rfl⟩ : ∃ i : Nat, x = (i : Int) := ⟨x.toNat, by omega⟩
      have hi : i < cs.length := by omega
      have hd : cs[i]? = some cs[i] := List.getElem?_eq_getElem hi
      obtain ⟨d, hdd⟩ : ∃ d, cs[i] = d := ⟨_, rfl⟩
      rw [hdd] at hd
      have hok := (memB_out hB).2 i d hd
      cases ha : d.alive with
      | false =>
        have e : readA cs (i : Int) t = (cs, 0, 1) := by unfold readA hit; simp [hB, hi, hdd, ha]
        rw [e]
        exact implReadCell_of cs A q c i t 0 1 w fun w0 hb0 => accessedI_good cs cs A q c i t 0 _ 1 w0 (h.below hb0) hl (by omega) hB (fun w1 A1 c1 Bm hb hBm hM => read_stop cs A1 cs.length c1 i t _ _ Bm w1 hM fun w2 hb2 => afterRead_err _ _ _ w2 _ _ fun w3 hb3 =>
          reach_freed cs A1 cs.length c1 i t d w3 _ _ ((hM.reads.below hb2).below hb3) hd ha ((((hE.below hb0).below hb).below hb2).below hb3).gF) (fun w1 hb => codeOf_F w1 aI aF aL aR ((hE.below hb0).below hb))
      | true =>
        cases hta : tagAt t d.tags with
        | none =>
          have e : readA cs (i : Int) t = (cs, 0, 2) := by unfold readA hit; simp [hB, hi, hdd, ha, hta]
          rw [e]
          have hlo : upT t d.tags.reverse = [] := upT_none fun s hs => tagAt_none_all hta s (by simpa using hs)
          exact implReadCell_of cs A q c i t 0 2 w fun w0 hb0 => accessedI_good cs cs A q c i t 0 _ 2 w0 (h.below hb0) hl (by omega) hB (fun w1 A1 c1 Bm hb hBm hM => read_stop cs A1 cs.length c1 i t _ _ Bm w1 hM fun w2 hb2 => afterRead_err _ _ _ w2 _ _ fun w3 hb3 =>
            reach_lost cs A1 cs.length c1 i t d w3 _ _ ((hM.reads.below hb2).below hb3) hd ha hlo ((((hE.below hb0).below hb).below hb2).below hb3).gL) (fun w1 hb => codeOf_L w1 aI aF aL aR ((hE.below hb0).below hb))
        | some k =>
          obtain ⟨⟨tg, hk, hid⟩, -⟩ := tagAt_some hta
          have hab : ∀ s ∈ d.tags.drop (k + 1), s.id ≠ t := by rw [← hid]; exact hok.above hk
          have hup := upT_take hk hid hab
          have hlo : upT t d.tags.reverse ≠ [] := by rw [hup, List.take_add_one, hk]; simp
          have hln : d.tags.length ≤ 1000 := by have := hok.lenM; omega
          have e : readA cs (i : Int) t = (cs.set i ⟨d.val, true, d.next, readT d.tags k⟩, d.val, 0) := by unfold readA hit; simp [hB, hi, hdd, ha, hta]
          rw [e] at hl2 ⊢
          refine implReadCell_of _ A q c i t d.val 0 w fun w0 hb0 => accessedI_good cs _ A q c i t d.val .nilIface 0 w0 (h.below hb0) hl hl2 hB (fun w1 A1 c1 Bm hb hBm hM => ?_) (fun w1 hb => codeOf_nil w1)
          refine (read_ok cs A1 cs.length c1 i t d (readT d.tags k) w1 hM.reads hd (by have := (memB_out hB).1; omega) fun w2 hb2 => ?_).mono ?_
          · refine (afterRead_ok _ _ _ d w2 hlo hln fun w3 hb3 => reach_ok cs A1 cs.length c1 i t d w3 _ _ ((hM.reads.below hb2).below hb3) hd ha hlo ((((hE.below hb0).below hb).below hb2).below hb3).gL).mono ?_
            rintro E w' ⟨p2, rfl, ⟨B, hBe, hs⟩, hb'⟩
            exact ⟨p2, rfl, by rw [readT_reverse hk hid hab hBe]; exact hs, hb'⟩
          · rintro E w' ⟨v', rfl, hM', hb'⟩
            exact ⟨v', rfl, hM'.mono hBm, hb'⟩
    · have e : readA cs x t = (cs, 0, 4) := by unfold readA hit; rw [if_neg (fun e => hx e.2)]
      rw [e]
      exact implReadCell_of cs A q c x t 0 4 w fun w0 hb0 => accessedI_good cs cs A q c x t 0 _ 4 w0 (h.below hb0) hl (by omega) hB (fun w1 A1 c1 Bm hb hBm hM => read_stop cs A1 cs.length c1 x t _ _ Bm w1 hM fun w2 hb2 => afterRead_err _ _ _ w2 _ _ fun w3 hb3 =>
        reach_bad A1 cs.length c1 x t w3 _ _ ((((hE.below hb0).below hb).below hb2).below hb3).gI hx) (fun w1 hb => codeOf_I w1 aI aF aL aR ((hE.below hb0).below hb))

end Go.Proofs.YtnneamfndokleaaDoor
