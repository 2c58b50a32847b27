/-
  The program's ShareCell answers as the pure model's.
-/
import Derived.Test.YtfkoobdlhdolbaaDoorAccS
import Derived.Test.YtfkoobdlhdolbaaDoorMsh
import Derived.Test.YtfkoobdlhdolbaaDoorUpT
namespace Go.Proofs.YtfkoobdlhdolbaaDoor
open Go.RowKit Go.Deep
set_option linter.unusedVariables false

/-- An error on the way: the memory stays. -/
theorem share_stop (cs : List CellD) (A : Option Addr) (q c : Nat) (x t : Int) (T : TypeId) (u : Value) (Bm : Nat) (w : World) (hM : RowM w Bm (.slice A q c) cs)
    (hr : ∀ w1, Below w.heap.size w w1 → Calls Tryd.prog 75 #[.slice A q c, .agg #[.int .i64 x, .int .i64 t]] w1 fun E w' => E = .returned (.tuple #[.agg #[.int .i64 0, .bool false, .int .i64 0, .pointer none], .iface T u]) ∧ Below w1.heap.size w1 w') :
    Calls Tryd.prog 57 #[.slice A q c, .agg #[.int .i64 x, .int .i64 t]] w (ResPost w Bm cs (.agg #[.int .i64 0, .int .i64 0]) (.iface T u)) := by
  refine (share_err (.slice A q c) x t w T u hr).mono ?_
  rintro E w' ⟨rfl, hb⟩
  exact ⟨_, rfl, hM.below hb, hb⟩

/-- There is room for another tag. -/
theorem share_room (cs : List CellD) (A : Option Addr) (q c i : Nat) (t : Int) (d : CellD) (ts : List TagD) (Bm : Nat) (w : World) (hM : RowM w Bm (.slice A q c) cs) (hBm : Bm ≤ w.heap.size) (hiq : i < q) (hl : q ≤ 1048600) (ha : d.alive = true) (h1 : ts.length < 200) (h2 : 0 ≤ d.next) (h3 : d.next < 1000)
    (hr : ∀ w1, Below w.heap.size w w1 → Calls Tryd.prog 75 #[.slice A q c, .agg #[.int .i64 (i : Int), .int .i64 t]] w1 fun E w' => ∃ p, E = .returned (.tuple #[.agg #[.int .i64 d.val, .bool true, .int .i64 d.next, .pointer p], .nilIface]) ∧ Stk w' w'.heap.size ts.reverse p ∧ Below w1.heap.size w1 w') :
    Calls Tryd.prog 57 #[.slice A q c, .agg #[.int .i64 (i : Int), .int .i64 t]] w (ResPost w Bm (cs.set i ⟨d.val, true, d.next + 1, ts ++ [⟨d.next, false⟩]⟩) (.agg #[.int .i64 (i : Int), .int .i64 d.next]) .nilIface) := by
  refine (share_gen (.slice A q c) i t i d.next d .nilIface ts (fun v' w' => RowM w' (w.heap.size + 2) v' (cs.set i ⟨d.val, true, d.next + 1, ts ++ [⟨d.next, false⟩]⟩)) w hr (fun w1 p hb hle hs => ?_) (fun v' w' a b hy hQ => ?_)).mono ?_
  · have h4 := withTag_ok cs A q c i d ts p false w1 (hM.reads.below hb) hiq hl hs h1 h2 h3
    rw [ha] at h4
    refine h4.mono ?_
    rintro E w' ⟨v', rfl, hR, hb'⟩
    exact ⟨v', rfl, hR.mono hle, hb'⟩
  · exact (hQ.setType hy (by decide) (by omega)).setType (set_keeps hy _ _) (by decide) (by omega)
  · rintro E w' ⟨v', rfl, hR, hb'⟩
    exact ⟨v', rfl, hR.mono (by omega), hb'⟩

/-- There is none. -/
theorem share_full (cs : List CellD) (A : Option Addr) (q c : Nat) (x t : Int) (d : CellD) (ts : List TagD) (T : TypeId) (u : Value) (Bm : Nat) (w : World) (hM : RowM w Bm (.slice A q c) cs) (hG : ErrI w (.iface T u)) (ha : d.alive = true) (hbad : ¬ (ts.length < 200 ∧ d.next < 1000))
    (hr : ∀ w1, Below w.heap.size w w1 → Calls Tryd.prog 75 #[.slice A q c, .agg #[.int .i64 x, .int .i64 t]] w1 fun E w' => ∃ p, E = .returned (.tuple #[.agg #[.int .i64 d.val, .bool true, .int .i64 d.next, .pointer p], .nilIface]) ∧ Stk w' w'.heap.size ts.reverse p ∧ Below w1.heap.size w1 w') :
    Calls Tryd.prog 57 #[.slice A q c, .agg #[.int .i64 x, .int .i64 t]] w (ResPost w Bm cs (.agg #[.int .i64 0, .int .i64 0]) (.iface T u)) := by
  refine (share_gen (.slice A q c) x t 0 0 d (.iface T u) ts (fun v' _ => v' = .slice A q c) w hr (fun w1 p hb hle hs => ?_) (fun v' w' a b hy hQ => hQ)).mono ?_
  · have h4 := withTag_full (.slice A q c) x d ts p false w1 T u hs (hG.below hb) hbad
    rw [ha] at h4
    refine h4.mono ?_
    rintro E w' ⟨rfl, hb'⟩
    exact ⟨_, rfl, rfl, hb'⟩
  · rintro E w' ⟨v', rfl, rfl, hb'⟩
    exact ⟨_, rfl, hM.below hb', hb'⟩

theorem implShareCell_any (cs : List CellD) (A : Option Addr) (q c : Nat) (x t : Int) (w : World) (aI aF aL aR : Addr) (h : RdC w (.slice A q c) cs) (hl : cs.length + tagSum cs ≤ 1048590) (hE : Errs w aI aF aL aR) (hl2 : (shareA cs x t).1.length + tagSum (shareA cs x t).1 ≤ 1048600) :
    Calls Tryd.prog 24 #[.slice A q c, .agg #[.int .i64 x, .int .i64 t]] w (PtrPost w (shareA cs x t).1 (shareA cs x t).2.1.1 (shareA cs x t).2.1.2 (shareA cs x t).2.2) := by
  cases hB : memB cs with
  | false =>
    have e : shareA cs x t = (cs, (0, 0), 4) := by unfold shareA hit; simp [hB]
    rw [e]
    exact implShareCell_of cs A q c x t 0 0 4 w fun w1 hb => accessedS_bad cs A q c x t w1 (h.below hb) hl hB
  | true =>
    by_cases hx : 0 ≤ x ∧ x < cs.length
    · obtain ⟨i, rfl⟩ : ∃ i : Nat, x = (i : Int) := ⟨x.toNat, by omega⟩
      have hi : i < cs.length := by omega
      have hd : cs[i]? = some cs[i] := List.getElem?_eq_getElem hi
      obtain ⟨d, hdd⟩ : ∃ d, cs[i] = d := ⟨_, rfl⟩
      rw [hdd] at hd
      have hok := (memB_out hB).2 i d hd
      cases ha : d.alive with
      | false =>
        have e : shareA cs (i : Int) t = (cs, (0, 0), 1) := by unfold shareA hit; simp [hB, hi, hdd, ha]
        rw [e]
        exact implShareCell_of cs A q c i t 0 0 1 w fun w0 hb0 => accessedS_good cs cs A q c i t 0 0 _ 1 w0 (h.below hb0) hl (by omega) hB (fun w1 A1 c1 Bm hb hBm hM => share_stop cs A1 cs.length c1 i t _ _ Bm w1 hM fun w2 hb2 => afterRead_err _ _ _ w2 _ _ fun w3 hb3 =>
          reach_freed cs A1 cs.length c1 i t d w3 _ _ ((hM.reads.below hb2).below hb3) hd ha ((((hE.below hb0).below hb).below hb2).below hb3).gF) (fun w1 hb => codeOf_F w1 aI aF aL aR ((hE.below hb0).below hb))
      | true =>
        cases hta : tagAt t d.tags with
        | none =>
          have e : shareA cs (i : Int) t = (cs, (0, 0), 2) := by unfold shareA hit; simp [hB, hi, hdd, ha, hta]
          rw [e]
          have hlo : upT t d.tags.reverse = [] := upT_none fun s hs => tagAt_none_all hta s (by simpa using hs)
          exact implShareCell_of cs A q c i t 0 0 2 w fun w0 hb0 => accessedS_good cs cs A q c i t 0 0 _ 2 w0 (h.below hb0) hl (by omega) hB (fun w1 A1 c1 Bm hb hBm hM => share_stop cs A1 cs.length c1 i t _ _ Bm w1 hM fun w2 hb2 => afterRead_err _ _ _ w2 _ _ fun w3 hb3 =>
            reach_lost cs A1 cs.length c1 i t d w3 _ _ ((hM.reads.below hb2).below hb3) hd ha hlo ((((hE.below hb0).below hb).below hb2).below hb3).gL) (fun w1 hb => codeOf_L w1 aI aF aL aR ((hE.below hb0).below hb))
        | some k =>
          obtain ⟨⟨tg, hk, hid⟩, -⟩ := tagAt_some hta
          have hab : ∀ s ∈ d.tags.drop (k + 1), s.id ≠ t := by rw [← hid]; exact hok.above hk
          have hup := upT_take hk hid hab
          have hlo : upT t d.tags.reverse ≠ [] := by rw [hup, List.take_add_one, hk]; simp
          have hln : d.tags.length ≤ 1000 := by have := hok.lenM; omega
          by_cases hroom : (readT d.tags k).length < 200 ∧ d.next < 1000
          · have e : shareA cs (i : Int) t = (cs.set i ⟨d.val, true, d.next + 1, (readT d.tags k) ++ [⟨d.next, false⟩]⟩, ((i : Int), d.next), 0) := by
              unfold shareA hit
              simp only [hB]
              simp [hi, hdd, ha, hta, pushA]
              exact hroom
            rw [e] at hl2 ⊢
            refine implShareCell_of _ A q c i t i d.next 0 w fun w0 hb0 => accessedS_good cs _ A q c i t i d.next .nilIface 0 w0 (h.below hb0) hl hl2 hB (fun w1 A1 c1 Bm hb hBm hM => ?_) (fun w1 hb => codeOf_nil w1)
            refine share_room cs A1 cs.length c1 i t d (readT d.tags k) Bm w1 hM hBm hi (by have := (memB_out hB).1; omega) ha hroom.1 (by have := hok.next1; omega) hroom.2 fun w2 hb2 => ?_
            refine (afterRead_ok _ _ _ d w2 hlo hln fun w3 hb3 => reach_ok cs A1 cs.length c1 i t d w3 _ _ ((hM.reads.below hb2).below hb3) hd ha hlo ((((hE.below hb0).below hb).below hb2).below hb3).gL).mono ?_
            rintro E w' ⟨p2, rfl, ⟨B, hBe, hs⟩, hb'⟩
            exact ⟨p2, rfl, by rw [readT_reverse hk hid hab hBe]; exact hs, hb'⟩
          · have e : shareA cs (i : Int) t = (cs, (0, 0), 4) := by
              unfold shareA hit
              simp only [hB]
              simp [hi, hdd, ha, hta, pushA]
              exact fun e1 => Int.not_lt.1 fun e2 => hroom ⟨e1, e2⟩
            rw [e]
            refine implShareCell_of cs A q c i t 0 0 4 w fun w0 hb0 => accessedS_good cs cs A q c i t 0 0 _ 4 w0 (h.below hb0) hl (by omega) hB (fun w1 A1 c1 Bm hb hBm hM => ?_) (fun w1 hb => codeOf_I w1 aI aF aL aR ((hE.below hb0).below hb))
            refine share_full cs A1 cs.length c1 i t d (readT d.tags k) _ _ Bm w1 hM ((hE.below hb0).below hb).gI ha hroom fun w2 hb2 => ?_
            refine (afterRead_ok _ _ _ d w2 hlo hln fun w3 hb3 => reach_ok cs A1 cs.length c1 i t d w3 _ _ ((hM.reads.below hb2).below hb3) hd ha hlo ((((hE.below hb0).below hb).below hb2).below hb3).gL).mono ?_
            rintro E w' ⟨p2, rfl, ⟨B, hBe, hs⟩, hb'⟩
            exact ⟨p2, rfl, by rw [readT_reverse hk hid hab hBe]; exact hs, hb'⟩
    · have e : shareA cs x t = (cs, (0, 0), 4) := by unfold shareA hit; rw [if_neg (fun e => hx e.2)]
      rw [e]
      exact implShareCell_of cs A q c x t 0 0 4 w fun w0 hb0 => accessedS_good cs cs A q c x t 0 0 _ 4 w0 (h.below hb0) hl (by omega) hB (fun w1 A1 c1 Bm hb hBm hM => share_stop cs A1 cs.length c1 x t _ _ Bm w1 hM fun w2 hb2 => afterRead_err _ _ _ w2 _ _ fun w3 hb3 =>
        reach_bad A1 cs.length c1 x t w3 _ _ ((((hE.below hb0).below hb).below hb2).below hb3).gI hx) (fun w1 hb => codeOf_I w1 aI aF aL aR ((hE.below hb0).below hb))

end Go.Proofs.YtfkoobdlhdolbaaDoor
