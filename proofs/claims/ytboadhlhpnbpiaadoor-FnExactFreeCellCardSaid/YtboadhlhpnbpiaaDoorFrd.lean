/-
  The program's FreeCell answers as the pure model's.
-/
import Derived.Test.YtboadhlhpnbpiaaDoorFrc
import Derived.Test.YtboadhlhpnbpiaaDoorUpT
namespace Go.Proofs.YtboadhlhpnbpiaaDoor
open Go.RowKit Go.Deep
set_option linter.unusedVariables false

theorem CellOk.above {d : CellD} (h : CellOk d) {k : Nat} {t : TagD} (hk : d.tags[k]? = some t) : ∀ s ∈ d.tags.drop (k + 1), s.id ≠ t.id := by
  intro s hs
  obtain ⟨j, hj⟩ := List.getElem?_of_mem hs
  rw [List.getElem?_drop] at hj
  exact fun e => h.dist k (k + 1 + j) t s (by omega) hk hj e.symm

theorem tagAt_none_all {id : Int} : ∀ {ts : List TagD}, tagAt id ts = none → ∀ t ∈ ts, t.id ≠ id
  | [], _, t, ht => by cases ht
  | s :: ts, h, t, ht => by
    unfold tagAt at h
    split at h
    · cases h
    · rename_i hne
      rcases List.mem_cons.1 ht with rfl | ht
      · exact hne
      · exact tagAt_none_all (by simpa using h) t ht

/-- An error on the way: the memory stays. -/
theorem free_stop (cs : List CellD) (A : Option Addr) (q c : Nat) (x t : Int) (T : TypeId) (u : Value) (w : World) (hM : RdM w (.slice A q c) cs)
    (hr : ∀ w1, Below w.heap.size w w1 → Calls Tryd.prog 75 #[.slice A q c, .agg #[.int .i64 x, .int .i64 t]] w1 fun E w' => E = .returned (.tuple #[.agg #[.int .i64 0, .bool false, .int .i64 0, .pointer none], .iface T u]) ∧ Below w1.heap.size w1 w') :
    Calls Tryd.prog 55 #[.slice A q c, .agg #[.int .i64 x, .int .i64 t]] w (MemPost w cs (.iface T u)) := by
  refine (free_err (.slice A q c) x t w T u hr).mono ?_
  rintro E w' ⟨rfl, hb⟩
  exact ⟨_, rfl, hM.below hb, hb⟩

theorem implFreeCell_any (cs : List CellD) (A : Option Addr) (q c : Nat) (x t : Int) (w : World) (aI aF aL aR : Addr) (h : RdC w (.slice A q c) cs) (hl : cs.length + tagSum cs ≤ 1048590) (hE : Errs w aI aF aL aR) (hl2 : (freeA cs x t).1.length + tagSum (freeA cs x t).1 ≤ 1048600) :
    Calls Tryd.prog 28 #[.slice A q c, .agg #[.int .i64 x, .int .i64 t]] w (ChgPost w (freeA cs x t).1 (freeA cs x t).2) := by
  cases hB : memB cs with
  | false =>
    have e : freeA cs x t = (cs, 4) := by unfold freeA hitW hit; simp [hB]
    rw [e]
    exact implFreeCell_bad cs A q c x t w h hl hB
  | true =>
    by_cases hx : 0 ≤ x ∧ x < cs.length
    · obtain ⟨i, rfl⟩ : ∃ i : Nat, x = (i : Int) := ⟨x.toNat, by omega⟩
      have hi : i < cs.length := by omega
      have hd : cs[i]? = some cs[i] := List.getElem?_eq_getElem hi
      obtain ⟨d, hdd⟩ : ∃ d, cs[i] = d := ⟨_, rfl⟩
      rw [hdd] at hd
      have hok := (memB_out hB).2 i d hd
      cases ha : d.alive with
      | false =>
        have e : freeA cs (i : Int) t = (cs, 1) := by unfold freeA hitW hit; simp [hB, hi, hdd, ha]
        rw [e]
        exact implFreeCell_gen cs cs A q c i t _ 1 w h hl (by omega) hB (fun w1 A1 c1 hb hM => free_stop cs A1 cs.length c1 i t _ _ w1 hM fun w2 hb2 => afterWrite_err _ _ _ w2 _ _ fun w3 hb3 =>
          reach_freed cs A1 cs.length c1 i t d w3 _ _ ((hM.below hb2).below hb3) hd ha (((hE.below hb).below hb2).below hb3).gF) (fun w1 hb => codeOf_F w1 aI aF aL aR (hE.below hb))
      | true =>
        cases hta : tagAt t d.tags with
        | none =>
          have e : freeA cs (i : Int) t = (cs, 2) := by unfold freeA hitW hit; simp [hB, hi, hdd, ha, hta]
          rw [e]
          have hlo : upT t d.tags.reverse = [] := upT_none fun s hs => tagAt_none_all hta s (by simpa using hs)
          exact implFreeCell_gen cs cs A q c i t _ 2 w h hl (by omega) hB (fun w1 A1 c1 hb hM => free_stop cs A1 cs.length c1 i t _ _ w1 hM fun w2 hb2 => afterWrite_err _ _ _ w2 _ _ fun w3 hb3 =>
            reach_lost cs A1 cs.length c1 i t d w3 _ _ ((hM.below hb2).below hb3) hd ha hlo (((hE.below hb).below hb2).below hb3).gL) (fun w1 hb => codeOf_L w1 aI aF aL aR (hE.below hb))
        | some k =>
          obtain ⟨⟨tg, hk, hid⟩, -⟩ := tagAt_some hta
          have hab : ∀ s ∈ d.tags.drop (k + 1), s.id ≠ t := by rw [← hid]; exact hok.above hk
          have hup := upT_take hk hid hab
          have htk : d.tags.take (k + 1) = d.tags.take k ++ [tg] := by rw [List.take_add_one, hk]; rfl
          have hup2 : upT t d.tags.reverse = tg :: (d.tags.take k).reverse := by rw [hup, htk]; simp
          have hln : d.tags.length ≤ 1000 := by have := hok.lenM; omega
          cases hu : tg.u with
          | false =>
            have e : freeA cs (i : Int) t = (cs, 3) := by unfold freeA hitW hit uAt; simp [hB, hi, hdd, ha, hta, hk, hu]
            rw [e]
            exact implFreeCell_gen cs cs A q c i t _ 3 w h hl (by omega) hB (fun w1 A1 c1 hb hM => free_stop cs A1 cs.length c1 i t _ _ w1 hM fun w2 hb2 =>
              afterWrite_ro _ _ _ d w2 _ _ tg _ hup2 hu (((hE.below hb).below hb2)).gR hln fun w3 hb3 =>
                reach_ok cs A1 cs.length c1 i t d w3 _ _ ((hM.below hb2).below hb3) hd ha (by rw [hup2]; simp) (((hE.below hb).below hb2).below hb3).gL) (fun w1 hb => codeOf_R w1 aI aF aL aR (hE.below hb))
          | true =>
            have e : freeA cs (i : Int) t = (cs.set i { d with alive := false, tags := d.tags.take (k + 1) }, 0) := by unfold freeA hitW hit uAt; simp [hB, hi, hdd, ha, hta, hk, hu]
            rw [e] at hl2 ⊢
            refine implFreeCell_gen cs _ A q c i t .nilIface 0 w h hl hl2 hB (fun w1 A1 c1 hb hM => ?_) (fun w1 hb => codeOf_nil w1)
            refine (free_ok cs A1 cs.length c1 i t d (d.tags.take (k + 1)) w1 hM hd (by have := (memB_out hB).1; omega) fun w2 hb2 => ?_).mono ?_
            · refine (afterWrite_ok _ _ _ d w2 tg _ hup2 hu hln fun w3 hb3 => reach_ok cs A1 cs.length c1 i t d w3 _ _ ((hM.below hb2).below hb3) hd ha (by rw [hup2]; simp) (((hE.below hb).below hb2).below hb3).gL).mono ?_
              rintro E w' ⟨p2, rfl, hs, hb'⟩
              exact ⟨p2, rfl, by rw [← hup]; exact hs, hb'⟩
            · rintro E w' ⟨v', rfl, hM', hb'⟩
              exact ⟨v', rfl, hM'.reads, hb'⟩
    · have e : freeA cs x t = (cs, 4) := by unfold freeA hitW hit; rw [if_neg (fun e => hx e.2)]
      rw [e]
      exact implFreeCell_gen cs cs A q c x t _ 4 w h hl (by omega) hB (fun w1 A1 c1 hb hM => free_stop cs A1 cs.length c1 x t _ _ w1 hM fun w2 hb2 => afterWrite_err _ _ _ w2 _ _ fun w3 hb3 =>
        reach_bad A1 cs.length c1 x t w3 _ _ (((hE.below hb).below hb2).below hb3).gI hx) (fun w1 hb => codeOf_I w1 aI aF aL aR (hE.below hb))

end Go.Proofs.YtboadhlhpnbpiaaDoor
