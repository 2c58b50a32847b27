/-
  The program's own memories as memories again.
-/
import Derived.Test.YtfkoobdlhdolbaaDoorMem
import Derived.Test.YtfkoobdlhdolbaaDoorStk2
namespace Go.Proofs.YtfkoobdlhdolbaaDoor
open Go.RowKit Go.Deep
set_option linter.unusedVariables false

set_option maxRecDepth 100000 in
set_option maxHeartbeats 8000000 in
theorem plain_any (cs : List CellD) (A : Option Addr) (q c : Nat) (w : World) (h : RdM w (.slice A q c) cs) (hl : cs.length + tagSum cs ≤ 1048600) :
    Calls Tryd.prog 64 #[.slice A q c] w fun E w' => ∃ v, E = .returned v ∧ RowC w' w.heap.size v cs ∧ Below w.heap.size w w' := by
  obtain ⟨hq, hc1, hc2⟩ := h.len
  unfold maxLen at hc2
  have HN := Lib.hid hq
  have H := Lib.hid h
  have HL := Lib.hid hl
  have hql : q ≤ 1048600 := by omega
  obtain ⟨i0, hi, hzz0, hzz1, hzz2⟩ := info_parts Tryd.infoCell
  have HI := Lib.hid hi
  have HZ0 := Lib.hid hzz0
  have HZ1 := Lib.hid hzz1
  have HZ2 := Lib.hid hzz2
  clear hi hzz0 hzz1 hzz2 hq h hl
  go_enter Tryd.func64, Tryd.ntmps64
  go_wp2_with fail
  go_loopw [3, 8] (fun o i wr => ∃ k : Nat, i = .int .i64 k ∧ k ≤ q ∧ Hid (∃ rs, rs.map Prod.fst = cs.take k ∧ RowU wr w.heap.size o rs) ∧ Below w.heap.size w wr) (fun _ i _ => q - (intOf i).toNat)
  case atStart => exact ⟨0, rfl, Nat.zero_le _, ⟨[], rfl, World.ownsRow_nil _ _ _ _, fun j p hp => by simp at hp, fun i j p q a b hij hp => by simp at hp⟩, Below.refl _ _⟩
  case round =>
    obtain ⟨k, rfl, hk, HR, hb⟩ := hrel
    have hbz := hb.size
    by_cases hlt : k < q
    · have hkl : k < cs.length := by rw [← HN.out]; exact hlt
      obtain ⟨⟨val, al, nx, ts⟩, hd⟩ : ∃ d, cs[k]? = some d := ⟨_, List.getElem?_eq_getElem hkl⟩
      obtain ⟨b, pk, rfl, hbb, ⟨a0, a1, a2, a3⟩, hT⟩ := (H.out.below hb).elem hd
      have HD := Lib.hid hd
      have htl : ts.length ≤ 1048600 := by
        have h9 := tagSum_take_le cs (k + 1)
        rw [take_snoc hd, tagSum_snoc] at h9
        have := HL.out
        simp only at h9
        omega
      obtain ⟨rs, hrs, hU⟩ := HR.out
      have hrl : rs.length = k := by
        have h9 := congrArg List.length hrs
        have := HN.out
        simp at h9
        omega
      obtain ⟨Ao, co, hvo, -, -, -⟩ := own_form hU.own
      rw [hrl] at hvo
      subst hvo
      have HRS := Lib.hid hrs
      have HRL := Lib.hid hrl
      have hbx : Below wr.heap.size wr (wr.alloc (.cells #[.int .i64 val, .bool al, .int .i64 nx, .pointer pk] 96)) := (Below.refl _ _).alloc (Nat.le_refl _) _
      have HT := Lib.hid (hT.below hbx (Nat.le_refl _))
      have HU := Lib.hid (hU.below hbx)
      have HBX := Lib.hid hbx
      have hXn := heap_alloc_new wr (.cells #[.int .i64 val, .bool al, .int .i64 nx, .pointer pk] 96)
      have HX := Lib.hid hXn
      have hltx : wr.heap.size < (wr.alloc (.cells #[.int .i64 val, .bool al, .int .i64 nx, .pointer pk] 96)).heap.size := by simp
      have HOWN : Hid (wr.ownsRow w.heap.size 33 4 (.slice Ao k co) k (rs.flatMap crow)) := by
        have := hU.own
        rw [hrl] at this
        exact this
      have HOWN := Lib.hid (own_below HOWN.out hbx)
      have hOBw : ¬ some wr.heap.size = (Value.slice Ao k co).ownBlock := fun e => by have := (hU.own.lt wr.heap.size e.symm).2; omega
      have HOB := Lib.hid (fun g (hg : (Value.slice Ao k co).ownBlock = some g) => hU.own.lt g hg)
      clear hd hT hU hrs hrl HR hbx hXn
      go_wp2_with fail
      have y0 := (cell_of_block HX.out 0).trans (show _ = some (.int .i64 val) from rfl)
      have y1 := (cell_of_block HX.out 1).trans (show _ = some (.bool al) from rfl)
      have y2 := (cell_of_block HX.out 2).trans (show _ = some (.int .i64 nx) from rfl)
      have y3 := (cell_of_block HX.out 3).trans (show _ = some (.pointer pk) from rfl)
      obtain ⟨W1, hW1⟩ : ∃ W1, wr.alloc (.cells #[.int .i64 val, .bool al, .int .i64 nx, .pointer pk] 96) = W1 := ⟨_, rfl⟩
      rw [hW1] at HT HU HBX HX HOWN hltx y0 y1 y2 y3 ⊢
      clear hW1
      go_region_held3 (fun w' => w'.cell? ⟨wr.heap.size, 0, none⟩ = some (.int .i64 val) ∧ w'.cell? ⟨wr.heap.size, 1, none⟩ = some (.bool al) ∧ w'.cell? ⟨wr.heap.size, 2, none⟩ = some (.int .i64 nx) ∧ w'.cell? ⟨wr.heap.size, 3, none⟩ = some (.pointer pk))
        (first | exact ⟨y0, y1, y2, y3⟩ | exact hS1 | exact held4 hS1 ((Below.refl _ _).alloc (Nat.le_refl _) _) | exact hS2)
        (first
          | (go_at_call 87; refine (list_any _ wr.heap.size ts.reverse pk ?_ ?_ ?_).mono ?_; (exact HT.out.below (Below.refl _ _).drew (by have := HBX.out.size; omega)); (have := HBX.out.size; show wr.heap.size ≤ W1.heap.size; omega); (rw [List.length_reverse]; exact htl); rintro E w' ⟨rfl, hst, hbn⟩; rw [List.length_reverse, List.reverse_reverse] at hst; rw [List.length_reverse]; have hS1 := held4 (show W1.drew.cell? ⟨wr.heap.size, 0, none⟩ = some (.int .i64 val) ∧ W1.drew.cell? ⟨wr.heap.size, 1, none⟩ = some (.bool al) ∧ W1.drew.cell? ⟨wr.heap.size, 2, none⟩ = some (.int .i64 nx) ∧ W1.drew.cell? ⟨wr.heap.size, 3, none⟩ = some (.pointer pk) from ⟨y0, y1, y2, y3⟩) hbn)
          | (refine step_append_lies _ (by rfl) _ _ _ (by rfl) w.heap.size 33 i0 (.agg #[.int .i64 0, .bool false, .int .i64 0, .slice none 0 0]) 4 48 Tryd.underlying23 HI.out HZ0.out HZ1.out HZ2.out rfl (by decide) (.slice Ao k co) k (rs.flatMap crow) (by rfl) ?_ ⟨w'.heap.size, 0, none⟩ 1 1 [.int .i64 val, .bool al, .int .i64 nx, .slice (some ⟨W1.heap.size, 0, none⟩) ts.length ts.length] (by rfl) (by rfl) ?_ ?_ (by decide) ?_ ?_ ?_ (w'.heap.size + 1) ?_ ?_;
             (exact own_below HOWN.out ((((Below.refl W1.heap.size W1).drew).trans hbn).alloc (show W1.heap.size ≤ w'.heap.size from hbn.size) _)); (exact World.news_of_block (cs := #[.int .i64 val, .bool al, .int .i64 nx, .slice (some ⟨W1.heap.size, 0, none⟩) ts.length ts.length]) (heap_alloc_new w' _)); (intro u hu; simp only [List.mem_cons, List.not_mem_nil, or_false] at hu; rcases hu with rfl | rfl | rfl | rfl <;> rfl); (unfold maxLen; omega); (omega); (show w.heap.size ≤ (World.alloc w' _).heap.size; have h8 : W1.heap.size ≤ w'.heap.size := hbn.size; have h9 := HBX.out.size; rw [World.size_alloc]; omega); (simp);
             intro g cap w3 hown3 hgr3 hat3 hlt3; have hS2 := far4 (held4 hS1 (((Below.refl w'.heap.size w').alloc (Nat.le_refl _) (.cells #[.int .i64 val, .bool al, .int .i64 nx, .slice (some ⟨W1.heap.size, 0, none⟩) ts.length ts.length] 33)))) hgr3 (fun e => hOBw e) (fun e => hOBw e) (fun e => hOBw e) (fun e => hOBw e)))
      have hbf : Below w.heap.size w w3 := (((hb.trans ((HBX.out.mono hbz).trans (((Below.refl W1.heap.size W1).drew.trans hbn).mono (by have := HBX.out.size; omega)))).alloc (by have h8 : W1.heap.size ≤ w'.heap.size := hbn.size; have h9 := HBX.out.size; omega) _).grown hgr3 (by have h8 : W1.heap.size ≤ w'.heap.size := hbn.size; have h9 := HBX.out.size; rw [World.size_alloc]; omega) (fun g hg => (HOB.out g hg).1))
      have hUn : RowU (w'.alloc (.cells #[.int .i64 val, .bool al, .int .i64 nx, .slice (some ⟨W1.heap.size, 0, none⟩) ts.length ts.length] 33)) w.heap.size (.slice Ao k co) rs := (HU.out.below (((Below.refl W1.heap.size W1).drew).trans hbn)).below ((Below.refl _ _).alloc (Nat.le_refl _) _)
      have hsn : RowT (w'.alloc (.cells #[.int .i64 val, .bool al, .int .i64 nx, .slice (some ⟨W1.heap.size, 0, none⟩) ts.length ts.length] 33)) W1.heap.size (.slice (some ⟨W1.heap.size, 0, none⟩) ts.length ts.length) ts := own_below hst ((Below.refl w'.heap.size w').alloc (Nat.le_refl _) _)
      have hfin := RowU.snoc (p := (⟨val, al, nx, ts⟩, .slice (some ⟨W1.heap.size, 0, none⟩) ts.length ts.length)) hUn (own_mono hsn (by have h9 := HBX.out.size; omega)) (fun j r a hr ha e => by
        have e1 := (World.ownsRow.lt (HU.out.tags j r hr) a ha).2
        have e2 := (World.ownsRow.lt hsn a e).1
        omega) hgr3 (by rw [HRL.out]; exact hown3)
      have HF : Hid (∃ rs, rs.map Prod.fst = cs.take (k + 1) ∧ RowU w3 w.heap.size (.slice (some ⟨g, 0, none⟩) (k + 1) cap) rs) := ⟨rs ++ [(⟨val, al, nx, ts⟩, .slice (some ⟨W1.heap.size, 0, none⟩) ts.length ts.length)], by rw [take_snoc HD.out, List.map_append, HRS.out]; rfl, hfin⟩
      clear hfin hUn hsn hS1 hS2 hown3 hgr3 hat3 hst hbn y0 y1 y2 y3
      go_wp2_with fail
      refine ⟨⟨k + 1, by simp, by omega, HF, hbf⟩, ?_⟩
      simp only [intOf]
      omega
    · have hke : k = q := by omega
      subst hke
      obtain ⟨rs, hrs, hU⟩ := HR.out
      have HC := Lib.hid (show RowC wr w.heap.size _ cs from ⟨rs, by rw [hrs, HN.out, List.take_length], hU⟩)
      clear hrs hU
      go_wp2_with fail
      go_ret
      exact ⟨_, rfl, HC.out, hb⟩

end Go.Proofs.YtfkoobdlhdolbaaDoor
