/-
  Stacks without the unique tags above a part.
-/
import Derived.Test.YtfkoobdlhdolbaaDoorStk
namespace Go.Proofs.YtfkoobdlhdolbaaDoor
open Go.RowKit Go.Deep
set_option linter.unusedVariables false

theorem Tryd.infoStk : (Tryd.prog.info? 119).map (·.size) = some 4 := by kernel_rfl

/-- What is left of a stack. -/
def SharedPost (ts : List TagD) (w : World) (E : Ending) (w' : World) : Prop := ∃ p, E = .returned (.pointer p) ∧ Stk w' w'.heap.size ts p ∧ Below w.heap.size w w'

theorem Stk.some_ {w : World} {hi : Nat} {ts : List TagD} {p : Option Addr} (h : Stk w hi ts p) (h0 : ts ≠ []) : ∃ g cur, p = some ⟨g, 0, none⟩ ∧ g < hi ∧ w.heap[g]? = some (.cells cur 119 (0, 0)) := by
  cases ts with
  | nil => exact absurd rfl h0
  | cons t ts =>
    obtain ⟨g, pb, h1, h2, h3, _⟩ := h
    exact ⟨g, _, h1, h2, h3⟩

set_option maxRecDepth 100000 in
set_option maxHeartbeats 4000000 in
theorem sharedAbove_any (part : List TagD) (h0 : part ≠ []) : ∀ (A : List TagD) (hi : Nat) (p pp : Option Addr) (w : World), Chain w part pp hi A p → hi ≤ w.heap.size → (A ++ part).length ≤ 1000000 →
    Calls Tryd.prog 92 #[.pointer p, .pointer pp] w (SharedPost (A.filter (fun t => !t.u) ++ part) w) := by
  obtain ⟨j, hj, hjs⟩ := Option.map_eq_some_iff.1 Tryd.infoStk
  have hsame := fun (w : World) (a : Addr) => run_eql_ptr_same (P := Tryd.prog) w a Tryd.underlying94 hj
  have hother := fun (w : World) (a b : Addr) (ca cb : Array Value) (hne : a ≠ b) (ha : w.heap[a.block]? = some (.cells ca 119 (0, 0))) (hb : w.heap[b.block]? = some (.cells cb 119 (0, 0))) => run_eql_ptr_other (P := Tryd.prog) w Tryd.underlying94 hj (by rw [hjs]; decide) hne ha hb
  have HSAME := Lib.hid hsame
  have HOTHER := Lib.hid hother
  clear hsame hother hj hjs
  intro A
  induction A with
  | nil =>
    intro hi p pp w hC hh hl
    obtain ⟨rfl, hst⟩ := hC
    obtain ⟨g, cur, rfl, hg, hc⟩ := hst.some_ h0
    have he := HSAME.out w ⟨g, 0, none⟩
    have HS := Lib.hid (hst.mono hh)
    clear hst hc
    go_enter Tryd.func92, Tryd.ntmps92
    go_wp2_with fail
    go_ret
    exact ⟨_, rfl, by simpa using HS.out, Below.refl _ _⟩
  | cons t A ih =>
    intro hi p pp w hC hh hl
    obtain ⟨g, pb, rfl, hg, hc, hC2⟩ := hC
    obtain ⟨gp, curp, hpp, hgp, hcp⟩ := hC2.part.some_ h0
    subst hpp
    have he := HOTHER.out w ⟨g, 0, none⟩ ⟨gp, 0, none⟩ _ _ (fun e => by injection e with e _; omega) hc hcp
    have c2 : w.cell? ⟨g, 2, none⟩ = some (.pointer pb) := (cell_of_block hc 2).trans rfl
    have hI := ih g pb (some ⟨gp, 0, none⟩) w hC2 (by omega) (by simp at hl ⊢; omega)
    have HI := Lib.hid hI
    have HC := Lib.hid hc
    have HC2 := Lib.hid hC2
    have HL := Lib.hid hl
    have HG := Lib.hid hg
    clear hI hc hC2 hl ih hcp
    go_enter Tryd.func92, Tryd.ntmps92
    go_wp2_with fail
    refine HI.out.mono ?_
    rintro E w1 ⟨p2, rfl, hst2, hb1⟩
    have hgw : g < w.heap.size := by have := HG.out; omega
    have hc1 := (hb1.block g hgw).trans HC.out
    have d0 : w1.cell? ⟨g, 0, none⟩ = some (.int .i64 t.id) := (cell_of_block hc1 0).trans rfl
    have d1 : w1.cell? ⟨g, 1, none⟩ = some (.bool t.u) := (cell_of_block hc1 1).trans rfl
    have d2 : w1.cell? ⟨g, 2, none⟩ = some (.pointer pb) := (cell_of_block hc1 2).trans rfl
    have hz1 := hb1.size
    have HST := Lib.hid hst2
    have HC1 := Lib.hid hc1
    have HCB := Lib.hid (Chain.keep (fun k hk => hb1.block k hk) A g pb (by omega) HC2.out)
    have hne0 : A.filter (fun t => !t.u) ++ part ≠ [] := by simp [h0]
    obtain ⟨g2, cur2, hp2, hg2, hcur2⟩ := hst2.some_ hne0
    have hneb : A ++ part ≠ [] := by simp [h0]
    obtain ⟨gb, curb, hpb, hgb, hcurb⟩ := HCB.out.stk.some_ hneb
    subst hp2 hpb
    obtain ⟨tid, tu⟩ := t
    simp only at d0 d1
    clear hc1 hst2 he c2 hne0 hneb
    cases tu with
    | true =>
      have HF : Hid (Stk w1 w1.heap.size ((⟨tid, true⟩ :: A).filter (fun t => !t.u) ++ part) (some ⟨g2, 0, none⟩)) := by
        show Stk w1 w1.heap.size ((⟨tid, true⟩ :: A).filter (fun t => !t.u) ++ part) (some ⟨g2, 0, none⟩)
        simpa using HST.out
      clear hcur2 hcurb
      go_wp2_with fail
      go_ret
      exact ⟨_, rfl, HF.out, hb1⟩
    | false =>
      by_cases hsm : gb = g2
      · subst hsm
        have he2 := HSAME.out w1 ⟨gb, 0, none⟩
        have hEq : A ++ part = A.filter (fun t => !t.u) ++ part := HCB.out.stk.inj HST.out
        have HF : Hid (Stk w1 w1.heap.size ((⟨tid, false⟩ :: A).filter (fun t => !t.u) ++ part) (some ⟨g, 0, none⟩)) := by
          show Stk w1 w1.heap.size ((⟨tid, false⟩ :: A).filter (fun t => !t.u) ++ part) (some ⟨g, 0, none⟩)
          have e : (⟨tid, false⟩ :: A).filter (fun t => !t.u) ++ part = ⟨tid, false⟩ :: (A ++ part) := by
            rw [hEq]
            simp
          rw [e]
          exact ⟨g, _, rfl, by omega, HC1.out, HCB.out.stk⟩
        clear hEq hcur2 hcurb
        go_wp2_with fail
        go_ret
        exact ⟨_, rfl, HF.out, hb1⟩
      · have he2 := HOTHER.out w1 ⟨g2, 0, none⟩ ⟨gb, 0, none⟩ _ _ (fun e => by injection e with e _; omega) hcur2 hcurb
        have hln : (A.filter (fun t => !t.u) ++ part).length ≤ 10000000 := by
          have h1 := List.length_filter_le (fun t : TagD => !t.u) A
          have h2 := HL.out
          simp at h2 ⊢
          omega
        have hP := push_any w1 w1.heap.size _ (some ⟨g2, 0, none⟩) tid false HST.out (Nat.le_refl _) hln
        have HP := Lib.hid hP
        clear hP hln hcur2 hcurb
        go_wp2_with fail
        refine HP.out.mono ?_
        rintro E w2 ⟨g3, rfl, hg3, hst3, hb2⟩
        have HF : Hid (Stk w2 w2.heap.size ((⟨tid, false⟩ :: A).filter (fun t => !t.u) ++ part) (some ⟨g3, 0, none⟩)) := by
          show Stk w2 w2.heap.size ((⟨tid, false⟩ :: A).filter (fun t => !t.u) ++ part) (some ⟨g3, 0, none⟩)
          simpa using hst3
        have hbf := hb1.trans (hb2.mono hz1)
        clear hst3 hb2
        go_wp2_with fail
        go_ret
        exact ⟨_, rfl, HF.out, hbf⟩

end Go.Proofs.YtfkoobdlhdolbaaDoor
