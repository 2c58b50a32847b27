/-
  The program's walk over the loops, as an iterator.
-/
import Derived.RangeFuncNested
import Derived.RangeFuncBound
import Derived.RangeFuncCalls
import Derived.RangeFuncLeaves
import Derived.Shelf.Abstract
import Derived.Shelf.RegionOpen
import Derived.WalkKit
import Derived.OwnWalkIn
import Derived.TacticsInMore
import Derived.LoopNIn
import Derived.LoopIn
import Derived.Test.YtfkhgdbnjcdlmaaZLpB
import Derived.Test.YtfkhgdbnjcdlmaaZStmtY
import Derived.Test.YtfkhgdbnjcdlmaaZBase
namespace Go.Proofs.Ytfkhgdbnjcdlmaa
open Go.RowKit Go.Deep Go.Shelf
set_option linter.unusedVariables false

/-- What is handed to a round: the ends of a loop. -/
abbrev Lp := { z : Int × Int // 0 ≤ z.1 ∧ z.1 ≤ z.2 ∧ z.2 ≤ 1000 }

def Lp.encs (x : Lp) : Array Value := #[.agg #[.int .i64 x.1.1, .int .i64 x.1.2]]

theorem backs_split {ns : List Nd} {k : Nat} {d : Nd} (h : ns[k]? = some d) : backs ns 0 = backs (ns.take k) 0 ++ (backsOf d k ++ backs (ns.drop (k + 1)) (k + 1)) := by
  have hl := (List.getElem?_eq_some_iff.mp h).1
  have e : ns = ns.take k ++ d :: ns.drop (k + 1) := by
    have h2 : ns[k] = d := (List.getElem?_eq_some_iff.mp h).2
    rw [← h2, ← List.drop_eq_getElem_cons hl, List.take_append_drop]
  have e2 : backs ns 0 = backs (ns.take k ++ d :: ns.drop (k + 1)) 0 := by rw [← e]
  rw [e2, backs_append, List.length_take, Nat.min_eq_left (by omega), Nat.zero_add]
  rfl

theorem backs_take {ns : List Nd} {k : Nat} {d : Nd} (h : ns[k]? = some d) : backs (ns.take (k + 1)) 0 = backs (ns.take k) 0 ++ backsOf d k := by
  have hl := (List.getElem?_eq_some_iff.mp h).1
  rw [List.take_add_one, h, backs_append, List.length_take, Nat.min_eq_left (by omega), Nat.zero_add]
  show _ ++ (backsOf d k ++ []) = _
  rw [List.append_nil]

/-- The jumps back of a point, the first j of its next ones. -/
def partB (d : Nd) (k j : Nat) : List (Int × Int) := ((d.next.take j).filter fun v => decide (v < (k : Int))).map fun v => (v, (k : Int))

theorem partB_all (d : Nd) (k : Nat) : partB d k d.next.length = backsOf d k := by
  unfold partB backsOf
  rw [List.take_length]

theorem partB_yes {d : Nd} {k j : Nat} {v : Int} (h : d.next[j]? = some v) (hv : v < (k : Int)) : partB d k (j + 1) = partB d k j ++ [(v, (k : Int))] := by
  unfold partB
  rw [List.take_add_one, h]
  simp [hv]

theorem partB_no {d : Nd} {k j : Nat} {v : Int} (h : d.next[j]? = some v) (hv : ¬ v < (k : Int)) : partB d k (j + 1) = partB d k j := by
  unfold partB
  rw [List.take_add_one, h]
  simp [hv]

theorem partB_prefix {ns : List Nd} {k j : Nat} {d : Nd} (h : ns[k]? = some d) : backs (ns.take k) 0 ++ partB d k j <+: backs ns 0 := by
  rw [backs_split h]
  refine (List.prefix_append_right_inj _).mpr (List.IsPrefix.trans ?_ (List.prefix_append _ _))
  exact ((List.take_prefix j d.next).filter _).map _

theorem loops_any (C : Nat) (w : World) :
    Calls Try.prog 11 #[.pointer (some ⟨C, 0, none⟩)] w fun e w' => e = .returned (.func (.func 23) #[] #[.pointer (some ⟨w.heap.size, 0, none⟩)]) ∧ w' = w.alloc (.cells #[.pointer (some ⟨C, 0, none⟩)] 36) := by
  go_enter Try.func11, Try.ntmps11
  go_wp2_with fail
  go_ret
  exact ⟨rfl, rfl⟩

attribute [local go_sem] Oper.semAt_some

set_option maxRecDepth 100000 in
set_option maxHeartbeats 2000000 in
theorem loops1_in (C Bn n₀ l q : Nat) (ns : List Nd) (hD : PtsOk q ns) (hq0 : ns.length ≤ 61) (J Jx : List Lp → World → Prop) (W : World) (hJ : AbidesFrom W.heap.size J)
    (hY : ∀ pre x W, J pre W → pre.length < (backs ns 0).length → YieldAt Fence.wide 2 Try.prog l (Lp.encs x) W fun e W' =>
      (e = .returned (.bool true) ∧ J (pre ++ [x]) W' ∧ Below n₀ W W') ∨ (e = .returned (.bool false) ∧ Jx (pre ++ [x]) W'))
    (hG : Gr C W ns) (hC : C < n₀) (hBn : Bn < n₀) (hbx : W.cell? ⟨Bn, 0, none⟩ = some (.pointer (some ⟨C, 0, none⟩))) (hn₀ : n₀ ≤ W.heap.size) (h0 : J [] W) :
    CallsIn Fence.wide 3 Try.prog 23 #[.func (.yield l) #[] #[], .pointer (some ⟨Bn, 0, none⟩)] W fun e W' => (∃ v, e = .returned v) ∧
      ((∃ ys : List Lp, ys.map Subtype.val = backs ns 0 ∧ J ys W') ∨ (∃ pre : List Lp, pre.map Subtype.val <+: backs ns 0 ∧ Jx pre W')) := by
  have hcc := hG.count
  have HG := Lib.hid hG
  have HD := Lib.hid hD
  have HJ := Lib.hid hJ
  have HY := Lib.hid hY
  have HN0 := Lib.hid hn₀
  have H0 := Lib.hid h0
  clear hG hD hJ hY h0 hn₀
  refine callsIn_of_wp Try.func23 rfl trivial ?_ rfl
  simp only [Try.ntmps23, List.size_toArray, List.length_cons, List.length_nil, Nat.reduceAdd, Nat.reduceSub, Array.replicate_succ, Array.replicate_zero, List.push_toArray, List.append_toArray, List.nil_append, List.cons_append]
  gi_wp2
  gi_loopw [10] (fun i wr => ∃ k : Nat, i = .int .i64 k ∧ k ≤ ns.length ∧ Hid (∃ pre : List Lp, pre.map Subtype.val = backs (ns.take k) 0 ∧ J pre wr) ∧ Below n₀ W wr) (fun i _ => ns.length - (intOf i).toNat)
  case atStart => exact ⟨0, rfl, Nat.zero_le _, ⟨[], rfl, H0.out⟩, Below.refl _ _⟩
  case round =>
    obtain ⟨k, rfl, hk, HJ1, hb⟩ := hrel
    have hbz := hb.size
    have hn := HN0.out
    have hbx1 : wr.cell? ⟨Bn, 0, none⟩ = some (.pointer (some ⟨C, 0, none⟩)) := (hb.cell (p := ⟨Bn, 0, none⟩) hBn).trans hbx
    by_cases hlt : k < ns.length
    · have hdk : decide ((k : Int) < (ns.length : Int)) = true := decide_eq_true (by omega)
      have f1 : IntKind.i64.wrap ((k : Int) + 1) = (k : Int) + 1 := IntWalk.i64_in _ (by omega)
      obtain ⟨d, hd⟩ : ∃ d, ns[k]? = some d := ⟨ns[k], List.getElem?_eq_getElem hlt⟩
      have HDD := Lib.hid hd
      have hno := nextOf_any C k d ns wr (HG.out.kept (hb.block C hC)) hd
      have htwo := ((HG.out.kept (hb.block C hC)).node hd).2.2.1
      obtain ⟨nl, hnl⟩ : ∃ nl, d.next.length = nl := ⟨_, rfl⟩
      rw [hnl] at hno htwo
      have HNL := Lib.hid hnl
      clear hd hnl
      gi_wp2_with (refine ⟨trivial, ?_⟩; gi_at_call 14; refine (callsIn_wide.2 hno).mono ?_; rintro E w2 ⟨rfl, hb2⟩)
      have HJ2 : Hid (∃ pre : List Lp, pre.map Subtype.val = backs (ns.take k) 0 ++ partB d k 0 ∧ J pre w2) := by
        obtain ⟨pre, e, hj⟩ := HJ1.out
        refine ⟨pre, by rw [e]; unfold partB; simp, HJ.out pre wr w2 none hj ⟨hb2.os, hb2.tape, hb2.output, hb2.size, fun k hk _ => hb2.block k hk⟩ (fun r e => by cases e)⟩
      have hbB := hb.trans (hb2.mono (by omega))
      clear hno hb2 HJ1
      obtain ⟨wo, rfl⟩ : ∃ z, z = wr := ⟨_, rfl⟩
      gi_loopw [17] (fun i wr => ∃ j : Nat, i = .int .i64 j ∧ j ≤ nl ∧ Hid (∃ pre : List Lp, pre.map Subtype.val = backs (ns.take k) 0 ++ partB d k j ∧ J pre wr) ∧ Below n₀ W wr) (fun i _ => nl - (intOf i).toNat)
      case atStart => exact ⟨0, rfl, Nat.zero_le _, HJ2, hbB⟩
      case round =>
        clear HJ2 hbB hb hbz hbx1
        obtain ⟨j, rfl, hj, HJ3, hb⟩ := hrel
        have hbz := hb.size
        by_cases hjl : j < nl
        · have hdj : decide ((j : Int) < (nl : Int)) = true := decide_eq_true (by omega)
          have f2 : IntKind.i64.wrap ((j : Int) + 1) = (j : Int) + 1 := IntWalk.i64_in _ (by omega)
          obtain ⟨v, hv⟩ : ∃ v, d.next[j]? = some v := ⟨d.next[j]'(by rw [HNL.out]; exact hjl), List.getElem?_eq_getElem _⟩
          have hcv : wr.cell? ⟨C, k * 7 + 4 + j, none⟩ = some (.int .i64 v) := ((HG.out.kept (hb.block C hC)).node HDD.out).2.1 j v hv
          have hv0 : 0 ≤ v := by
            have hkq : k < q := by
              by_cases e : k < q
              · exact e
              · exfalso
                have hl := HD.out.1
                have : k = q := by omega
                subst this
                have h2 := HD.out.2.1
                rw [HDD.out] at h2
                injection h2 with h2
                rw [h2] at hv
                simp at hv
            obtain ⟨d', hd', hn'⟩ := HD.out.2.2 k hkq
            rw [HDD.out] at hd'
            injection hd' with hd'
            subst hd'
            exact (hn'.le v (List.mem_of_getElem? hv)).1
          by_cases hvk : v < (k : Int)
          · have hdv : decide (v < (k : Int)) = true := decide_eq_true hvk
            obtain ⟨pre, hpre, hJp⟩ := HJ3.out
            have hp1 : pre.map Subtype.val ++ [(v, (k : Int))] = backs (ns.take k) 0 ++ partB d k (j + 1) := by rw [hpre, partB_yes hv hvk, List.append_assoc]
            have hpx := partB_prefix (j := j + 1) HDD.out
            rw [← hp1] at hpx
            have hlen : pre.length < (backs ns 0).length := by
              have := hpx.length_le
              simp at this
              omega
            obtain ⟨x, hx⟩ : ∃ x : Lp, x.1 = (v, (k : Int)) := ⟨⟨(v, (k : Int)), by simp only; omega⟩, rfl⟩
            obtain ⟨fn, tmps, assign, body, hy, hR⟩ := HY.out pre x wr hJp hlen
            have hex : x.encs = #[.agg #[.int .i64 v, .int .i64 (k : Int)]] := by unfold Lp.encs; rw [hx]
            have HP1 : Hid ((pre ++ [x]).map Subtype.val = backs (ns.take k) 0 ++ partB d k (j + 1)) := by
              unfold Hid
              rw [List.map_append, ← hp1]
              simp [hx]
            have HPX : Hid ((pre ++ [x]).map Subtype.val <+: backs ns 0) := by
              unfold Hid
              rw [List.map_append]
              simpa [hx] using hpx
            rw [hex] at hy
            clear hpx hp1 hpre hJp hlen hv hv0 HJ3 hex
            gi_wp2
            refine hR.mono ?_
            rintro E w3 (⟨rfl, hJ3, hk3⟩ | ⟨rfl, hJx3⟩)
            · have hb3 := hb.trans hk3
              have HJ4 : Hid (∃ pre : List Lp, pre.map Subtype.val = backs (ns.take k) 0 ++ partB d k (j + 1) ∧ J pre w3) := ⟨_, HP1.out, hJ3⟩
              clear hy hR hJ3 hk3
              gi_wp2
              go_roundw
              case rel => exact ⟨j + 1, by go_num, by omega, HJ4, hb3⟩
              case measure => simp [intOf]; omega
            · clear hy hR
              gi_wp2
              refine bodyPost_ret (results_none rfl _ _ _) rfl ?_
              exact ⟨⟨_, rfl⟩, .inr ⟨_, HPX.out, hJx3⟩⟩
          · have hdv : decide (v < (k : Int)) = false := decide_eq_false hvk
            have HJ4 : Hid (∃ pre : List Lp, pre.map Subtype.val = backs (ns.take k) 0 ++ partB d k (j + 1) ∧ J pre wr) := by
              obtain ⟨pre, e, h⟩ := HJ3.out
              exact ⟨pre, by rw [e, partB_no hv hvk], h⟩
            clear hv hv0 HJ3
            gi_wp2
            try (refine ⟨fun _ h => (by cases h), ?_⟩; gi_wp2)
            go_roundw
            case rel => exact ⟨j + 1, by go_num, by omega, HJ4, hb⟩
            case measure => simp [intOf]; omega
        · have hje : j = nl := by omega
          have hdj : decide ((j : Int) < (nl : Int)) = false := decide_eq_false (by omega)
          have hnj : ¬ j < nl := hjl
          have HJ4 : Hid (∃ pre : List Lp, pre.map Subtype.val = backs (ns.take (k + 1)) 0 ∧ J pre wr) := by
            obtain ⟨pre, e, h⟩ := HJ3.out
            exact ⟨pre, by rw [e, backs_take HDD.out, hje, ← HNL.out, partB_all], h⟩
          clear HJ3 hje
          gi_wp2
          go_roundw
          case rel => exact ⟨k + 1, by go_num, by omega, HJ4, hb⟩
          case measure => simp [intOf]; omega
    · have hdk : decide ((k : Int) < (ns.length : Int)) = false := decide_eq_false (by omega)
      have HJ4 : Hid (∃ pre : List Lp, pre.map Subtype.val = backs ns 0 ∧ J pre wr) := by
        obtain ⟨pre, e, h⟩ := HJ1.out
        exact ⟨pre, by rw [e, List.take_of_length_le (by omega)], h⟩
      clear HJ1
      gi_wp2
      go_end0
      obtain ⟨pre, e, h⟩ := HJ4.out
      exact ⟨⟨_, rfl⟩, .inl ⟨pre, e, h⟩⟩

end Go.Proofs.Ytfkhgdbnjcdlmaa
