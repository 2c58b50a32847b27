/-
  The program's scope: the types of a program's variables.
-/
import Derived.Test.YtcpmodkplikmcaaList
namespace Go.Proofs.Ytcpmodkplikmcaa
open Go.RowKit Go.Deep
set_option linter.unusedVariables false

theorem Try.infoVarType : (Try.prog.info? 140).map (fun i => (i.zero, i.size, i.bytes)) = some (some (.int .i64 0), 1, 8) := by kernel_rfl

def ScopePost (w : World) (ts : List Int) (E : Ending) (w' : World) : Prop :=
  ∃ A c, E = .returned (.tuple #[.slice A ts.length c, .bool true]) ∧ IntsV w' w.heap.size w'.heap.size ts A c ∧ Below w.heap.size w w'

theorem typesB_elem {ts : List Int} (h : typesB ts = true) {k : Nat} {v : Int} (hv : ts[k]? = some v) : 1 ≤ v ∧ v ≤ 4 := by
  simp only [typesB, Bool.and_eq_true, List.all_eq_true, decide_eq_true_eq] at h
  exact h.1 v (List.mem_of_getElem? hv)

theorem intsV_of_own {w : World} {base : Nat} {e : TypeId} {ts : List Int} {v : Value} (h : w.ownsRow base e 1 v ts.length (ts.map (Value.int .i64))) : ∃ A c, v = .slice A ts.length c ∧ IntsV w base w.heap.size ts A c := by
  rcases h.2 with ⟨rfl, h0⟩ | ⟨g, cap, cur, rfl, hb, hg, hn, hm, hs, htake⟩
  · refine ⟨none, 0, by rw [h0], by omega, by unfold maxLen; omega, fun h => by omega⟩
  · refine ⟨some ⟨g, 0, none⟩, cap, rfl, hn, hm, fun _ => ⟨_, rfl, hb, heap_lt hg, fun j u hu => ?_⟩⟩
    exact h.cells (g := g) rfl j _ (by rw [List.getElem?_map, hu]; rfl)

theorem take_succ_map (ts : List Int) {k : Nat} {v : Int} (hv : ts[k]? = some v) : (ts.map (Value.int .i64)).take k ++ [.int .i64 v] = (ts.map (Value.int .i64)).take (k + 1) := by
  rw [List.take_add_one, List.getElem?_map, hv]
  rfl

set_option maxRecDepth 100000 in
set_option maxHeartbeats 1000000 in
theorem scopeOf_yes (ts : List Int) (At : Option Addr) (ct : Nat) (w : World) (hty : typesB ts = true) (hT : IntsV w 0 w.heap.size ts At ct) :
    Calls Try.prog 98 #[.slice At ts.length ct] w (ScopePost w ts) := by
  have hl6 : ts.length ≤ 6 := by
    simp only [typesB, Bool.and_eq_true, decide_eq_true_eq] at hty
    exact hty.2
  obtain ⟨i0, hi, hz0, hz1, hz2⟩ := info_parts Try.infoVarType
  have HI := Lib.hid hi
  have HZ0 := Lib.hid hz0
  have HZ1 := Lib.hid hz1
  have HZ2 := Lib.hid hz2
  clear hi hz0 hz1 hz2
  have hnil := Lib.hid (World.ownsRow_nil w w.heap.size 140 1)
  have HTY := Lib.hid hty
  clear hty
  go_enter Try.func98, Try.ntmps98
  go_wp2_with fail
  go_loopw [4, 12] (fun v i wr => ∃ k : Nat, k ≤ ts.length ∧ i = .int .i64 k ∧ wr.ownsRow w.heap.size 140 1 v k ((ts.map (Value.int .i64)).take k) ∧ Below w.heap.size w wr) (fun _ i _ => ts.length - (intOf i).toNat)
  case atStart => exact ⟨0, Nat.zero_le _, rfl, hnil.out, Below.refl _ _⟩
  case round =>
    clear hnil
    obtain ⟨k, hk, rfl, hown, hb⟩ := hrel
    by_cases hlt : k < ts.length
    · obtain ⟨b, v, rfl, -, hbb, hx, hc⟩ := (hT.below hb hb.size).elem hlt
      obtain ⟨hv1, hv4⟩ := typesB_elem HTY.out hx
      have HX := Lib.hid hx
      have hbz := hb.size
      clear hx
      go_wp2_with (at_builtin; refine wpList_append_own _ rfl _ _ 121 rfl w.heap.size 140 i0 (.int .i64 0) 1 8 Try.underlying121 HI.out HZ0.out HZ1.out HZ2.out rfl (by decide) _ _ _ rfl (hown.alloc _) ⟨wr.heap.size, 0, none⟩ 1 1 [.int .i64 v] rfl rfl ?c1 ?c2 ?c3 ?c4 ?c5 ?_)
      case c1 =>
        intro j u hj
        cases j with
        | zero =>
          simp at hj
          subst hj
          exact (cell_of_block (heap_alloc_new _ _) 0).trans rfl
        | succ j => simp at hj
      case c2 =>
        intro u hu
        simp at hu
        subst hu
        rfl
      case c3 => unfold maxLen; omega
      case c4 => omega
      case c5 => simp; omega
      intro v' w' hown' hg hne
      have hb' := (hb.alloc hbz (.cells #[Value.int .i64 v] 140)).grown hg (by simp; omega) (fun g hg' => (hown.lt g hg').1)
      have hown2 := take_succ_map ts HX.out ▸ hown'
      clear hown' hg hown hb hne hbb hc hT HI HZ0 HZ1 HZ2
      go_wp2_with fail
      go_roundw
      case rel => exact ⟨k + 1, by omega, by go_num, hown2, hb'⟩
      case measure => simp [intOf]; omega
    · have hk' : k = ts.length := by omega
      subst hk'
      have hall : (ts.map (Value.int .i64)).take ts.length = ts.map (Value.int .i64) := List.take_of_length_le (by simp)
      rw [hall] at hown
      obtain ⟨A, c, rfl, hI⟩ := intsV_of_own hown
      clear hall hown
      go_wp2_with fail
      go_ret2
      exact ⟨A, c, rfl, hI, hb⟩

def NoScope (w : World) (E : Ending) (w' : World) : Prop := E = .returned (.tuple #[.slice none 0 0, .bool false]) ∧ Below w.heap.size w w'

set_option maxRecDepth 100000 in
set_option maxHeartbeats 1000000 in
theorem scopeOf_no (ts : List Int) (At : Option Addr) (ct : Nat) (w : World) (hty : typesB ts = false) (hT : IntsV w 0 w.heap.size ts At ct) :
    Calls Try.prog 98 #[.slice At ts.length ct] w (NoScope w) := by
  have hm := hT.2.1
  have hlc := hT.1
  unfold maxLen at hm
  have HTY := Lib.hid hty
  clear hty
  by_cases hl6 : ts.length ≤ 6
  · obtain ⟨i0, hi, hz0, hz1, hz2⟩ := info_parts Try.infoVarType
    have HI := Lib.hid hi
    have HZ0 := Lib.hid hz0
    have HZ1 := Lib.hid hz1
    have HZ2 := Lib.hid hz2
    clear hi hz0 hz1 hz2
    have hnil := Lib.hid (World.ownsRow_nil w w.heap.size 140 1)
    go_enter Try.func98, Try.ntmps98
    go_wp2_with fail
    go_loopw [4, 12] (fun v i wr => ∃ k : Nat, k ≤ ts.length ∧ i = .int .i64 k ∧ wr.ownsRow w.heap.size 140 1 v k ((ts.map (Value.int .i64)).take k) ∧ Below w.heap.size w wr ∧ Hid (∀ j v, j < k → ts[j]? = some v → 1 ≤ v ∧ v ≤ 4)) (fun _ i _ => ts.length - (intOf i).toNat)
    case atStart => exact ⟨0, Nat.zero_le _, rfl, hnil.out, Below.refl _ _, fun j v hj => absurd hj (by omega)⟩
    case round =>
      clear hnil
      obtain ⟨k, hk, rfl, hown, hb, hall⟩ := hrel
      by_cases hlt : k < ts.length
      · obtain ⟨b, v, rfl, -, hbb, hx, hc⟩ := (hT.below hb hb.size).elem hlt
        have HX := Lib.hid hx
        have hbz := hb.size
        clear hx
        by_cases hv : 1 ≤ v ∧ v ≤ 4
        · obtain ⟨hv1, hv4⟩ := hv
          go_wp2_with (at_builtin; refine wpList_append_own _ rfl _ _ 121 rfl w.heap.size 140 i0 (.int .i64 0) 1 8 Try.underlying121 HI.out HZ0.out HZ1.out HZ2.out rfl (by decide) _ _ _ rfl (hown.alloc _) ⟨wr.heap.size, 0, none⟩ 1 1 [.int .i64 v] rfl rfl ?c1 ?c2 ?c3 ?c4 ?c5 ?_)
          case c1 =>
            intro j u hj
            cases j with
            | zero =>
              simp at hj
              subst hj
              exact (cell_of_block (heap_alloc_new _ _) 0).trans rfl
            | succ j => simp at hj
          case c2 =>
            intro u hu
            simp at hu
            subst hu
            rfl
          case c3 => unfold maxLen; omega
          case c4 => omega
          case c5 => simp; omega
          intro v' w' hown' hg hne
          have hb' := (hb.alloc hbz (.cells #[Value.int .i64 v] 140)).grown hg (by simp; omega) (fun g hg' => (hown.lt g hg').1)
          have hown2 := take_succ_map ts HX.out ▸ hown'
          have hall2 : Hid (∀ j v, j < k + 1 → ts[j]? = some v → 1 ≤ v ∧ v ≤ 4) := by
            intro j u hj hu
            by_cases e : j = k
            · subst e
              rw [HX.out] at hu
              injection hu with hu
              omega
            · exact hall j u (by omega) hu
          clear hown' hg hown hb hne hbb hc hT HI HZ0 HZ1 HZ2 hall
          go_wp2_with fail
          go_roundw
          case rel => exact ⟨k + 1, by omega, by go_num, hown2, hb', hall2⟩
          case measure => simp [intOf]; omega
        · clear hown HI HZ0 HZ1 HZ2
          by_cases hv1 : v < 1
          · go_wp2_with fail
            go_ret2
            exact ⟨rfl, hb⟩
          · have hv4 : 4 < v := by omega
            go_wp2_with fail
            go_ret2
            exact ⟨rfl, hb⟩
      · exfalso
        have hk' : k = ts.length := by omega
        subst hk'
        have h1 : ts.all (fun t => decide (1 ≤ t ∧ t ≤ 4)) = true := by
          rw [List.all_eq_true]
          intro u hu
          obtain ⟨j, hj⟩ := List.getElem?_of_mem hu
          have := hall j u (List.getElem?_eq_some_iff.1 hj).1 hj
          simpa using this
        have h2 := HTY.out
        unfold typesB at h2
        rw [h1] at h2
        simp at h2
        omega
  · have hl7 : 6 < ts.length := by omega
    go_enter Try.func98, Try.ntmps98
    go_wp2_with fail
    go_ret2
    exact ⟨rfl, Below.refl _ _⟩

end Go.Proofs.Ytcpmodkplikmcaa
