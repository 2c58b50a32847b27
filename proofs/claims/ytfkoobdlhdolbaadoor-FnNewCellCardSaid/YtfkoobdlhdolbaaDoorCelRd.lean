/-
  A stack that is read, by the model.
-/
import Derived.Test.YtfkoobdlhdolbaaDoorCelA
namespace Go.Proofs.YtfkoobdlhdolbaaDoor
open Go.RowKit Go.Deep
set_option linter.unusedVariables false

/-- What was kept up to a place. -/
def readUp (ts : List TagD) (k i : Nat) : List TagD := ts.take (k + 1) ++ ((ts.take i).drop (k + 1)).filter fun t => !t.u

theorem readUp_start (ts : List TagD) (k : Nat) : readUp ts k (k + 1) = ts.take (k + 1) := by
  unfold readUp
  rw [List.drop_eq_nil_of_le (by simp; omega)]
  simp

theorem readUp_end (ts : List TagD) (k : Nat) : readUp ts k ts.length = readT ts k := by
  unfold readUp readT
  rw [List.take_length]

theorem readUp_step {ts : List TagD} {k i : Nat} {t : TagD} (h : ts[i]? = some t) (hk : k < i) : readUp ts k (i + 1) = readUp ts k i ++ if t.u then [] else [t] := by
  unfold readUp
  have hi := (List.getElem?_eq_some_iff.1 h).1
  rw [take_snoc h, List.drop_append_of_le_length (by simp; omega), List.filter_append, List.append_assoc]
  cases hu : t.u <;> simp [hu]

theorem readUp_len (ts : List TagD) (k i : Nat) : (readUp ts k i).length ≤ 2 * ts.length := by
  unfold readUp
  have h1 := List.length_filter_le (fun t : TagD => !t.u) ((ts.take i).drop (k + 1))
  simp at h1 ⊢
  omega

theorem RdT.take {w : World} {A : Option Addr} {n c m : Nat} {ts : List TagD} (h : RdT w (.slice A n c) ts) (hm : m ≤ n) : RdT w (.slice A m c) (ts.take m) := by
  obtain ⟨hn, h1, h2⟩ := h.len
  refine ⟨A, c, by rw [List.length_take]; congr 1; omega, by rw [List.length_take]; omega, h2, fun h0 => ?_⟩
  rw [List.length_take] at h0
  obtain ⟨b, id, u, hb, hbb, _⟩ := h.elem (k := 0) (by omega)
  subst hb
  refine ⟨b, rfl, hbb, fun k d hd => ?_⟩
  have hkm : k < m := by
    have := (List.getElem?_eq_some_iff.1 hd).1
    simp at this
    omega
  rw [List.getElem?_take_of_lt hkm] at hd
  obtain ⟨b', id', u', hb', _, hd', c0, c1⟩ := h.elem (List.getElem?_eq_some_iff.1 hd).1
  injection hb' with hb'
  subst hb'
  rw [hd] at hd'
  injection hd' with hd'
  subst hd'
  exact ⟨c0, c1⟩

theorem tag_row {w : World} {H : Nat} (id : Int) (u : Bool) (hH : w.heap.size = H) : RdT (w.alloc (.cells #[.int .i64 id, .bool u] 35)) (.slice (some ⟨H, 0, none⟩) 1 1) [⟨id, u⟩] := by
  subst hH
  refine ⟨_, _, rfl, Nat.le_refl _, by simp [maxLen], fun _ => ⟨_, rfl, by simp, fun k d hd => ?_⟩⟩
  have hk : k = 0 := by
    have := (List.getElem?_eq_some_iff.1 hd).1
    simp at this
    exact this
  subst hk
  simp at hd
  subst hd
  rw [add_block]
  exact ⟨(cell_of_block (heap_alloc_new _ _) _).trans rfl, (cell_of_block (heap_alloc_new _ _) _).trans rfl⟩

theorem own_tag {w : World} {B H : Nat} (id : Int) (u : Bool) (hH : w.heap.size = H) (hB : B ≤ H) : RowT (w.alloc (.cells #[.int .i64 id, .bool u] 35)) B (.slice (some ⟨H, 0, none⟩) 1 1) [⟨id, u⟩] := by
  subst hH
  exact World.ownsRow_lit (base := B) (e := 35) (size := 2) w #[.int .i64 id, .bool u] 1 hB (by simp [maxLen]) rfl

set_option maxRecDepth 100000 in
set_option maxHeartbeats 4000000 in
theorem l6Read_any (ts : List TagD) (A : Option Addr) (q c k : Nat) (w : World) (h : RdT w (.slice A q c) ts) (hk : k < q) (hl : q ≤ 1000) :
    Calls Tryd.prog 47 #[.slice A q c, .int .i64 (k : Int)] w fun E w' => ∃ v, E = .returned v ∧ RowT w' w.heap.size v (readT ts k) ∧ Below w.heap.size w w' := by
  obtain ⟨hq, hc1, hc2⟩ := h.len
  unfold maxLen at hc2
  have HN := Lib.hid hq
  have H := Lib.hid h
  clear hq h
  have hz1 : ∀ cs : Array Value, Below w.heap.size w (w.alloc (.cells cs 35)) := fun cs => (Below.refl _ _).alloc (Nat.le_refl _) _
  have HZ1 := Lib.hid hz1
  clear hz1
  go_enter Tryd.func47, Tryd.ntmps47
  go_wp2_with (at_builtin; refine wpList_append_tags rfl _ _ rfl rfl w.heap.size (.slice (some ⟨w.heap.size, 0, none⟩) 0 0) [] (.slice A (k + 1) c) (ts.take (k + 1)) rfl rfl ?rown ?rrd ?rl ?rB ?_)
  case rown => exact own_empty rfl (Nat.le_refl _)
  case rrd => exact (H.out.take (by omega)).below (HZ1.out _)
  case rl => simp; omega
  case rB => simp
  intro v1 w1 hR1 hg1 hv1
  try rw [List.nil_append] at hR1
  have hb1 : Below w.heap.size w w1 := (HZ1.out #[]).grown hg1 (by simp) (fun g hg => by simp [Value.ownBlock] at hg; omega)
  have HR1 : Hid (RowT w1 w.heap.size v1 (readUp ts k (k + 1))) := by rw [readUp_start]; exact hR1
  clear hR1 hg1 hv1
  go_wp2_with fail
  go_loopw [5, 6] (fun o z wr => ∃ i : Nat, z = .int .i64 i ∧ k + 1 ≤ i ∧ i ≤ q ∧ Hid (RowT wr w.heap.size o (readUp ts k i)) ∧ Below w.heap.size w wr) (fun _ z _ => q - (intOf z).toNat)
  case atStart => exact ⟨k + 1, by first | rfl | go_num, Nat.le_refl _, by omega, HR1, hb1⟩
  case round =>
    clear HR1 hb1
    obtain ⟨i, rfl, hki, hiq, HR, hb⟩ := hrel
    have hbz := hb.size
    by_cases hlt : i < q
    · obtain ⟨b, id, u, rfl, hbb, hd, a0, a1⟩ := (H.out.below hb).elem (k := i) (by rw [← HN.out]; exact hlt)
      have hst := readUp_step hd (k := k) (by omega)
      have hln := readUp_len ts k i
      have hn2 := HN.out
      have hln2 : (readUp ts k i).length ≤ 2000 := by omega
      clear hd hln hn2
      cases u with
      | true =>
        simp only [if_true, List.append_nil] at hst
        have HS := Lib.hid hst
        clear hst
        go_wp2_with fail
        refine ⟨⟨i + 1, by simp, by omega, by omega, by rw [HS.out]; exact HR, hb⟩, ?_⟩
        simp only [intOf]
        omega
      | false =>
        simp only [Bool.false_eq_true, if_false] at hst
        have HS := Lib.hid hst
        clear hst
        obtain ⟨Ao, co, hvo, -, -, -⟩ := own_form HR.out
        obtain ⟨L, hL⟩ : ∃ L, L = (readUp ts k i).length := ⟨_, rfl⟩
        rw [← hL] at hvo hln2
        subst hvo
        have HLn := Lib.hid hL
        clear hL
        go_wp2_with (at_builtin; refine wpList_append_tags rfl _ _ rfl rfl w.heap.size (.slice Ao L co) (readUp ts k i) (.slice (some ⟨wr.heap.size, 0, none⟩) 1 1) [⟨id, false⟩] rfl rfl ?sown ?srd ?sl ?sB ?_)
        case sown => exact own_below HR.out ((Below.refl _ _).alloc (Nat.le_refl _) _)
        case srd => exact tag_row id false rfl
        case sl => rw [← HLn.out]; simp; omega
        case sB => simp; omega
        intro v2 w2 hR2 hg2 hv2
        have hb2 : Below w.heap.size w w2 := (hb.alloc hbz (.cells #[.int .i64 id, .bool false] 35)).grown hg2 (by simp; omega) (fun g hg => (World.ownsRow.lt HR.out g hg).1)
        have HR2 := Lib.hid hR2
        clear hR2 hg2 hv2
        go_wp2_with fail
        refine ⟨⟨i + 1, by simp, by omega, by omega, by rw [HS.out]; exact HR2, hb2⟩, ?_⟩
        simp only [intOf]
        omega
    · have hke : i = q := by omega
      subst hke
      have HF : Hid (readUp ts k i = readT ts k) := by
        show readUp ts k i = readT ts k
        rw [HN.out, readUp_end]
      go_wp2_with fail
      go_ret
      exact ⟨_, rfl, by rw [← HF.out]; exact HR.out, hb⟩

end Go.Proofs.YtfkoobdlhdolbaaDoor
