/-
  The model's LastDominator.
-/
import Derived.Test.YtfkhgdbnjcdlmaaGreatDoorZDofS
import Derived.Test.YtfkhgdbnjcdlmaaGreatDoorZLdI
import Derived.Deep.RegionHeld3
import Derived.Deep.DeepCutAuto
import Derived.Deep.QuietTactic
namespace Go.Proofs.YtfkhgdbnjcdlmaaGreatDoor
open Go.RowKit Go.Deep
set_option linter.unusedVariables false

theorem RowI.ints12 {w : World} {B n c : Nat} {A : Option Addr} {xs : List Int} (h : RowI w B (.slice A n c) xs) : IntsV w 0 w.heap.size xs A c := by
  rcases h.2 with ⟨hv, h0⟩ | ⟨g, cap, cur, hv, h2, h3, h4, h5, h6, h7⟩
  · have : xs = [] := List.eq_nil_of_length_eq_zero h0
    subst this
    injection hv with e1 _ e2
    subst e1 e2
    exact ⟨by simp, by simp [maxLen], fun h => absurd h (by simp)⟩
  · injection hv with e1 _ e2
    subst e1 e2
    refine ⟨h4, h5, fun h0 => ⟨_, rfl, Nat.zero_le _, heap_lt h3, fun j u hj => ?_⟩⟩
    exact World.ownsRow.cells h (g := g) rfl j _ (by rw [List.getElem?_map, hj]; rfl)

/-- What is looked for: one that is not a, and that all others of the row dominate. -/
def SelP (nx : Nat → List Nat) (l : List Int) (a : Int) (c : Nat) : Prop := (c : Int) ≠ a ∧ ∀ (j : Nat) (x : Nat), l[j]? = some (x : Int) → (x : Int) = a ∨ DomP nx x c

theorem sel_fact {ts : List Int} {s : Sts} {a : Int} {l : List Int} (h : AnsDm (validB ts s) s a l) :
    (lastOk (validB ts s) s a = true ∧ ∃ par : Nat, lastI (validB ts s) s a = (par : Int) ∧ (par : Int) ∈ l ∧ SelP (nextN (progPts s)) l a par ∧ ∀ c : Nat, (c : Int) ∈ l → SelP (nextN (progPts s)) l a c → c = par) ∨
    (lastOk (validB ts s) s a = false ∧ lastI (validB ts s) s a = 0 ∧ ∀ c : Nat, (c : Int) ∈ l → ¬ SelP (nextN (progPts s)) l a c) := by
  have hA := progPts_asc s
  cases hk : lastOk (validB ts s) s a
  · refine .inr ⟨rfl, by unfold lastI; rw [hk]; rfl, fun c hc hs => ?_⟩
    obtain ⟨h1, h2, h3, k, hk2, hd⟩ := (h.mem _).mp hc
    have : a = 0 := by
      unfold lastOk at hk
      rw [h1, Bool.true_and] at hk
      have := of_decide_eq_false hk
      omega
    subst this
    have := hd.of_zero
    exact hs.1 (by omega)
  · have hk' := hk
    unfold lastOk at hk'
    simp only [Bool.and_eq_true, decide_eq_true_eq] at hk'
    obtain ⟨hv, h0, hn⟩ := hk'
    obtain ⟨b, rfl⟩ : ∃ b : Nat, a = (b : Int) := ⟨a.toNat, by omega⟩
    have hb : b < (progPts s).length := by omega
    have hp := parN_is (nx := nextN (progPts s)) hb (by omega)
    refine .inl ⟨rfl, parN (nextN (progPts s)) (progPts s).length b, by unfold lastI; rw [hk, Int.toNat_natCast]; rfl, ?_, ⟨by omega, fun j x hx => ?_⟩, fun c hc hs => ?_⟩
    · exact (h.mem _).mpr ⟨hv, by omega, hn, _, rfl, by rw [Int.toNat_natCast]; exact hp.2⟩
    · obtain ⟨_, _, _, k, hk2, hd⟩ := (h.mem _).mp (List.mem_of_getElem? hx)
      have e : k = x := by omega
      subst e
      rw [Int.toNat_natCast] at hd
      by_cases e : k = b
      · exact .inl (by omega)
      · exact .inr ((parN_dom hA hb (by omega) e).mp hd)
    · obtain ⟨_, _, _, k, hk2, hd⟩ := (h.mem _).mp hc
      have e : k = c := by omega
      subst e
      rw [Int.toNat_natCast] at hd
      have hmem : ((parN (nextN (progPts s)) (progPts s).length b : Nat) : Int) ∈ l := (h.mem _).mpr ⟨hv, by omega, hn, _, rfl, by rw [Int.toNat_natCast]; exact hp.2⟩
      obtain ⟨j, hj⟩ := List.getElem?_of_mem hmem
      have hkb : k ≠ b := fun e => hs.1 (by omega)
      have hle := hd.le hA hb
      rcases hs.2 j _ hj with h1 | h1
      · omega
      · have h2 := h1.le hA (by omega)
        have h3 := lastB_max (domB (nextN (progPts s)) b) (progPts s).length k (by omega) (domB_iff.mpr ⟨by omega, hd⟩)
        have h4 : lastB (domB (nextN (progPts s)) b) (progPts s).length = parN (nextN (progPts s)) (progPts s).length b := rfl
        omega

set_option maxRecDepth 100000 in
set_option maxHeartbeats 2000000 in
theorem specLastDominator_any (ts : List Int) (s : Sts) (At As : Option Addr) (ct cs : Nat) (a : Int) (w : World) (hsz : s.size ≤ 1048576) (hT : IntsV w 0 w.heap.size ts At ct) (hR : RepV w 0 w.heap.size s As cs) :
    Calls Tryz.prog 24 #[.agg #[.slice At ts.length ct, .slice As s.len cs], .int .i64 a] w fun E w' => E = .returned (.tuple #[.int .i64 (lastI (validB ts s) s a), .bool (lastOk (validB ts s) s a)]) ∧ Below w.heap.size w w' := by
  have hb0 := (Below.refl w.heap.size w).alloc (Nat.le_refl _) (.cells #[.slice At ts.length ct, .slice As s.len cs] 26)
  have hT1 : IntsV (w.alloc (.cells #[.slice At ts.length ct, .slice As s.len cs] 26)) 0 (w.alloc (.cells #[.slice At ts.length ct, .slice As s.len cs] 26)).heap.size ts At ct := hT.below hb0 (by simp)
  have hR1 : RepV (w.alloc (.cells #[.slice At ts.length ct, .slice As s.len cs] 26)) 0 (w.alloc (.cells #[.slice At ts.length ct, .slice As s.len cs] 26)).heap.size s As cs := hR.below hb0 (by simp)
  have hz0 : (w.alloc (.cells #[.slice At ts.length ct, .slice As s.len cs] 26)).heap.size = w.heap.size + 1 := by simp
  have hc0 : (w.alloc (.cells #[.slice At ts.length ct, .slice As s.len cs] 26)).heap[w.heap.size]? = _ := heap_alloc_new w _
  have HC := Lib.hid hc0
  have HZ := Lib.hid hz0
  have hS := specDominatorsOf_any ts s At As ct cs a _ hsz hT1 hR1
  clear hz0 hc0 hT1 hR1
  go_enter Tryz.func24, Tryz.ntmps24
  go_wp2_with fail
  refine hS.mono ?_
  rintro E w1 ⟨v, l, rfl, hrow, hans, hb1⟩
  rw [HZ.out] at hb1
  have hbw : Below w.heap.size w w1 := hb0.trans (hb1.mono (by omega))
  have hs1 := hbw.size
  have hb1' := hb1.block w.heap.size (by omega)
  rw [HC.out] at hb1'
  have d0 : w1.cell? ⟨w.heap.size, 0, none⟩ = some (.slice At ts.length ct) := (cell_of_block hb1' 0).trans rfl
  have d1 : w1.cell? ⟨w.heap.size, 1, none⟩ = some (.slice As s.len cs) := (cell_of_block hb1' 1).trans rfl
  have hP := specPointsOf_any ts s At As ct cs w1 hsz (hT.below hbw hs1) (hR.below hbw hs1)
  obtain ⟨n, hn⟩ : ∃ n, l.length = n := ⟨_, rfl⟩
  obtain ⟨Al, cl, hv⟩ : ∃ A c, v = .slice A n c := by
    obtain ⟨A, c, h⟩ := hrow.slice
    exact ⟨A, c, by rw [h, hn]⟩
  subst hv
  have HN := Lib.hid hn
  have h64 : n ≤ 64 := by rw [← hn]; exact hans.length
  have HI := Lib.hid hrow.ints12
  have HS := Lib.hid (sel_fact hans)
  have hmem : Hid (∀ v ∈ l, ∃ k : Nat, v = (k : Int) ∧ k < (progPts s).length ∧ validB ts s = true) := by
    intro v hv
    obtain ⟨h1, h2, h3, k, rfl, hd⟩ := (hans.mem v).mp hv
    have := hd.le (progPts_asc s) (b := a.toNat) (by omega)
    exact ⟨k, rfl, by omega, h1⟩
  clear hb1 hS hb1' hrow hans hn
  go_wp2_with fail
  refine hP.mono ?_
  rintro E w2 ⟨vp, rfl, hPR, hb2⟩
  have hbA := hbw.trans (hb2.mono hs1)
  have hsA := hbA.size
  have HI2 := Lib.hid (HI.out.below hb2 hb2.size)
  obtain ⟨Ap, cp, hvp⟩ := pRow_len12 hPR
  subst hvp
  have HP := Lib.hid hPR
  obtain ⟨m, hm⟩ : ∃ m, (pointsB (validB ts s) s).length = m := ⟨_, rfl⟩
  rw [hm]
  have HM := Lib.hid hm
  clear hP hPR hb2 d0 d1 HI hm
  -- any two of the row's numbers
  have HDM : Hid (∀ (x y : Nat) (W w' : World), Below w2.heap.size w2 W → Below W.heap.size W w' → (x : Int) ∈ l → (y : Int) ∈ l → Calls Tryz.prog 38 #[.slice Ap m cp, .int .i64 (x : Int), .int .i64 (y : Int)] w' fun E w'' => E = .returned (.bool (domAB (nextN (progPts s)) x y)) ∧ Below w'.heap.size w' w'') := by
    intro x y W w' hb hb' hx hy
    obtain ⟨k, e1, hk, hv⟩ := hmem.out _ hx
    obtain ⟨k2, e2, hk2, _⟩ := hmem.out _ hy
    have e1' : x = k := by omega
    have e2' : y = k2 := by omega
    subst e1' e2'
    have hpp : pointsB (validB ts s) s = progPts s := by simp [pointsB, hv]
    have hbb := hb.trans (hb'.mono hb.size)
    have hP2 := HP.out.below hbb
    have hm' := HM.out
    rw [hpp] at hP2 hm'
    obtain ⟨g, cap, hv2, hgB, hgl, -, -⟩ := hP2.form (by omega)
    injection hv2 with hv2 _ hv3
    subst hv2 hv3
    have := l12Dominates_any s.npts x y g cp _ (progPts s) w' (progPts_ok s (valid_ok hv).2.1) (progPts_61 hv) hk hk2 hgl hP2
    rw [hm'] at this
    exact this
  go_wp2_with fail
  go_loopw [8] (fun i wr => ∃ k : Nat, i = .int .i64 k ∧ k ≤ n ∧ Hid (∀ (j : Nat) (c : Nat), j < k → l[j]? = some (c : Int) → ¬ SelP (nextN (progPts s)) l a c) ∧ Below w2.heap.size w2 wr) (fun i _ => n - (intOf i).toNat)
  case atStart => exact ⟨0, rfl, Nat.zero_le _, fun j c h => by omega, Below.refl _ _⟩
  case round =>
    obtain ⟨i, rfl, hi, hno, hb⟩ := hrel
    have hbz := hb.size
    by_cases hlt : i < n
    · have hdi : decide ((i : Int) < (n : Int)) = true := decide_eq_true (by omega)
      obtain ⟨b, ci, hbA', -, hbl, hci, hcell⟩ := HI2.out.elem (k := i) (by rw [HN.out]; exact hlt)
      subst hbA'
      obtain ⟨c, rfl, -, -⟩ := hmem.out ci (List.mem_of_getElem? hci)
      have HCI := Lib.hid hci
      have hcr : wr.cell? (b.add i) = some (.int .i64 (c : Int)) := (hb.cell (by rw [block_add]; exact hbl)).trans hcell
      have f1 : IntKind.i64.wrap ((i : Int) + 1) = (i : Int) + 1 := IntWalk.i64_in _ (by omega)
      obtain ⟨b0, hb0'⟩ : ∃ b0, ((c : Int) != a) = b0 := ⟨_, rfl⟩
      have HST : Hid (b0 = true ↔ ((c : Int) ≠ a ∧ ∀ (j : Nat) (x : Nat), j < 0 → l[j]? = some (x : Int) → (x : Int) = a ∨ DomP (nextN (progPts s)) x c)) := by
        rw [← hb0']
        constructor
        · intro h
          exact ⟨by simpa using h, fun j x h => by omega⟩
        · rintro ⟨h, _⟩
          simpa using h
      clear hci hcell
      go_wp2_with fail
      try rw [hb0']
      clear hb0'
      obtain ⟨wo, rfl⟩ : ∃ z, z = wr := ⟨_, rfl⟩
      go_loopw [9, 10] (fun f i wr => ∃ (k : Nat) (bb : Bool), f = .bool bb ∧ i = .int .i64 k ∧ k ≤ n ∧ Hid (bb = true ↔ ((c : Int) ≠ a ∧ ∀ (j : Nat) (x : Nat), j < k → l[j]? = some (x : Int) → (x : Int) = a ∨ DomP (nextN (progPts s)) x c)) ∧ Below w2.heap.size w2 wr) (fun _ i _ => n - (intOf i).toNat)
      case atStart => exact ⟨0, b0, rfl, rfl, Nat.zero_le _, HST, hb⟩
      case round =>
        clear HST hcr
        obtain ⟨k, bb, rfl, rfl, hk, HBB, hbk⟩ := hrel
        have hzk := hbk.size
        have hcr : wr.cell? (b.add i) = some (.int .i64 (c : Int)) := by
          obtain ⟨b', v', e, -, hl', hx', hc'⟩ := HI2.out.elem (k := i) (by rw [HN.out]; exact hlt)
          injection e with e
          subst e
          rw [HCI.out] at hx'
          injection hx' with hx'
          subst hx'
          exact (hbk.cell (by rw [block_add]; exact hl')).trans hc'
        by_cases hkn : k < n ∧ bb = true
        · obtain ⟨hkl, rfl⟩ := hkn
          have hdk : decide ((k : Int) < (n : Int)) = true := decide_eq_true (by omega)
          have f2 : IntKind.i64.wrap ((k : Int) + 1) = (k : Int) + 1 := IntWalk.i64_in _ (by omega)
          obtain ⟨b', ck, e, -, hbl2, hck, hcell2⟩ := HI2.out.elem (k := k) (by rw [HN.out]; exact hkl)
          injection e with e
          subst e
          obtain ⟨x, rfl, -, -⟩ := hmem.out ck (List.mem_of_getElem? hck)
          have hckr : wr.cell? (b.add k) = some (.int .i64 (x : Int)) := (hbk.cell (by rw [block_add]; exact hbl2)).trans hcell2
          have HCK := Lib.hid hck
          clear hck hcell2
          have hnext : Hid (∀ b2 : Bool, (b2 = true ↔ ((x : Int) = a ∨ DomP (nextN (progPts s)) x c)) → (b2 = true ↔ ((c : Int) ≠ a ∧ ∀ (j : Nat) (x : Nat), j < k + 1 → l[j]? = some (x : Int) → (x : Int) = a ∨ DomP (nextN (progPts s)) x c))) := by
            intro b2 h2
            have h1 := HBB.out.mp rfl
            rw [h2]
            constructor
            · intro h
              refine ⟨h1.1, fun j y hj hy => ?_⟩
              by_cases e : j = k
              · subst e
                rw [HCK.out] at hy
                injection hy with hy
                have : x = y := by omega
                subst this
                exact h
              · exact h1.2 j y (by omega) hy
            · rintro ⟨_, h⟩
              exact h k x (by omega) HCK.out
          by_cases hxa : (x : Int) = a
          · have he : ((x : Int) == a) = true := by simp [hxa]
            have hd : decide ((x : Int) = a) = true := decide_eq_true hxa
            have hfin := Lib.hid (hnext.out true ⟨fun _ => .inl hxa, fun _ => rfl⟩)
            clear hnext hxa
            go_upto_region 10 with (fail)
            go_quiet (fail)
            generalize hwd : World.drewN wr _ = wd
            have hq : Below wr.heap.size wr wd := by rw [← hwd]; exact ⟨rfl, rfl, rfl, Nat.le_refl _, fun _ _ => rfl⟩
            have B9 := hbk.trans (hq.mono hzk)
            clear hwd
            go_wp2_with fail
            go_roundw
            case rel => exact ⟨k + 1, true, rfl, by go_num, by omega, hfin, B9⟩
            case measure => simp [intOf]; omega
          · have he : ((x : Int) == a) = false := by simp [hxa]
            have hd : decide ((x : Int) = a) = false := decide_eq_false hxa
            have hfin := Lib.hid (hnext.out (domAB (nextN (progPts s)) x c) ⟨fun h => .inr (domAB_iff.mp h), fun h => domAB_iff.mpr (h.resolve_left hxa)⟩)
            have HCD : Hid (∀ w', Below wr.heap.size wr w' → Calls Tryz.prog 38 #[.slice Ap m cp, .int .i64 (x : Int), .int .i64 (c : Int)] w' fun E w'' => E = .returned (.bool (domAB (nextN (progPts s)) x c)) ∧ Below w'.heap.size w' w'') := fun w' hb' => HDM.out x c wr w' hbk hb' (List.mem_of_getElem? HCK.out) (List.mem_of_getElem? HCI.out)
            have HSS : Hid (∀ w', Below wr.heap.size wr w' → (Below wr.heap.size wr w' ∧ w'.cell? (b.add k) = some (.int .i64 (x : Int)) ∧ w'.cell? (b.add i) = some (.int .i64 (c : Int)))) := fun w' hb' => ⟨hb', (hb'.cell (by rw [block_add]; omega)).trans hckr, (hb'.cell (by rw [block_add]; omega)).trans hcr⟩
            generalize domAB (nextN (progPts s)) x c = dv at hfin HCD
            clear hnext hxa
            go_upto_region 10 with (fail)
            go_region_held3 (fun w' => Below wr.heap.size wr w' ∧ w'.cell? (b.add k) = some (.int .i64 (x : Int)) ∧ w'.cell? (b.add i) = some (.int .i64 (c : Int)))
              (first | with_reducible exact HSS.out _ ((Below.refl wr.heap.size wr).drew) | with_reducible exact HSS.out _ (Below.refl wr.heap.size wr) | with_reducible exact HSS.out _ ((And.left ‹Below wr.heap.size wr _ ∧ _›).trans (hbn.mono (And.left ‹Below wr.heap.size wr _ ∧ _›).size)))
              (first
                | (go_at_call 38; (with_reducible refine (HCD.out _ (And.left ‹Below wr.heap.size wr _ ∧ _›)).mono ?_); rintro E w' ⟨rfl, hbn⟩)
                | fail)
            all_goals
              have hbl9 := And.left ‹Below wr.heap.size wr _ ∧ _›
              have B9 := hbk.trans (hbl9.mono hzk)
              go_wp2_with fail
              go_roundw
              case rel => exact ⟨k + 1, dv, rfl, by go_num, by omega, hfin, B9⟩
              case measure => simp [intOf]; omega
        · have hstop : (k < n ∧ bb = false) ∨ k = n := by
            cases bb
            · by_cases h : k < n
              · exact .inl ⟨h, rfl⟩
              · exact .inr (by omega)
            · exact .inr (by have : ¬ k < n := fun h => hkn ⟨h, rfl⟩; omega)
          have hnot : Hid (bb = false → ¬ SelP (nextN (progPts s)) l a c) := by
            intro h hs
            have := HBB.out.mpr ⟨hs.1, fun j x _ hx => hs.2 j x hx⟩
            rw [h] at this
            cases this
          have hyes : Hid (bb = true → SelP (nextN (progPts s)) l a c) := by
            intro h
            have h1 := HBB.out.mp h
            have hkn' : k = n := by
              rcases hstop with ⟨_, h2⟩ | h2
              · rw [h] at h2; cases h2
              · exact h2
            refine ⟨h1.1, fun j x hx => h1.2 j x ?_ hx⟩
            have := (List.getElem?_eq_some_iff.mp hx).1
            rw [HN.out] at this
            omega
          clear HBB hkn
          cases bb
          · have hno2 : Hid (∀ (j : Nat) (c : Nat), j < i + 1 → l[j]? = some (c : Int) → ¬ SelP (nextN (progPts s)) l a c) := by
              intro j y hj hy
              by_cases e : j = i
              · subst e
                rw [HCI.out] at hy
                injection hy with hy
                have : c = y := by omega
                subst this
                exact hnot.out rfl
              · exact hno.out j y (by omega) hy
            clear hnot hyes
            rcases hstop with ⟨h1, -⟩ | h1
            · have hdk : decide ((k : Int) < (n : Int)) = true := decide_eq_true (by omega)
              go_wp2_with fail
              refine ⟨⟨i + 1, by simp, by omega, hno2, hbk⟩, ?_⟩
              simp only [intOf]
              omega
            · have hdk : decide ((k : Int) < (n : Int)) = false := decide_eq_false (by omega)
              have hnk : ¬ k < n := by omega
              clear h1
              go_wp2_with fail
              refine ⟨⟨i + 1, by simp, by omega, hno2, hbk⟩, ?_⟩
              simp only [intOf]
              omega
          · have hsel := hyes.out rfl
            have hdk : decide ((k : Int) < (n : Int)) = false := decide_eq_false (by
              rcases hstop with ⟨_, h2⟩ | h2
              · cases h2
              · omega)
            have hnk : ¬ k < n := by
              rcases hstop with ⟨_, h2⟩ | h2
              · cases h2
              · omega
            obtain ⟨e1, e2⟩ : Hid (lastOk (validB ts s) s a = true) ∧ Hid (lastI (validB ts s) s a = (c : Int)) := by
              rcases HS.out with ⟨h1, par, h2, h3, h4, h5⟩ | ⟨h1, h2, h3⟩
              · refine ⟨h1, ?_⟩
                unfold Hid
                rw [h2, h5 c (List.mem_of_getElem? HCI.out) hsel]
              · exact absurd hsel (h3 c (List.mem_of_getElem? HCI.out))
            have HBF := Lib.hid (hbA.trans (hbk.mono hsA))
            clear hnot hyes hsel hstop
            go_wp2_with fail
            go_ret2
            rw [e1.out, e2.out]
            exact ⟨rfl, by first | exact HBF.out | exact HBF.out.drew⟩
    · have hdi : decide ((i : Int) < (n : Int)) = false := decide_eq_false (by omega)
      have hie : i = n := by omega
      obtain ⟨e1, e2⟩ : Hid (lastOk (validB ts s) s a = false) ∧ Hid (lastI (validB ts s) s a = 0) := by
        rcases HS.out with ⟨h1, par, h2, h3, h4, h5⟩ | ⟨h1, h2, h3⟩
        · obtain ⟨j, hj⟩ := List.getElem?_of_mem h3
          have hjl := (List.getElem?_eq_some_iff.mp hj).1
          rw [HN.out] at hjl
          exact absurd h4 (hno.out j par (by omega) hj)
        · exact ⟨h1, h2⟩
      have HBF := Lib.hid (hbA.trans (hb.mono hsA))
      subst hie
      go_wp2_with fail
      go_ret2
      rw [e1.out, e2.out]
      exact ⟨rfl, by first | exact HBF.out | exact HBF.out.drew⟩

end Go.Proofs.YtfkhgdbnjcdlmaaGreatDoor
