/-
  The model's RunPath.
-/
import Derived.Test.YtlddoookojjleaaZL2Xb
import Derived.Test.YtlddoookojjleaaZRunC
import Derived.Test.YtlddoookojjleaaZCC0
namespace Go.Proofs.Ytlddoookojjleaa
open Go.RowKit Go.Deep
set_option linter.unusedVariables false

theorem tmod_two (z : Int) : z.tmod 2 = 0 ↔ z % 2 = 0 := ⟨fun h => Int.emod_eq_zero_of_dvd (Int.dvd_of_tmod_eq_zero h), fun h => Int.tmod_eq_zero_of_dvd (Int.dvd_of_emod_eq_zero h)⟩

def lenV : Value → Nat
  | .slice _ n _ => n
  | _ => 0

theorem onto_of {w w' : World} {v : Value} {g n cap : Nat} (hg : w.grownBy w' v.ownBlock) (hat : v.ownBlock = some g ∨ g = w.heap.size) : Onto w w' v (.slice (some ⟨g, 0, none⟩) n cap) := by
  refine ⟨hg, ?_⟩
  rcases hat with h | h
  · exact .inl h.symm
  · refine .inr fun k hk => ?_
    have hk' : g = k := by simpa [Value.ownBlock] using hk
    omega

/-- A row of points stays where another row is lengthened that lies below it, or in new memory. -/
theorem PRow.onto {w w' : World} {B : Nat} {v x y : Value} {ns : List Nd} (h : PRow w B v ns) (hO : Onto w w' x y) (hx : ∀ g, x.ownBlock = some g → g < B) : PRow w' B v ns := by
  obtain ⟨xs, ho, hc⟩ := h
  have hb : ∀ k, B ≤ k → k < w.heap.size → w'.heap[k]? = w.heap[k]? := fun k hk hl => hO.1.block k hl (fun e => by have := hx k e.symm; omega)
  refine ⟨xs, ⟨ho.1, ?_⟩, fun k d hd => ?_⟩
  · rcases ho.2 with h | ⟨g, cap, cur, h1, h2, h3, h4⟩
    · exact .inl h
    · exact .inr ⟨g, cap, cur, h1, h2, (hb g h2 (heap_lt h3)).trans h3, h4⟩
  · obtain ⟨u, h5, hn⟩ := hc k d hd
    refine ⟨u, h5, ?_⟩
    rcases hn with hn | ⟨g, e1, e2, e3⟩
    · exact .inl hn
    · exact .inr ⟨g, e1, e2, (hb g e2 (heap_lt e3)).trans e3⟩

theorem Onto.belowI {w w' : World} {B : Nat} {v v' : Value} (h : Onto w w' v v') (hB : B ≤ w.heap.size) (hv : ∀ g, v.ownBlock = some g → B ≤ g) : Below B w w' :=
  ⟨h.1.os, h.1.tape, h.1.output, h.1.size, fun k hk => h.1.block k (by omega) fun e => by have := hv k e.symm; omega⟩

/-- The next points of a point that has some, as they lie in memory. -/
theorem NextV.cells {w : World} {B : Nat} {u : Value} {next : List Int} (h : NextV w B u next) (h0 : 0 < next.length) : ∃ g, u = .slice (some ⟨g, 0, none⟩) next.length next.length ∧ ∀ j v, next[j]? = some v → w.cell? ⟨g, j, none⟩ = some (.int .i64 v) := by
  rcases h with ⟨h1, _⟩ | ⟨g, h1, _, h3⟩
  · subst h1
    simp at h0
  · refine ⟨g, h1, fun j v hj => ?_⟩
    rw [cell_of_block h3]
    simp [hj]

set_option maxRecDepth 100000 in
set_option maxHeartbeats 4000000 in
theorem specRun_loop (ts : List Int) (s : Sts) (At As : Option Addr) (ct cs : Nat) (xs : List Int) (A : Option Addr) (c m : Nat) (w : World) (hsz : s.size ≤ 1048576) (h1 : validB ts s = true) (hm3 : m ≤ 1000) (hT : IntsV w 0 w.heap.size ts At ct) (hR : RepV w 0 w.heap.size s As cs) (hX : IntsV w 0 w.heap.size xs A c) :
    Calls Try.prog 25 #[.agg #[.slice At ts.length ct, .slice As s.len cs], .slice A xs.length c, .int .i64 (m : Int)] w fun E w' => ∃ v, E = .returned (.tuple #[v, .bool (runP (progPts s) m 0 xs).2]) ∧ RowI w' w.heap.size v (runP (progPts s) m 0 xs).1 ∧ Below w.heap.size w w' := by
  have hb0 := (((Below.refl w.heap.size w).alloc (Nat.le_refl _) (.cells #[.slice At ts.length ct, .slice As s.len cs] 31)).alloc (by simp) (.cells #[] 3))
  have hT1 := hT.below hb0 (by simp; omega : w.heap.size ≤ ((w.alloc (.cells #[.slice At ts.length ct, .slice As s.len cs] 31)).alloc (.cells #[] 3)).heap.size)
  have hR1 := hR.below hb0 (by simp; omega : w.heap.size ≤ ((w.alloc (.cells #[.slice At ts.length ct, .slice As s.len cs] 31)).alloc (.cells #[] 3)).heap.size)
  have hz0 : ((w.alloc (.cells #[.slice At ts.length ct, .slice As s.len cs] 31)).alloc (.cells #[] 3)).heap.size = w.heap.size + 2 := by simp
  have hc0 : (w.alloc (.cells #[.slice At ts.length ct, .slice As s.len cs] 31)).heap[w.heap.size]? = _ := heap_alloc_new w _
  obtain ⟨hty, hok, h30⟩ := valid_ok h1
  have HD := Lib.hid (progPts_ok s hok)
  have hS := specPointsOf_any ts s At As ct cs _ hsz hT1 hR1
  have e0 : pointsB (validB ts s) s = progPts s := by simp [pointsB, h1]
  rw [e0] at hS
  generalize progPts s = ds at hS HD ⊢
  generalize s.npts = q at HD
  obtain ⟨all, hall⟩ : ∃ all, all = runP ds m 0 xs := ⟨_, rfl⟩
  have hst : Hid (RunAt ds all [] (m - 0) 0 (xs.drop 0)) := by unfold Hid RunAt; rw [hall]; rfl
  rw [← hall]
  obtain ⟨i0, hi, hzz0, hzz1, hzz2⟩ := info_parts Try.infoInt
  have HI := Lib.hid hi
  have HZ0 := Lib.hid hzz0
  have HZ1 := Lib.hid hzz1
  have HZ2 := Lib.hid hzz2
  have HZ := Lib.hid hz0
  have hrow0 : RowI ((w.alloc (.cells #[.slice At ts.length ct, .slice As s.len cs] 31)).alloc (.cells #[] 3)) w.heap.size (.slice (some ⟨w.heap.size + 1, 0, none⟩) 0 0) [] := by
    have := World.ownsRow_lit (base := w.heap.size) (e := 3) (size := 1) (w.alloc (.cells #[.slice At ts.length ct, .slice As s.len cs] 31)) #[] 0 (by simp) (by simp [maxLen]) rfl
    have hz : (w.alloc (.cells #[.slice At ts.length ct, .slice As s.len cs] 31)).heap.size = w.heap.size + 1 := by simp
    rw [hz] at this
    exact this
  have HROW0 := Lib.hid hrow0
  have hXl := hX.1
  have hXm := hX.2.1
  unfold maxLen at hXm
  have HX := Lib.hid hX
  clear hi hzz0 hzz1 hzz2 hall e0 h1 hty hok hz0 hrow0 hX hT1 hR1
  go_enter Try.func25, Try.ntmps25
  go_wp2_with fail
  refine hS.mono ?_
  rintro E w1 ⟨v, rfl, hP, hb1⟩
  rw [HZ.out] at hP hb1
  have hs1 := hb1.size
  rw [HZ.out] at hs1
  have hbw : Below w.heap.size w w1 := hb0.trans (hb1.mono (by omega))
  have HN : Hid (ds.length = q + 1) := HD.out.1
  obtain ⟨g, cap, hv, hgB, hgl⟩ := hP.named HN (by omega)
  subst hv
  have HP := Lib.hid hP
  have HR0 : Hid (RowI w1 w.heap.size (.slice (some ⟨w.heap.size + 1, 0, none⟩) 0 0) []) := HROW0.out.below (by rw [HZ.out]; exact hb1)
  clear hP hb1 hS HROW0
  have hq1 : ((q : Int) + 1 == 0) = false := by simp; omega
  have hd1 : decide ((m : Int) < 0) = false := decide_eq_false (by omega)
  have hd2 : decide ((1000 : Int) < m) = false := decide_eq_false (by omega)
  go_wp2_with fail
  clear hq1 hd1 hd2
  have hgB2 : w.heap.size + 2 ≤ g := hgB
  have HOWN0 : Hid (∀ k, (Value.slice (some ⟨w.heap.size + 1, 0, none⟩) 0 0).ownBlock = some k → k = w.heap.size + 1) := by
    intro k hk
    have : w.heap.size + 1 = k := by simpa [Value.ownBlock] using hk
    exact this.symm
  go_loopw [8, 10, 11] (fun o at_ us wr => ∃ (a used : Nat) (cur : List Int), at_ = .int .i64 a ∧ a ≤ q ∧ us = .int .i64 used ∧ used ≤ cur.length ∧ cur.length ≤ m ∧ lenV o = cur.length ∧ Hid (RowI wr w.heap.size o cur) ∧ Hid (RunAt ds all cur (m - cur.length) a (xs.drop used)) ∧ Onto w1 wr (.slice (some ⟨w.heap.size + 1, 0, none⟩) 0 0) o) (fun o _ _ _ => m - lenV o)
  case atStart => exact ⟨0, 0, [], rfl, Nat.zero_le _, rfl, Nat.le_refl _, Nat.zero_le _, rfl, HR0, hst, Onto.refl _ _⟩
  case round =>
    clear hst HR0
    obtain ⟨a, used, cur, rfl, haq, rfl, hus, hcm, hlv, hrow, hrun, hO⟩ := hrel
    obtain ⟨Ao, co, ho⟩ := hrow.out.slice
    subst ho
    have hzr := hO.size
    have hHP := Lib.hid (HP.out.onto hO (fun k hk => by have := HOWN0.out k hk; omega))
    have hbr : Below w.heap.size w1 wr := hO.belowI (by omega) (fun k hk => by have := HOWN0.out k hk; omega)
    have hbW := hbw.trans hbr
    have hzw : w.heap.size ≤ wr.heap.size := by omega
    by_cases hend : a = q
    · subst hend
      have hn0 : nextP ds a = [] := by rw [nextP_some HD.out.2.1]
      have hall := Lib.hid (hrun.out.last hn0)
      obtain ⟨u, ⟨h0, -, -, -, -⟩, -⟩ := hHP.out.cells_at HN HD.out.2.1
      have hlt1 : a < a + 1 := by omega
      clear hrun hn0
      go_wp2_with (at_builtin; refine wpList_append_lies _ rfl _ _ 22 rfl w.heap.size 3 i0 (.int .i64 0) 1 8 Try.underlying22 HI.out HZ0.out HZ1.out HZ2.out rfl (by decide) _ _ _ rfl ((RowI.own hrow.out).alloc _) ⟨_, 0, none⟩ 1 1 [.int .i64 (a : Int)] rfl rfl ?sa1 ?sa2 (by decide) ?sa3 ?sa4 ?sa5 _ rfl ?_)
      try (case sa1 => exact news1 (by simp) rfl)
      try (case sa2 => rfl)
      try (case sa2 => intro u hu; simp only [List.mem_cons, List.not_mem_nil, or_false] at hu; subst hu; rfl)
      try (case sa3 => unfold maxLen; omega)
      try (case sa4 => omega)
      try (case sa5 => first | omega | (simp; omega) | (simp only [World.heap_size_alloc]; omega) | (have := hzw; simp; exact Nat.le_succ_of_le this))
      intro g2 cap2 w' hown' hg hat hlt'
      have hbA := (Below.refl wr.heap.size wr).alloc (Nat.le_refl _) (.cells #[Value.int .i64 (a : Int)] 3)
      have hO2 := (Onto.of_below hbA (Value.slice Ao cur.length co)).trans (onto_of (n := cur.length + 1) (cap := cap2) hg (hat.imp id fun e => e.trans (by simp)))
      have HO' := Lib.hid (hO.trans hO2)
      have HR' : Hid (RowI w' w.heap.size (.slice (some ⟨g2, 0, none⟩) (cur.length + 1) cap2) (cur ++ [(a : Int)])) := RowI.snoc hown'
      clear hown' hg hat hbA hO2
      have hb' : Below w.heap.size w w' := hbw.trans (HO'.out.belowI (by omega) (fun k hk => by have := HOWN0.out k hk; omega))
      go_wp2_with fail
      go_ret2
      exact ⟨_, by rw [hall.out]; rfl, by rw [hall.out]; exact HR'.out, hb'⟩
    · obtain ⟨d, hd, hN⟩ := HD.out.2.2 a (by omega)
      have hnx : nextP ds a = d.next := nextP_some hd
      have hne0 : nextP ds a ≠ [] := by
        rw [hnx]
        intro e
        have := hN.one
        rw [e] at this
        simp at this
      obtain ⟨u, ⟨h0, -, -, -, -⟩, -⟩ := hHP.out.cells_at HN hd
      have h11 : (d.op == 11) = false := by simpa using hN.op
      have hlt1 : a < q + 1 := by omega
      by_cases hfull : cur.length = m
      · have hall : Hid (all = (cur, false)) := by
          have := hrun.out
          rw [hfull, Nat.sub_self] at this
          exact this.stop hne0
        have hcm2 : ((cur.length : Int) == m) = true := by simp; omega
        clear hrun hne0 hnx hN hd hfull
        go_wp2_with fail
        go_ret2
        exact ⟨_, by rw [hall.out]; rfl, by rw [hall.out]; exact hrow.out, hbW⟩
      · have hcm2 : ((cur.length : Int) == m) = false := by simp; omega
        have hmk : m - cur.length = (m - (cur.length + 1)) + 1 := by omega
        have hcl1 : cur.length + 1 ≤ m := by omega
        have hrun2 : Hid (RunAt ds all cur ((m - (cur.length + 1)) + 1) a (xs.drop used)) := by unfold Hid; rw [← hmk]; exact hrun.out
        rcases list12 hN.one hN.two with ⟨p, hp⟩ | ⟨p, r, hp⟩
        · have hpr := hN.le p (by rw [hp]; simp)
          obtain ⟨p', hp'⟩ : ∃ p' : Nat, p = (p' : Int) := ⟨p.toNat, by omega⟩
          subst hp'
          have hpq : p' ≤ q := by omega
          have hstep := Lib.hid (hrun2.out.step hne0 (k' := p') (ch' := xs.drop used) (by rw [hnx, hp]; rfl))
          have HD' := Lib.hid (And.intro hd hp)
          clear hrun hrun2 hne0 hnx hN hd hp hpr hmk hfull
          go_wp2_with (at_builtin; refine wpList_append_lies _ rfl _ _ 22 rfl w.heap.size 3 i0 (.int .i64 0) 1 8 Try.underlying22 HI.out HZ0.out HZ1.out HZ2.out rfl (by decide) _ _ _ rfl ((RowI.own hrow.out).alloc _) ⟨_, 0, none⟩ 1 1 [.int .i64 (a : Int)] rfl rfl ?sb1 ?sb2 (by decide) ?sb3 ?sb4 ?sb5 _ rfl ?_)
          try (case sb1 => exact news1 (by simp) rfl)
          try (case sb2 => rfl)
          try (case sb2 => intro u hu; simp only [List.mem_cons, List.not_mem_nil, or_false] at hu; subst hu; rfl)
          try (case sb3 => unfold maxLen; omega)
          try (case sb4 => omega)
          try (case sb5 => first | omega | (simp; omega) | (simp only [World.heap_size_alloc]; omega) | (have := hzw; simp; exact Nat.le_succ_of_le this))
          intro g2 cap2 w' hown' hg hat hlt'
          have hbA := (Below.refl wr.heap.size wr).alloc (Nat.le_refl _) (.cells #[Value.int .i64 (a : Int)] 3)
          have hO2 := (Onto.of_below hbA (Value.slice Ao cur.length co)).trans (onto_of (n := cur.length + 1) (cap := cap2) hg (hat.imp id fun e => e.trans (by simp)))
          have HO' := Lib.hid (hO.trans hO2)
          have HR' : Hid (RowI w' w.heap.size (.slice (some ⟨g2, 0, none⟩) (cur.length + 1) cap2) (cur ++ [(a : Int)])) := RowI.snoc hown'
          clear hown' hg hat hbA hO2
          have hHP' := HP.out.onto HO'.out (fun k hk => by have := HOWN0.out k hk; omega)
          obtain ⟨u', ⟨-, -, -, -, hu4⟩, hnv⟩ := hHP'.cells_at HN HD'.out.1
          rw [HD'.out.2] at hnv
          obtain ⟨gn, hun, hcn⟩ := hnv.cells (by simp)
          have hun' : u' = .slice (some ⟨gn, 0, none⟩) 1 1 := hun
          subst hun'
          have hv0 : w'.cell? ⟨gn, 0, none⟩ = some (.int .i64 (p' : Int)) := hcn 0 _ rfl
          clear hcn hun hnv hHP'
          go_wp2_with fail
          go_roundw
          case rel => exact ⟨p', used, cur ++ [(a : Int)], rfl, hpq, rfl, by simp; omega, by simp; omega, by simp [lenV], HR', by unfold Hid; rw [List.length_append]; exact hstep.out, HO'.out⟩
          case measure => simp [lenV]; omega
        · have hpr := hN.le p (by rw [hp]; simp)
          have hrr := hN.le r (by rw [hp]; simp)
          obtain ⟨p', hp'⟩ : ∃ p' : Nat, p = (p' : Int) := ⟨p.toNat, by omega⟩
          subst hp'
          obtain ⟨r', hr'⟩ : ∃ r' : Nat, r = (r' : Int) := ⟨r.toNat, by omega⟩
          subst hr'
          have hpq : p' ≤ q := by omega
          have hrq : r' ≤ q := by omega
          have HD' := Lib.hid (And.intro hd hp)
          by_cases hul : used < xs.length
          · obtain ⟨b, z, hA, -, hbl, hxz, hcz⟩ := HX.out.elem hul
            subst hA
            have hdrop : xs.drop used = z :: xs.drop (used + 1) := by
              rw [List.drop_eq_getElem_cons hul]
              rw [List.getElem?_eq_getElem hul] at hxz
              injection hxz with hxz
              rw [hxz]
            rcases Int.emod_two_eq z with hz2 | hz2
            · have hstep := Lib.hid (hrun2.out.step hne0 (k' := p') (ch' := xs.drop (used + 1)) (by rw [hnx, hp, hdrop]; simp [stepP, hz2]))
              have hrm : (z.tmod 2 == 0) = true := by rw [beq_iff_eq]; exact (tmod_two z).2 hz2
              clear hrun hrun2 hne0 hnx hN hd hp hpr hrr hmk hfull hdrop hz2 hxz
              go_wp2_with (at_builtin; refine wpList_append_lies _ rfl _ _ 22 rfl w.heap.size 3 i0 (.int .i64 0) 1 8 Try.underlying22 HI.out HZ0.out HZ1.out HZ2.out rfl (by decide) _ _ _ rfl ((RowI.own hrow.out).alloc _) ⟨_, 0, none⟩ 1 1 [.int .i64 (a : Int)] rfl rfl ?sc1 ?sc2 (by decide) ?sc3 ?sc4 ?sc5 _ rfl ?_)
              try (case sc1 => exact news1 (by simp) rfl)
              try (case sc2 => rfl)
              try (case sc2 => intro u hu; simp only [List.mem_cons, List.not_mem_nil, or_false] at hu; subst hu; rfl)
              try (case sc3 => unfold maxLen; omega)
              try (case sc4 => omega)
              try (case sc5 => first | omega | (simp; omega) | (simp only [World.heap_size_alloc]; omega) | (have := hzw; simp; exact Nat.le_succ_of_le this))
              intro g2 cap2 w' hown' hg hat hlt'
              have hbA := (Below.refl wr.heap.size wr).alloc (Nat.le_refl _) (.cells #[Value.int .i64 (a : Int)] 3)
              have hO2 := (Onto.of_below hbA (Value.slice Ao cur.length co)).trans (onto_of (n := cur.length + 1) (cap := cap2) hg (hat.imp id fun e => e.trans (by simp)))
              have HO' := Lib.hid (hO.trans hO2)
              have HR' : Hid (RowI w' w.heap.size (.slice (some ⟨g2, 0, none⟩) (cur.length + 1) cap2) (cur ++ [(a : Int)])) := RowI.snoc hown'
              clear hown' hg hat hbA hO2
              have hHP' := HP.out.onto HO'.out (fun k hk => by have := HOWN0.out k hk; omega)
              have hb' : Below w.heap.size w w' := hbw.trans (HO'.out.belowI (by omega) (fun k hk => by have := HOWN0.out k hk; omega))
              obtain ⟨u', ⟨-, -, -, -, hu4⟩, hnv⟩ := hHP'.cells_at HN HD'.out.1
              rw [HD'.out.2] at hnv
              obtain ⟨gn, hun, hcn⟩ := hnv.cells (by simp)
              have hun' : u' = .slice (some ⟨gn, 0, none⟩) 2 2 := hun
              subst hun'
              have hv0 : w'.cell? ⟨gn, 0, none⟩ = some (.int .i64 (p' : Int)) := hcn 0 _ rfl
              have hcz' : w'.cell? (b.add used) = some (.int .i64 z) := (hb'.cell (by rw [block_add]; exact hbl)).trans hcz
              clear hcn hun hnv hHP'
              go_wp2_with fail
              go_roundw
              case rel => exact ⟨p', used + 1, cur ++ [(a : Int)], rfl, hpq, by go_num, by simp; omega, by simp; omega, by simp [lenV], HR', by unfold Hid; rw [List.length_append]; exact hstep.out, HO'.out⟩
              case measure => simp [lenV]; omega
            · have hstep := Lib.hid (hrun2.out.step hne0 (k' := r') (ch' := xs.drop (used + 1)) (by rw [hnx, hp, hdrop]; simp [stepP, hz2]))
              have hrm : (z.tmod 2 == 0) = false := by
                rw [beq_eq_false_iff_ne]
                intro e
                have := (tmod_two z).1 e
                omega
              clear hrun hrun2 hne0 hnx hN hd hp hpr hrr hmk hfull hdrop hz2 hxz
              go_wp2_with (at_builtin; refine wpList_append_lies _ rfl _ _ 22 rfl w.heap.size 3 i0 (.int .i64 0) 1 8 Try.underlying22 HI.out HZ0.out HZ1.out HZ2.out rfl (by decide) _ _ _ rfl ((RowI.own hrow.out).alloc _) ⟨_, 0, none⟩ 1 1 [.int .i64 (a : Int)] rfl rfl ?sd1 ?sd2 (by decide) ?sd3 ?sd4 ?sd5 _ rfl ?_)
              try (case sd1 => exact news1 (by simp) rfl)
              try (case sd2 => rfl)
              try (case sd2 => intro u hu; simp only [List.mem_cons, List.not_mem_nil, or_false] at hu; subst hu; rfl)
              try (case sd3 => unfold maxLen; omega)
              try (case sd4 => omega)
              try (case sd5 => first | omega | (simp; omega) | (simp only [World.heap_size_alloc]; omega) | (have := hzw; simp; exact Nat.le_succ_of_le this))
              intro g2 cap2 w' hown' hg hat hlt'
              have hbA := (Below.refl wr.heap.size wr).alloc (Nat.le_refl _) (.cells #[Value.int .i64 (a : Int)] 3)
              have hO2 := (Onto.of_below hbA (Value.slice Ao cur.length co)).trans (onto_of (n := cur.length + 1) (cap := cap2) hg (hat.imp id fun e => e.trans (by simp)))
              have HO' := Lib.hid (hO.trans hO2)
              have HR' : Hid (RowI w' w.heap.size (.slice (some ⟨g2, 0, none⟩) (cur.length + 1) cap2) (cur ++ [(a : Int)])) := RowI.snoc hown'
              clear hown' hg hat hbA hO2
              have hHP' := HP.out.onto HO'.out (fun k hk => by have := HOWN0.out k hk; omega)
              have hb' : Below w.heap.size w w' := hbw.trans (HO'.out.belowI (by omega) (fun k hk => by have := HOWN0.out k hk; omega))
              obtain ⟨u', ⟨-, -, -, -, hu4⟩, hnv⟩ := hHP'.cells_at HN HD'.out.1
              rw [HD'.out.2] at hnv
              obtain ⟨gn, hun, hcn⟩ := hnv.cells (by simp)
              have hun' : u' = .slice (some ⟨gn, 0, none⟩) 2 2 := hun
              subst hun'
              have hv0 : w'.cell? ⟨gn, 1, none⟩ = some (.int .i64 (r' : Int)) := hcn 1 _ rfl
              have hcz' : w'.cell? (b.add used) = some (.int .i64 z) := (hb'.cell (by rw [block_add]; exact hbl)).trans hcz
              clear hcn hun hnv hHP'
              go_wp2_with fail
              go_roundw
              case rel => exact ⟨r', used + 1, cur ++ [(a : Int)], rfl, hrq, by go_num, by simp; omega, by simp; omega, by simp [lenV], HR', by unfold Hid; rw [List.length_append]; exact hstep.out, HO'.out⟩
              case measure => simp [lenV]; omega
          · have hdrop : xs.drop used = [] := List.drop_of_length_le (by omega)
            have hdrop2 : xs.drop (used + 1) = [] := List.drop_of_length_le (by omega)
            have hstep := Lib.hid (hrun2.out.step hne0 (k' := r') (ch' := xs.drop (used + 1)) (by rw [hnx, hp, hdrop, hdrop2]; rfl))
            have hdu : decide ((used : Int) < xs.length) = false := decide_eq_false (by omega)
            clear hrun hrun2 hne0 hnx hN hd hp hpr hrr hmk hfull hdrop hdrop2
            go_wp2_with (at_builtin; refine wpList_append_lies _ rfl _ _ 22 rfl w.heap.size 3 i0 (.int .i64 0) 1 8 Try.underlying22 HI.out HZ0.out HZ1.out HZ2.out rfl (by decide) _ _ _ rfl ((RowI.own hrow.out).alloc _) ⟨_, 0, none⟩ 1 1 [.int .i64 (a : Int)] rfl rfl ?se1 ?se2 (by decide) ?se3 ?se4 ?se5 _ rfl ?_)
            try (case se1 => exact news1 (by simp) rfl)
            try (case se2 => rfl)
            try (case se2 => intro u hu; simp only [List.mem_cons, List.not_mem_nil, or_false] at hu; subst hu; rfl)
            try (case se3 => unfold maxLen; omega)
            try (case se4 => omega)
            try (case se5 => first | omega | (simp; omega) | (simp only [World.heap_size_alloc]; omega) | (have := hzw; simp; exact Nat.le_succ_of_le this))
            intro g2 cap2 w' hown' hg hat hlt'
            have hbA := (Below.refl wr.heap.size wr).alloc (Nat.le_refl _) (.cells #[Value.int .i64 (a : Int)] 3)
            have hO2 := (Onto.of_below hbA (Value.slice Ao cur.length co)).trans (onto_of (n := cur.length + 1) (cap := cap2) hg (hat.imp id fun e => e.trans (by simp)))
            have HO' := Lib.hid (hO.trans hO2)
            have HR' : Hid (RowI w' w.heap.size (.slice (some ⟨g2, 0, none⟩) (cur.length + 1) cap2) (cur ++ [(a : Int)])) := RowI.snoc hown'
            clear hown' hg hat hbA hO2
            have hHP' := HP.out.onto HO'.out (fun k hk => by have := HOWN0.out k hk; omega)
            have hb' : Below w.heap.size w w' := hbw.trans (HO'.out.belowI (by omega) (fun k hk => by have := HOWN0.out k hk; omega))
            obtain ⟨u', ⟨-, -, -, -, hu4⟩, hnv⟩ := hHP'.cells_at HN HD'.out.1
            rw [HD'.out.2] at hnv
            obtain ⟨gn, hun, hcn⟩ := hnv.cells (by simp)
            have hun' : u' = .slice (some ⟨gn, 0, none⟩) 2 2 := hun
            subst hun'
            have hv0 : w'.cell? ⟨gn, 1, none⟩ = some (.int .i64 (r' : Int)) := hcn 1 _ rfl
            clear hcn hun hnv hHP'
            go_wp2_with fail
            go_roundw
            case rel => exact ⟨r', used + 1, cur ++ [(a : Int)], rfl, hrq, by go_num, by simp; omega, by simp; omega, by simp [lenV], HR', by unfold Hid; rw [List.length_append]; exact hstep.out, HO'.out⟩
            case measure => simp [lenV]; omega

end Go.Proofs.Ytlddoookojjleaa
