/- The copies that the laws make,once more: none of their new memory is frozen. -/
import Derived.Test.YtedkkphogeealaaGreatDoorPCopy0
import Derived.Test.YtedkkphogeealaaGreatDoorPMem
import Derived.Test.YtedkkphogeealaaGreatDoorPArgs
namespace Go.Proofs.YtedkkphogeealaaGreatDoor
open Go.RowKit Go.Deep
set_option linter.unusedVariables false
set_option maxRecDepth 100000
set_option maxHeartbeats 4000000
def Soft (lo:Nat) (w:World):Prop:=∀ k o,lo≤k→w.frozen? ⟨k,o,none⟩=false
theorem Soft.start (w:World):Soft w.heap.size w:=fun k o hk=>by simp [World.frozen?,Array.getElem?_eq_none hk]
theorem Soft.alloc {lo:Nat} {w:World} (h:Soft lo w) (cs:Array Value) (T:TypeId):Soft lo (w.alloc (.cells cs T)):=by
 intro k o hk
 rcases Nat.lt_trichotomy k w.heap.size with hlt | rfl | hgt
 ·have:(w.alloc (.cells cs T)).frozen? ⟨k,o,none⟩=w.frozen? ⟨k,o,none⟩:=World.frozen?_of_block (Below.heap_alloc _ _ k hlt)
  rw [this]
  exact h k o hk
 ·exact fB (heap_alloc_new w _) o
 ·have:(w.alloc (.cells cs T)).heap[k]?=none:=Array.getElem?_eq_none (by simp;omega)
  simp [World.frozen?,this]
theorem Soft.setCell {lo:Nat} {w:World} (h:Soft lo w) (a:Addr) (u:Value):Soft lo (w.setCell a u):=by
 intro k o hk
 rw [World.frozen?_setCell]
 exact h k o hk
theorem Soft.glue {lo:Nat} {w w':World} (h:Soft lo w) (hb:Below w.heap.size w w') (h2:Soft w.heap.size w'):Soft lo w':=by
 intro k o hk
 rcases Nat.lt_or_ge k w.heap.size with hlt | hge
 ·have:w'.frozen? ⟨k,o,none⟩=w.frozen? ⟨k,o,none⟩:=World.frozen?_of_block (hb.block k hlt)
  rw [this]
  exact h k o hk
 ·exact h2 k o hge
theorem toIntS_s (xs:List Int) (A:Option Addr) (c:Nat) (w:World) (hl:xs.length≤1048576) (hR:IntsV w 0 w.heap.size xs A c) :
  Calls Tryz.prog 36 #[.slice A xs.length c] w fun e w'=>e=.returned (.slice (some ⟨w.heap.size,0,none⟩) xs.length xs.length)∧IntsV w' w.heap.size w'.heap.size xs (some ⟨w.heap.size,0,none⟩) xs.length∧Below w.heap.size w w'∧Soft w.heap.size w':=by
 have hmk:=run_make_row' (P:=Tryz.prog) 22 3 (.int .i64 0) 8 Tryz.underlying22 Tryz.infoInt rfl .i64 .i64 xs.length (by omega) (by omega)
 have hsf0:Hid (Soft w.heap.size (w.alloc (.cells (madeCells #[Value.int .i64 0] xs.length) 3))):=(Soft.start w).alloc _ _
 have hst:=FillI.start w 3 xs
 go_enter Tryz.func36,Tryz.ntmps36
 go_wp2_with fail
 go_loopw [4] (fun i wr=>∃ k:Nat,k≤xs.length∧i=.int .i64 k∧FillI w.heap.size w wr 3 xs k∧Hid (Soft w.heap.size wr)) (fun i _=>xs.length-(intOf i).toNat)
 case atStart=>exact ⟨0,Nat.zero_le _,rfl,hst,hsf0⟩
 case round =>
  obtain ⟨k,hk,rfl,hF,hsf⟩:=hrel
  clear hst hmk hsf0
  by_cases hlt:k<xs.length
  ·obtain ⟨b,v,rfl,-,hbb,hx,hc⟩:=(hR.below hF.1 (Nat.le_refl _)).elem hlt
   obtain ⟨u,hu⟩:=hF.cell hlt
   have hfz:=hF.frozen k
   have HX:=Lib.hid hx
   clear hx
   go_wp2_with fail
   go_roundw
   case rel=>exact ⟨k+1,by omega,by go_num,hF.set_ HX.out,hsf.out.setCell _ _⟩
   case measure=>simp [intOf];omega
  ·have hk':k=xs.length:=by omega
   subst hk'
   go_wp2_with fail
   go_ret
   exact ⟨rfl,hF.done (by unfold maxLen;omega),hF.1,hsf.out⟩
theorem toStmt_s (op x y n:Int) (t e:Sts) (At Ae:Option Addr) (ct ce:Nat) (w:World)
  (Ht:∀ (w':World),Below w.heap.size w w'→Calls Tryz.prog 37 #[.slice At t.len ct] w' (fun E w2=>StsPost w' t E w2∧Soft w'.heap.size w2))
  (He:∀ (w':World),Below w.heap.size w w'→Calls Tryz.prog 37 #[.slice Ae e.len ce] w' (fun E w2=>StsPost w' e E w2∧Soft w'.heap.size w2)) :
  Calls Tryz.prog 67 #[.agg #[.int .i64 op,.int .i64 x,.int .i64 y,.int .i64 n,.slice At t.len ct,.slice Ae e.len ce]] w (fun E w'=>StmtPost w op x y n t e E w'∧Soft w.heap.size w'):=by
 go_enter Tryz.func67,Tryz.ntmps67
 go_wp2_with fail
 refine (Ht _ ((((Below.refl _ _).alloc (Nat.le_refl _) _).alloc (by simp) _).alloc (by simp;omega) _)).mono ?_
 rintro E w1 ⟨⟨g1,hg1,rfl,hR1,hb1⟩,hsfa⟩
 have HSF1:=Lib.hid (((((Soft.start w).alloc _ _).alloc _ _).alloc _ _).glue hb1 hsfa)
 clear hsfa
 obtain ⟨q1,q2,q3,q4⟩:=heap3 w _ _ _
 rw [q4] at hg1 hR1 hb1
 have hB1:=(hb1.block w.heap.size (by omega)).trans q1
 have hB2:=(hb1.block (w.heap.size+1) (by omega)).trans q2
 have hB3:=(hb1.block (w.heap.size+2) (by omega)).trans q3
 have hs1:=hb1.size
 rw [q4] at hs1
 have hb:Below w.heap.size w w1:=((((Below.refl _ _).alloc (Nat.le_refl _) _).alloc (by simp) _).alloc (by simp;omega) _).trans (hb1.mono (by omega))
 clear q1 q2 q3 q4 hb1
 have c5:w1.cell? ⟨w.heap.size,5,none⟩=some (.slice Ae e.len ce):=(cB hB1 5).trans rfl
 have v4:w1.cell? ⟨w.heap.size+2,4,none⟩=some (.slice none 0 0):=(cB hB3 4).trans rfl
 have f4:=fB hB3 4
 have HB2:=Lib.hid hB2
 have HB3:=Lib.hid hB3
 have HR1:=Lib.hid hR1
 clear hB1 hB2 hB3 hR1
 go_wp2_with fail
 have hb':Below w.heap.size w (w1.setCell ⟨w.heap.size+1+1,4,none⟩ (.slice (some ⟨g1,0,none⟩) t.len t.len)):=hb.setCell (by simp;omega) _
 refine (He _ hb').mono ?_
 rintro E w2 ⟨⟨g2,hg2,rfl,hR2,hb2⟩,hsfb⟩
 have HSF2:=Lib.hid ((HSF1.out.setCell _ _).glue hb2 hsfb)
 clear hsfb
 have hz:(w1.setCell ⟨w.heap.size+1+1,4,none⟩ (.slice (some ⟨g1,0,none⟩) t.len t.len)).heap.size=w1.heap.size:=by simp [World.setCell]
 rw [hz] at hg2 hR2 hb2
 have hB3:=(hb2.block (w.heap.size+2) (by omega)).trans (block_set HB3.out 4 _)
 have hB2:=(hb2.block (w.heap.size+1) (by omega)).trans ((Below.heap_setCell w1 ⟨w.heap.size+1+1,4,none⟩ _ _ (by simp)).trans HB2.out)
 have hR1:RepV w2 (w.heap.size+3) w1.heap.size t (some ⟨g1,0,none⟩) t.len:=HR1.out.keep (Nat.le_refl _) (Nat.le_refl _) fun p hp hp' =>
  (hb2.cell hp').trans (World.cell?_setCell_other w1 _ p _ (fun e=>by subst e;simp at hp <;> omega))
 have hs2:=hb2.size
 rw [hz] at hs2
 have hbb:Below w.heap.size w w2:=hb'.trans (hb2.mono (by omega))
 clear hb2 hb' hz HB2 HB3 HR1 c5 v4 f4 hb
 have v0:w2.cell? ⟨w.heap.size+2,0,none⟩=some (.int .i64 op):=(cB hB3 0).trans rfl
 have v1:w2.cell? ⟨w.heap.size+2,1,none⟩=some (.int .i64 x):=(cB hB3 1).trans rfl
 have v2:w2.cell? ⟨w.heap.size+2,2,none⟩=some (.int .i64 y):=(cB hB3 2).trans rfl
 have v3:w2.cell? ⟨w.heap.size+2,3,none⟩=some (.int .i64 n):=(cB hB3 3).trans rfl
 have v4:w2.cell? ⟨w.heap.size+2,4,none⟩=some (.slice (some ⟨g1,0,none⟩) t.len t.len):=(cB hB3 4).trans rfl
 have v5:w2.cell? ⟨w.heap.size+2,5,none⟩=some (.slice none 0 0):=(cB hB3 5).trans rfl
 have r0:w2.cell? ⟨w.heap.size+1,0,none⟩=some (.int .i64 0):=(cB hB2 0).trans rfl
 have r1:w2.cell? ⟨w.heap.size+1,1,none⟩=some (.int .i64 0):=(cB hB2 1).trans rfl
 have r2:w2.cell? ⟨w.heap.size+1,2,none⟩=some (.int .i64 0):=(cB hB2 2).trans rfl
 have r3:w2.cell? ⟨w.heap.size+1,3,none⟩=some (.int .i64 0):=(cB hB2 3).trans rfl
 have r4:w2.cell? ⟨w.heap.size+1,4,none⟩=some (.slice none 0 0):=(cB hB2 4).trans rfl
 have r5:w2.cell? ⟨w.heap.size+1,5,none⟩=some (.slice none 0 0):=(cB hB2 5).trans rfl
 have f5:=fB hB3 5
 have fr0:=fB hB2 0
 have fr1:=fB hB2 1
 have fr2:=fB hB2 2
 have fr3:=fB hB2 3
 have fr4:=fB hB2 4
 have fr5:=fB hB2 5
 have HR1:=Lib.hid hR1
 have HR2:=Lib.hid hR2
 clear hB2 hB3 hR1 hR2
 go_wp2_with fail
 refine bodyPost_ret (v:=.agg #[.int .i64 op,.int .i64 x,.int .i64 y,.int .i64 n,.slice (some ⟨g1,0,none⟩) t.len t.len,.slice (some ⟨g2,0,none⟩) e.len e.len]) (by simp [results,Tryz.results67,go_sem,r0,r1,r2,r3,r4,r5]) rfl ⟨⟨g1,g2,rfl,?_,?_,?_⟩,((((((HSF2.out.setCell _ _).setCell _ _).setCell _ _).setCell _ _).setCell _ _).setCell _ _).setCell _ _⟩
 ·refine HR1.out.keep (by omega) (by simp [World.setCell];omega) fun p hp _=>?_
  rw [World.cell?_setCell_other _ _ _ _ (fun e=>by subst e;simp at hp <;> omega),World.cell?_setCell_other _ _ _ _ (fun e=>by subst e;simp at hp <;> omega),World.cell?_setCell_other _ _ _ _ (fun e=>by subst e;simp at hp <;> omega),
   World.cell?_setCell_other _ _ _ _ (fun e=>by subst e;simp at hp <;> omega),World.cell?_setCell_other _ _ _ _ (fun e=>by subst e;simp at hp <;> omega),World.cell?_setCell_other _ _ _ _ (fun e=>by subst e;simp at hp <;> omega),
   World.cell?_setCell_other _ _ _ _ (fun e=>by subst e;simp at hp <;> omega)]
 ·refine HR2.out.keep (by omega) (by simp [World.setCell]) fun p hp _=>?_
  rw [World.cell?_setCell_other _ _ _ _ (fun e=>by subst e;simp at hp <;> omega),World.cell?_setCell_other _ _ _ _ (fun e=>by subst e;simp at hp <;> omega),World.cell?_setCell_other _ _ _ _ (fun e=>by subst e;simp at hp <;> omega),
   World.cell?_setCell_other _ _ _ _ (fun e=>by subst e;simp at hp <;> omega),World.cell?_setCell_other _ _ _ _ (fun e=>by subst e;simp at hp <;> omega),World.cell?_setCell_other _ _ _ _ (fun e=>by subst e;simp at hp <;> omega),
   World.cell?_setCell_other _ _ _ _ (fun e=>by subst e;simp at hp <;> omega)]
 ·exact ((((((hbb.setCell (by simp;omega) _).setCell (by simp) _).setCell (by simp) _).setCell (by simp) _).setCell (by simp) _).setCell (by simp) _).setCell (by simp) _
theorem toStmtS_s (N:Nat):∀ (s:Sts) (A:Option Addr) (c:Nat) (w:World),s.size<N→s.size≤1048576→RepV w 0 w.heap.size s A c →
  Calls Tryz.prog 37 #[.slice A s.len c] w (fun E w'=>StsPost w s E w'∧Soft w.heap.size w'):=by
 induction N with
 | zero=>intro s A c w h;omega
 | succ N ih =>
  intro s A c w hN hM hR
  have hls:=s.len_le_size
  have hmk:=run_make_rows (P:=Tryz.prog) 28 121 _ #[.int .i64 0,.int .i64 0,.int .i64 0,.int .i64 0,.slice none 0 0,.slice none 0 0] 6 80 Tryz.underlying28 Tryz.infoStmt rfl .i64 .i64 s.len (by omega) (by omega)
  have hsf0:Hid (Soft w.heap.size (w.alloc (.cells (madeCells #[.int .i64 0,.int .i64 0,.int .i64 0,.int .i64 0,.slice none 0 0,.slice none 0 0] (s.len*6)) 121))):=(Soft.start w).alloc _ _
  have hst:=FillS.start w 121 s #[.int .i64 0,.int .i64 0,.int .i64 0,.int .i64 0,.slice none 0 0,.slice none 0 0]
  go_enter Tryz.func37,Tryz.ntmps37
  go_wp2_with fail
  go_loopw [4] (fun i wr=>∃ k:Nat,k≤s.len∧i=.int .i64 k∧FillS w.heap.size w wr 121 s k∧Hid (Soft w.heap.size wr)) (fun i _=>s.len-(intOf i).toNat)
  case atStart=>exact ⟨0,Nat.zero_le _,rfl,hst,hsf0⟩
  case round =>
   obtain ⟨k,hk,rfl,hF,hsf⟩:=hrel
   clear hst hmk hsf0
   by_cases hlt:k<s.len
   ·obtain ⟨b,op,x,y,n,t,e,rfl,-,hbb,hd,At,ct,Ae,ce,⟨h0,h1,h2,h3,h4,h5⟩,hRt,hRe⟩:=(hR.below hF.1 hF.1.size).elem hlt
    have hz:=RepV.drop_sizes hd
    have HD:=Lib.hid hd
    clear hd
    have hFl:=hF.lt
    go_wp2_with fail
    refine (toStmt_s op x y n t e At Ae ct ce _ (fun w' hb'=>ih t At ct w' (by omega) (by omega) (hRt.below hb' hb'.size)) (fun w' hb'=>ih e Ae ce w' (by omega) (by omega) (hRe.below hb' hb'.size))).mono ?_
    rintro E w1 ⟨⟨g1,g2,rfl,hR1,hR2,hb1⟩,hsfa⟩
    have HSF1:=Lib.hid (hsf.out.glue hb1 hsfa)
    clear hsfa
    obtain ⟨⟨u0,hu0⟩,hf0⟩:=hF.cell hlt hb1 0 (by omega)
    obtain ⟨⟨u1,hu1⟩,hf1⟩:=hF.cell hlt hb1 1 (by omega)
    obtain ⟨⟨u2,hu2⟩,hf2⟩:=hF.cell hlt hb1 2 (by omega)
    obtain ⟨⟨u3,hu3⟩,hf3⟩:=hF.cell hlt hb1 3 (by omega)
    obtain ⟨⟨u4,hu4⟩,hf4⟩:=hF.cell hlt hb1 4 (by omega)
    obtain ⟨⟨u5,hu5⟩,hf5⟩:=hF.cell hlt hb1 5 (by omega)
    rw [Nat.add_zero] at hu0 hf0
    have HS:=Lib.hid (hF.set_ hlt HD.out hb1 hR1 hR2)
    have HF:=Lib.hid hF
    have H1:=Lib.hid hR1
    have H2:=Lib.hid hR2
    have H3:=Lib.hid hb1
    clear hF hR1 hR2 hb1 hRt hRe hR h0 h1 h2 h3 h4 h5
    go_wp2_with fail
    go_roundw
    case rel=>exact ⟨k+1,by omega,by go_num,HS.out,(((((HSF1.out.setCell _ _).setCell _ _).setCell _ _).setCell _ _).setCell _ _).setCell _ _⟩
    case measure=>simp [intOf];omega
   ·have hk':k=s.len:=by omega
    subst hk'
    go_wp2_with fail
    go_ret
    exact ⟨⟨w.heap.size,Nat.le_refl _,rfl,(hF.2.2.mono (Nat.le_succ _)).repV (Nat.le_refl _) hF.lt (by unfold maxLen;omega),hF.1⟩,hsf.out⟩
theorem toProgram_s (ts:List Int) (s:Sts) (At As:Option Addr) (ct cs:Nat) (w:World) (hl:ts.length≤1048576) (hM:s.size≤1048576) (hT:IntsV w 0 w.heap.size ts At ct) (hR:RepV w 0 w.heap.size s As cs) :
  Calls Tryz.prog 11 #[.agg #[.slice At ts.length ct,.slice As s.len cs]] w (fun E w'=>ProgPost w ts s E w'∧Soft w.heap.size w'):=by
 go_enter Tryz.func11,Tryz.ntmps11
 go_wp2_with fail
 have hb0:=((((Below.refl w.heap.size w).alloc (Nat.le_refl _) (.cells #[.slice At ts.length ct,.slice As s.len cs] 25)).alloc (by simp) (.cells #[.slice none 0 0,.slice none 0 0] 30)).alloc (by simp;omega) (.cells #[.slice none 0 0,.slice none 0 0] 30))
 refine (toIntS_s ts At ct _ hl (hT.below hb0 (by simp;omega))).mono ?_
 rintro E w1 ⟨rfl,hR1,hb1,hsfa⟩
 have HSF1:=Lib.hid (((((Soft.start w).alloc _ _).alloc _ _).alloc _ _).glue hb1 hsfa)
 clear hsfa
 obtain ⟨q1,q2,q3,q4⟩:=heap3 w (.cells #[.slice At ts.length ct,.slice As s.len cs] 25) (.cells #[.slice none 0 0,.slice none 0 0] 30) (.cells #[.slice none 0 0,.slice none 0 0] 30)
 rw [q4] at hR1 hb1 ⊢
 have hB1:=(hb1.block w.heap.size (by omega)).trans q1
 have hB2:=(hb1.block (w.heap.size+1) (by omega)).trans q2
 have hB3:=(hb1.block (w.heap.size+2) (by omega)).trans q3
 have hs1:=hb1.size
 rw [q4] at hs1
 have hb:Below w.heap.size w w1:=hb0.trans (hb1.mono (by omega))
 clear q1 q2 q3 q4 hb1 hb0
 have c1:w1.cell? ⟨w.heap.size,1,none⟩=some (.slice As s.len cs):=(cB hB1 1).trans rfl
 have v0:w1.cell? ⟨w.heap.size+2,0,none⟩=some (.slice none 0 0):=(cB hB3 0).trans rfl
 have f0:=fB hB3 0
 have HB2:=Lib.hid hB2
 have HB3:=Lib.hid hB3
 have HR1:=Lib.hid hR1
 clear hB1 hB2 hB3 hR1
 go_wp2_with fail
 have hb':Below w.heap.size w (w1.setCell ⟨w.heap.size+1+1,0,none⟩ (.slice (some ⟨w.heap.size+3,0,none⟩) ts.length ts.length)):=hb.setCell (by simp;omega) _
 refine (toStmtS_s (s.size+1) s As cs _ (by omega) hM (hR.below hb' hb'.size)).mono ?_
 rintro E w2 ⟨⟨g2,hg2,rfl,hR2,hb2⟩,hsfb⟩
 have HSF2:=Lib.hid ((HSF1.out.setCell _ _).glue hb2 hsfb)
 clear hsfb
 have hz:(w1.setCell ⟨w.heap.size+1+1,0,none⟩ (.slice (some ⟨w.heap.size+3,0,none⟩) ts.length ts.length)).heap.size=w1.heap.size:=by simp [World.setCell]
 rw [hz] at hg2 hR2 hb2
 have hB3:=(hb2.block (w.heap.size+2) (by omega)).trans (block_set HB3.out 0 _)
 have hB2:=(hb2.block (w.heap.size+1) (by omega)).trans ((Below.heap_setCell w1 ⟨w.heap.size+1+1,0,none⟩ _ _ (by simp)).trans HB2.out)
 have hR1:IntsV w2 (w.heap.size+3) w1.heap.size ts (some ⟨w.heap.size+3,0,none⟩) ts.length:=HR1.out.keep (Nat.le_refl _) (Nat.le_refl _) fun p hp hp' =>
  (hb2.cell hp').trans (World.cell?_setCell_other w1 _ p _ (fun e=>by subst e;simp at hp <;> omega))
 have hs2:=hb2.size
 rw [hz] at hs2
 have hbb:Below w.heap.size w w2:=hb'.trans (hb2.mono (by omega))
 clear hb2 hb' hz HB2 HB3 HR1 c1 v0 f0 hb
 have v0:w2.cell? ⟨w.heap.size+2,0,none⟩=some (.slice (some ⟨w.heap.size+3,0,none⟩) ts.length ts.length):=(cB hB3 0).trans rfl
 have v1:w2.cell? ⟨w.heap.size+2,1,none⟩=some (.slice none 0 0):=(cB hB3 1).trans rfl
 have r0:w2.cell? ⟨w.heap.size+1,0,none⟩=some (.slice none 0 0):=(cB hB2 0).trans rfl
 have r1:w2.cell? ⟨w.heap.size+1,1,none⟩=some (.slice none 0 0):=(cB hB2 1).trans rfl
 have f1:=fB hB3 1
 have fr0:=fB hB2 0
 have fr1:=fB hB2 1
 have HR1:=Lib.hid hR1
 have HR2:=Lib.hid hR2
 clear hB2 hB3 hR1 hR2
 go_wp2_with fail
 refine bodyPost_ret (v:=.agg #[.slice (some ⟨w.heap.size+3,0,none⟩) ts.length ts.length,.slice (some ⟨g2,0,none⟩) s.len s.len]) (by simp [results,Tryz.results11,go_sem,r0,r1]) rfl ⟨⟨w.heap.size+3,g2,rfl,?_,?_,?_⟩,((HSF2.out.setCell _ _).setCell _ _).setCell _ _⟩
 ·refine HR1.out.keep (by omega) (by simp [World.setCell];omega) fun p hp _=>?_
  rw [World.cell?_setCell_other _ _ _ _ (fun e=>by subst e;simp at hp <;> omega),World.cell?_setCell_other _ _ _ _ (fun e=>by subst e;simp at hp <;> omega),World.cell?_setCell_other _ _ _ _ (fun e=>by subst e;simp at hp <;> omega)]
 ·refine HR2.out.keep (by omega) (by simp [World.setCell]) fun p hp _=>?_
  rw [World.cell?_setCell_other _ _ _ _ (fun e=>by subst e;simp at hp <;> omega),World.cell?_setCell_other _ _ _ _ (fun e=>by subst e;simp at hp <;> omega),World.cell?_setCell_other _ _ _ _ (fun e=>by subst e;simp at hp <;> omega)]
 ·exact ((hbb.setCell (by simp;omega) _).setCell (by simp) _).setCell (by simp) _
structure MarkRel (lo hi:Nat) (w w':World):Prop where
 os:w'.os=w.os
 tape:w'.tape=w.tape
 output:w'.output=w.output
 size:w'.heap.size=w.heap.size
 block:∀ k,k<lo∨hi≤k→w'.heap[k]?=w.heap[k]?
 cells:∀ p:Addr,w'.cell? p=w.cell? p∨((∃ x,w.cell? p=some (.int .i64 x))∧∃ y,w'.cell? p=some (.int .i64 y))
 frozen:∀ p:Addr,w'.frozen? p=w.frozen? p
theorem MarkRel.refl (lo hi:Nat) (w:World):MarkRel lo hi w w:=⟨rfl,rfl,rfl,rfl,fun _ _=>rfl,fun _=>.inl rfl,fun _=>rfl⟩
theorem MarkRel.trans {lo hi:Nat} {a b c:World} (h:MarkRel lo hi a b) (k:MarkRel lo hi b c):MarkRel lo hi a c :=
 ⟨k.os.trans h.os,k.tape.trans h.tape,k.output.trans h.output,k.size.trans h.size,fun i hi=>(k.block i hi).trans (h.block i hi),fun p=>by
  rcases k.cells p with e1 | ⟨⟨x1,e1⟩,⟨y1,f1⟩⟩
  ·rcases h.cells p with e2 | ⟨⟨x2,e2⟩,⟨y2,f2⟩⟩
   ·exact .inl (e1.trans e2)
   ·exact .inr ⟨⟨x2,e2⟩,⟨y2,e1.trans f2⟩⟩
  ·rcases h.cells p with e2 | ⟨⟨x2,e2⟩,⟨y2,f2⟩⟩
   ·exact .inr ⟨⟨x1,e2 ▸ e1⟩,⟨y1,f1⟩⟩
   ·exact .inr ⟨⟨x2,e2⟩,⟨y1,f1⟩⟩,fun p=>(k.frozen p).trans (h.frozen p)⟩
theorem MarkRel.wide {lo hi lo' hi':Nat} {a b:World} (h:MarkRel lo hi a b) (hl:lo'≤lo) (hh:hi≤hi'):MarkRel lo' hi' a b :=
 ⟨h.os,h.tape,h.output,h.size,fun k hk=>h.block k (by omega),h.cells,h.frozen⟩
theorem MarkRel.set {lo hi:Nat} {a b:World} (h:MarkRel lo hi a b) {p:Addr} {x:Int} (y:Int) (hl:lo≤p.block) (hh:p.block<hi) (hc:b.cell? p=some (.int .i64 x)):MarkRel lo hi a (b.setCell p (.int .i64 y)):=by
 refine h.trans ⟨rfl,rfl,rfl,by simp [World.setCell],fun k hk=>Below.heap_setCell _ _ _ _ (by omega),fun q=>?_,fun q=>by rw [World.frozen?_setCell]⟩
 by_cases hq:p=q
 ·subst hq
  exact .inr ⟨⟨x,hc⟩,⟨y,by rw [World.cell?_setCell_same _ _ _ hc]⟩⟩
 ·exact .inl (World.cell?_setCell_other _ _ _ _ hq)
theorem MarkRel.cell {lo hi:Nat} {a b:World} (h:MarkRel lo hi a b) {p:Addr} (hp:p.block<lo∨hi≤p.block):b.cell? p=a.cell? p:=World.cell?_of_block (w:=a) (h.block p.block hp)
def SoftIn (lo hi:Nat) (w:World):Prop:=∀ p:Addr,lo≤p.block→p.block<hi→w.frozen? p=false
theorem MarkRel.softIn {lo hi l h:Nat} {a b:World} (hM:MarkRel lo hi a b) (hs:SoftIn l h a):SoftIn l h b:=fun p h1 h2=>(hM.frozen _).trans (hs p h1 h2)
theorem markIntS_row (n c g:Nat) (k:Int) (w:World) (hn:n≤c) (hn2:n≤100000000) (hc:c≤maxLen) (hk:0≤k) (hk2:k≤100000000) (hcell:∀ j,j<n→∃ v,w.cell? ⟨g,j,none⟩=some (.int .i64 v)) (hf:∀ o,w.frozen? ⟨g,o,none⟩=false) :
  Calls Tryz.prog 31 #[.slice (some ⟨g,0,none⟩) n c,.int .i64 k] w fun E w'=>E=.returned (.int .i64 (k+n))∧MarkRel g (g+1) w w'∧∀ j,j<n→w'.cell? ⟨g,j,none⟩=some (.int .i64 (k+j)):=by
 unfold maxLen at hc
 go_enter Tryz.func31,Tryz.ntmps31
 go_wp2_with fail
 go_loopw [1,5] (fun q i wr=>∃ j:Nat,j≤n∧i=.int .i64 j∧q=.int .i64 (k+j)∧MarkRel g (g+1) w wr∧Hid (∀ i,i<j→wr.cell? ⟨g,i,none⟩=some (.int .i64 (k+i)))) (fun _ i _=>n-(intOf i).toNat)
 case atStart=>exact ⟨0,Nat.zero_le _,rfl,by simp,MarkRel.refl _ _ _,fun i hi=>absurd hi (by omega)⟩
 case round =>
  obtain ⟨j,hj,rfl,rfl,hM,hin⟩:=hrel
  by_cases hlt:j<n
  ·have hcj:∃ v,wr.cell? ⟨g,j,none⟩=some (.int .i64 v):=by
    obtain ⟨v,hv⟩:=hcell j hlt
    rcases hM.cells ⟨g,j,none⟩ with e | ⟨_,y,e⟩
    ·exact ⟨v,e.trans hv⟩
    ·exact ⟨y,e⟩
   obtain ⟨v,hv⟩:=hcj
   have hfr:wr.frozen? ⟨g,j,none⟩=false:=(hM.frozen _).trans (hf j)
   have hM2:=Lib.hid (hM.set (k+j) (by simp) (by simp) hv)
   have hin2:Hid (∀ i,i<j+1→(wr.setCell ⟨g,j,none⟩ (.int .i64 (k+j))).cell? ⟨g,i,none⟩=some (.int .i64 (k+i))):=by
    intro i hi
    by_cases e:i=j
    ·subst e
     exact World.cell?_setCell_same _ _ _ hv
    ·rw [World.cell?_setCell_other _ _ _ _ (fun e2=>by injection e2 with _ e2;omega)]
     exact hin.out i (by omega)
   clear hin hcell hf hM
   go_wp2_with fail
   go_roundw
   case rel=>exact ⟨j+1,by omega,by go_num,by go_num,hM2.out,hin2⟩
   case measure=>simp [intOf];omega
  ·have hj':j=n:=by omega
   subst hj'
   clear hcell hf
   go_wp2_with fail
   go_ret
   exact ⟨rfl,hM,hin.out⟩
def Shp (w:World) (lo hi:Nat):Sts→Addr→Prop
 | .nil,_=>True
 | .cons _ _ _ _ t e r,a =>
  ((∃ v,w.cell? a=some (.int .i64 v))∧(∃ v,w.cell? (a.add 1)=some (.int .i64 v))∧(∃ v,w.cell? (a.add 2)=some (.int .i64 v))∧∃ v,w.cell? (a.add 3)=some (.int .i64 v)) ∧
  (∃ A c,w.cell? (a.add 4)=some (.slice A t.len c)∧t.len≤c∧c≤maxLen∧(0<t.len→∃ b,A=some b∧lo≤b.block∧b.block<hi∧Shp w lo hi t b)) ∧
  (∃ A c,w.cell? (a.add 5)=some (.slice A e.len c)∧e.len≤c∧c≤maxLen∧(0<e.len→∃ b,A=some b∧lo≤b.block∧b.block<hi∧Shp w lo hi e b)) ∧
  Shp w lo hi r (a.add 6)
def ShpV (w:World) (lo hi:Nat) (s:Sts) (A:Option Addr) (c:Nat):Prop :=
 s.len≤c∧c≤maxLen∧(0<s.len→∃ b,A=some b∧lo≤b.block∧b.block<hi∧Shp w lo hi s b)
theorem Rep.shp {w:World} {lo hi:Nat} (s:Sts):∀ a,Rep w lo hi s a→Shp w lo hi s a:=by
 induction s with
 | nil=>intro a _;trivial
 | cons op x y n t e r iht ihe ihr =>
  intro a h
  obtain ⟨⟨h0,h1,h2,h3⟩,⟨A,c,h4,h5,h6,h7⟩,⟨A',c',h8,h9,h10,h11⟩,hr⟩:=h
  refine ⟨⟨⟨_,h0⟩,⟨_,h1⟩,⟨_,h2⟩,⟨_,h3⟩⟩,⟨A,c,h4,h5,h6,fun hl=>?_⟩,⟨A',c',h8,h9,h10,fun hl=>?_⟩,ihr _ hr⟩
  ·obtain ⟨b,e1,e2,e3,e4⟩:=h7 hl
   exact ⟨b,e1,e2,e3,iht _ e4⟩
  ·obtain ⟨b,e1,e2,e3,e4⟩:=h11 hl
   exact ⟨b,e1,e2,e3,ihe _ e4⟩
theorem RepV.shp {w:World} {lo hi:Nat} {s:Sts} {A:Option Addr} {c:Nat} (h:RepV w lo hi s A c):ShpV w lo hi s A c :=
 ⟨h.1,h.2.1,fun hl=>by
  obtain ⟨b,e1,e2,e3,e4⟩:=h.2.2 hl
  exact ⟨b,e1,e2,e3,e4.shp⟩⟩
theorem MarkRel.isInt {lo hi:Nat} {a b:World} (h:MarkRel lo hi a b) {p:Addr} (hi:∃ v,a.cell? p=some (.int .i64 v)):∃ v,b.cell? p=some (.int .i64 v):=by
 rcases h.cells p with e | ⟨_,e⟩
 ·obtain ⟨v,hv⟩:=hi
  exact ⟨v,e.trans hv⟩
 ·exact e
theorem MarkRel.isSlice {lo hi:Nat} {a b:World} (h:MarkRel lo hi a b) {p:Addr} {A:Option Addr} {n c:Nat} (hs:a.cell? p=some (.slice A n c)):b.cell? p=some (.slice A n c):=by
 rcases h.cells p with e | ⟨⟨x,e⟩,_⟩
 ·exact e.trans hs
 ·rw [hs] at e
  cases e
theorem Shp.marked {l h lo hi:Nat} {a b:World} (hM:MarkRel l h a b) (s:Sts):∀ p,Shp a lo hi s p→Shp b lo hi s p:=by
 induction s with
 | nil=>intro p _;trivial
 | cons op x y n t e r iht ihe ihr =>
  intro p hp
  obtain ⟨⟨h0,h1,h2,h3⟩,⟨A,c,h4,h5,h6,h7⟩,⟨A',c',h8,h9,h10,h11⟩,hr⟩:=hp
  refine ⟨⟨hM.isInt h0,hM.isInt h1,hM.isInt h2,hM.isInt h3⟩,⟨A,c,hM.isSlice h4,h5,h6,fun hl=>?_⟩,⟨A',c',hM.isSlice h8,h9,h10,fun hl=>?_⟩,ihr _ hr⟩
  ·obtain ⟨b,e1,e2,e3,e4⟩:=h7 hl
   exact ⟨b,e1,e2,e3,iht _ e4⟩
  ·obtain ⟨b,e1,e2,e3,e4⟩:=h11 hl
   exact ⟨b,e1,e2,e3,ihe _ e4⟩
theorem ShpV.marked {l h lo hi:Nat} {a b:World} (hM:MarkRel l h a b) {s:Sts} {A:Option Addr} {c:Nat} (hs:ShpV a lo hi s A c):ShpV b lo hi s A c :=
 ⟨hs.1,hs.2.1,fun hl=>by
  obtain ⟨b,e1,e2,e3,e4⟩:=hs.2.2 hl
  exact ⟨b,e1,e2,e3,Shp.marked hM _ _ e4⟩⟩
theorem Shp.at_ {w:World} {lo hi:Nat} (s:Sts):∀ (k:Nat) (a:Addr),Shp w lo hi s a→Shp w lo hi (s.drop k) (a.add (6*k)):=by
 induction s with
 | nil=>intro k a _;cases k <;> trivial
 | cons op x y n t e r iht ihe ihr =>
  intro k a h
  cases k with
  | zero=>simpa [Sts.drop,Addr.add] using h
  | succ k =>
   have:=ihr k (a.add 6) h.2.2.2
   rw [add_add] at this
   rw [show 6*(k+1)=6+6*k by omega]
   exact this
theorem ShpV.elem {w:World} {lo hi:Nat} {s:Sts} {A:Option Addr} {c:Nat} (h:ShpV w lo hi s A c) {k:Nat} (hk:k<s.len) :
  ∃ b op x y n t e,A=some b∧lo≤b.block∧b.block<hi∧s.drop k=.cons op x y n t e (s.drop (k+1))∧∃ At ct Ae ce,
   ((∃ v,w.cell? (b.add (k*6))=some (.int .i64 v))∧(∃ v,w.cell? ⟨(b.add (k*6)).block,(b.add (k*6)).off+1,none⟩=some (.int .i64 v))∧(∃ v,w.cell? ⟨(b.add (k*6)).block,(b.add (k*6)).off+2,none⟩=some (.int .i64 v)) ∧
    (∃ v,w.cell? ⟨(b.add (k*6)).block,(b.add (k*6)).off+3,none⟩=some (.int .i64 v))∧w.cell? ⟨(b.add (k*6)).block,(b.add (k*6)).off+4,none⟩=some (.slice At t.len ct) ∧
    w.cell? ⟨(b.add (k*6)).block,(b.add (k*6)).off+5,none⟩=some (.slice Ae e.len ce))∧ShpV w lo hi t At ct∧ShpV w lo hi e Ae ce:=by
 obtain ⟨b,rfl,hb,hb',hR⟩:=h.2.2 (by omega)
 obtain ⟨op,x,y,n,t,e,hd⟩:=s.drop_lt k hk
 have hk':=hR.at_ s k b
 rw [hd,Nat.mul_comm] at hk'
 obtain ⟨⟨h0,h1,h2,h3⟩,⟨At,ct,h4,h5,h6,h7⟩,⟨Ae,ce,h8,h9,h10,h11⟩,_⟩:=hk'
 exact ⟨b,op,x,y,n,t,e,rfl,hb,hb',hd,At,ct,Ae,ce,⟨h0,h1,h2,h3,h4,h8⟩,⟨h5,h6,h7⟩,⟨h9,h10,h11⟩⟩
theorem markStmtS_any (N lo hi:Nat):∀ (s:Sts) (A:Option Addr) (c:Nat) (k:Int) (w:World),s.size<N→s.size≤2000000→0≤k→k≤100000000-4*s.size→ShpV w lo hi s A c→SoftIn lo hi w →
  Calls Tryz.prog 45 #[.slice A s.len c,.int .i64 k] w fun E w'=>E=.returned (.int .i64 (k+4*s.size))∧MarkRel lo hi w w':=by
 induction N with
 | zero=>intro s A c k w h;omega
 | succ N ih =>
  intro s A c k w hN hsz hk0 hk1 hR hS
  have hm:=hR.2.1
  have hlc:=hR.1
  unfold maxLen at hm
  go_enter Tryz.func45,Tryz.ntmps45
  go_wp2_with fail
  go_loopw [1,5] (fun q i wr=>∃ (j:Nat) (z:Int),j≤s.len∧i=.int .i64 j∧q=.int .i64 z∧k≤z∧z+4*(s.drop j).size=k+4*s.size∧MarkRel lo hi w wr) (fun _ i _=>s.len-(intOf i).toNat)
  case atStart=>exact ⟨0,k,Nat.zero_le _,rfl,rfl,by omega,by simp [Sts.drop],MarkRel.refl _ _ _⟩
  case round =>
   obtain ⟨j,z,hj,rfl,rfl,hkz,hz,hM⟩:=hrel
   by_cases hlt:j<s.len
   ·obtain ⟨b,op,x,y,n,t,e,rfl,hbl,hbb,hdr,At,ct,Ae,ce,⟨⟨v0,h0⟩,⟨v1,h1⟩,⟨v2,h2⟩,⟨v3,h3⟩,h4,h5⟩,hRt,hRe⟩:=(hR.marked hM).elem hlt
    have hzz:=RepV.drop_sizes hdr
    have hdz:(s.drop j).size=1+t.size+e.size+(s.drop (j+1)).size:=by rw [hdr];rfl
    have hz2:z+4+4*t.size+4*e.size+4*(s.drop (j+1)).size=k+4*s.size:=by omega
    have hbk:(b.add (j*6)).block=b.block:=block_add _ _
    have hlB:lo≤(b.add (j*6)).block:=by omega
    have hhB:(b.add (j*6)).block<hi:=by omega
    clear hbk
    have hx1:∀ (u:Value) (W:World),(W.setCell (b.add (j*6)) u).cell? ⟨(b.add (j*6)).block,(b.add (j*6)).off+1,none⟩=W.cell? ⟨(b.add (j*6)).block,(b.add (j*6)).off+1,none⟩:=fun u W=>World.cell?_setCell_other _ _ _ _ (fun e=>by have:=congrArg Addr.off e;simp at this)
    have hx2:∀ (u:Value) (W:World),(W.setCell (b.add (j*6)) u).cell? ⟨(b.add (j*6)).block,(b.add (j*6)).off+2,none⟩=W.cell? ⟨(b.add (j*6)).block,(b.add (j*6)).off+2,none⟩:=fun u W=>World.cell?_setCell_other _ _ _ _ (fun e=>by have:=congrArg Addr.off e;simp at this)
    have hx3:∀ (u:Value) (W:World),(W.setCell (b.add (j*6)) u).cell? ⟨(b.add (j*6)).block,(b.add (j*6)).off+3,none⟩=W.cell? ⟨(b.add (j*6)).block,(b.add (j*6)).off+3,none⟩:=fun u W=>World.cell?_setCell_other _ _ _ _ (fun e=>by have:=congrArg Addr.off e;simp at this)
    have hx4:∀ (u:Value) (W:World),(W.setCell (b.add (j*6)) u).cell? ⟨(b.add (j*6)).block,(b.add (j*6)).off+4,none⟩=W.cell? ⟨(b.add (j*6)).block,(b.add (j*6)).off+4,none⟩:=fun u W=>World.cell?_setCell_other _ _ _ _ (fun e=>by have:=congrArg Addr.off e;simp at this)
    have hx5:∀ (u:Value) (W:World),(W.setCell (b.add (j*6)) u).cell? ⟨(b.add (j*6)).block,(b.add (j*6)).off+5,none⟩=W.cell? ⟨(b.add (j*6)).block,(b.add (j*6)).off+5,none⟩:=fun u W=>World.cell?_setCell_other _ _ _ _ (fun e=>by have:=congrArg Addr.off e;simp at this)
    have hSr:=hM.softIn hS
    have hf0:wr.frozen? (b.add (j*6))=false:=hSr _ hlB hhB
    have hf1:wr.frozen? ⟨(b.add (j*6)).block,(b.add (j*6)).off+1,none⟩=false:=hSr _ hlB hhB
    have hf2:wr.frozen? ⟨(b.add (j*6)).block,(b.add (j*6)).off+2,none⟩=false:=hSr _ hlB hhB
    have hf3:wr.frozen? ⟨(b.add (j*6)).block,(b.add (j*6)).off+3,none⟩=false:=hSr _ hlB hhB
    have m1:=(MarkRel.refl lo hi wr).set z hlB hhB h0
    have g1:(wr.setCell (b.add (j*6)) (.int .i64 z)).cell? ⟨(b.add (j*6)).block,(b.add (j*6)).off+1,none⟩=some (.int .i64 v1):=(hx1 _ _).trans h1
    have m2:=MarkRel.set (p:=⟨(b.add (j*6)).block,(b.add (j*6)).off+1,none⟩) m1 (z+1) hlB hhB g1
    have g2:((wr.setCell (b.add (j*6)) (.int .i64 z)).setCell ⟨(b.add (j*6)).block,(b.add (j*6)).off+1,none⟩ (.int .i64 (z+1))).cell? ⟨(b.add (j*6)).block,(b.add (j*6)).off+2,none⟩=some (.int .i64 v2):=(World.cell?_setCell_other _ _ _ _ (fun e=>by have:=congrArg Addr.off e;simp at this)).trans ((hx2 _ _).trans h2)
    have m3:=MarkRel.set (p:=⟨(b.add (j*6)).block,(b.add (j*6)).off+2,none⟩) m2 (z+1+1) hlB hhB g2
    have g3:(((wr.setCell (b.add (j*6)) (.int .i64 z)).setCell ⟨(b.add (j*6)).block,(b.add (j*6)).off+1,none⟩ (.int .i64 (z+1))).setCell ⟨(b.add (j*6)).block,(b.add (j*6)).off+2,none⟩ (.int .i64 (z+1+1))).cell? ⟨(b.add (j*6)).block,(b.add (j*6)).off+3,none⟩=some (.int .i64 v3):=(World.cell?_setCell_other _ _ _ _ (fun e=>by have:=congrArg Addr.off e;simp at this)).trans ((World.cell?_setCell_other _ _ _ _ (fun e=>by have:=congrArg Addr.off e;simp at this)).trans ((hx3 _ _).trans h3))
    have m4:=MarkRel.set (p:=⟨(b.add (j*6)).block,(b.add (j*6)).off+3,none⟩) m3 (z+1+1+1) hlB hhB g3
    have HRt:=Lib.hid (hRt.marked m4)
    have HRe:=Lib.hid hRe
    have HM4:=Lib.hid m4
    have HSr:=Lib.hid (m4.softIn hSr)
    have HZ2:=Lib.hid hz2
    have hzt:z+4+4*t.size+4*e.size≤100000000:=by omega
    have h5':=Lib.hid h5
    clear m1 m2 m3 m4 g1 g2 g3 hRt hRe hdz hz hdr hz2 h5
    go_wp2_with fail
    refine (ih t At ct (z+1+1+1+1) _ (by omega) (by omega) (by omega) (by omega) HRt.out HSr.out).mono ?_
    rintro E w1 ⟨rfl,hM1⟩
    have HM1:=Lib.hid (HM4.out.trans hM1)
    have c5:w1.cell? ⟨(b.add (j*6)).block,(b.add (j*6)).off+5,none⟩=some (.slice Ae e.len ce):=HM1.out.isSlice h5'.out
    clear hM1 HM4
    go_wp2_with fail
    refine (ih e Ae ce (z+1+1+1+1+4*t.size) _ (by omega) (by omega) (by omega) (by omega) (HRe.out.marked HM1.out) (HM1.out.softIn hSr)).mono ?_
    rintro E w2 ⟨rfl,hM2⟩
    have HM2:=Lib.hid (hM.trans (HM1.out.trans hM2))
    clear hM2
    go_wp2_with fail
    go_roundw
    case rel=>exact ⟨j+1,_,by omega,by go_num,rfl,by omega,by have:=HZ2.out;omega,HM2.out⟩
    case measure=>simp [intOf];omega
   ·have hj':j=s.len:=by omega
    subst hj'
    have hfin:Hid (z=k+4*s.size):=by
     unfold Hid
     rw [s.drop_len] at hz
     simpa [Sts.size] using hz
    clear hz
    go_wp2_with fail
    go_ret
    exact ⟨by rw [← hfin.out];rfl,hM⟩
structure Span (lo hi:Nat) (w w':World):Prop where
 os:w'.os=w.os
 tape:w'.tape=w.tape
 output:w'.output=w.output
 size:w.heap.size≤w'.heap.size
 block:∀ k,k<w.heap.size→k<lo∨hi≤k→w'.heap[k]?=w.heap[k]?
theorem Span.of_below {lo hi:Nat} {w w':World} (h:Below w.heap.size w w'):Span lo hi w w':=⟨h.os,h.tape,h.output,h.size,fun k hk _=>h.block k hk⟩
theorem Span.of_mark {lo hi:Nat} {w w':World} (h:MarkRel lo hi w w'):Span lo hi w w':=⟨h.os,h.tape,h.output,Nat.le_of_eq h.size.symm,fun k _ hk=>h.block k hk⟩
theorem Span.trans {lo hi:Nat} {a b c:World} (h:Span lo hi a b) (k:Span lo hi b c):Span lo hi a c :=
 ⟨k.os.trans h.os,k.tape.trans h.tape,k.output.trans h.output,Nat.le_trans h.size k.size,fun i hi hd=>(k.block i (Nat.lt_of_lt_of_le hi h.size) hd).trans (h.block i hi hd)⟩
theorem Span.below {lo hi B:Nat} {a b:World} (h:Span lo hi a b) (hB:B≤lo) (hz:B≤a.heap.size):Below B a b:=⟨h.os,h.tape,h.output,h.size,fun k hk=>h.block k (by omega) (by omega)⟩
theorem RowI.lt {w:World} {B:Nat} {v:Value} {xs:List Int} (h:RowI w B v xs):∀ g,v.ownBlock=some g→B≤g∧g<w.heap.size:=World.ownsRow.lt h
theorem RowI.ints {w:World} {B:Nat} {v:Value} {xs:List Int} (h:RowI w B v xs):∃ A c,v=.slice A xs.length c∧IntsV w 0 w.heap.size xs A c:=by
 rcases h.2 with ⟨hv,h0⟩ | ⟨g,cap,cur,hv,h2,h3,h4,h5,h6,h7⟩
 ·have:xs=[]:=List.eq_nil_of_length_eq_zero h0
  subst this
  exact ⟨none,0,hv,by simp,by simp [maxLen],fun h=>absurd h (by simp)⟩
 ·refine ⟨_,_,hv,h4,h5,fun h0=>⟨_,rfl,Nat.zero_le _,heap_lt h3,fun j u hj=>?_⟩⟩
  exact World.ownsRow.cells h (g:=g) (by rw [hv];rfl) j _ (by rw [List.getElem?_map,hj];rfl)
theorem RowI.keep {w w':World} {B:Nat} {v:Value} {xs:List Int} (h:RowI w B v xs) (hk:∀ g,v.ownBlock=some g→w'.heap[g]?=w.heap[g]?):RowI w' B v xs:=by
 refine ⟨h.1,?_⟩
 rcases h.2 with h | ⟨g,cap,cur,h1,h2,h3,h4⟩
 ·exact .inl h
 ·exact .inr ⟨g,cap,cur,h1,h2,(hk g (by rw [h1];rfl)).trans h3,h4⟩
theorem RowI.intsV {w:World} {B n c:Nat} {A:Option Addr} {xs:List Int} (h:RowI w B (.slice A n c) xs):IntsV w 0 w.heap.size xs A c:=by
 obtain ⟨A',c',he,hI⟩:=h.ints
 injection he with e1 _ e2
 subst e1 e2
 exact hI
theorem markIntS_nil (A:Option Addr) (c:Nat) (k:Int) (w:World):Calls Tryz.prog 31 #[.slice A 0 c,.int .i64 k] w fun E w'=>E=.returned (.int .i64 k)∧w=w':=by
 go_enter Tryz.func31,Tryz.ntmps31
 go_wp2_with fail
 go_loop [1,5] (fun q i=>q=.int .i64 k∧i=.int .i64 0) (fun _ _=>0)
 case atStart=>exact ⟨rfl,rfl⟩
 case round =>
  obtain ⟨rfl,rfl⟩:=hrel
  go_wp2_with fail
  go_ret
  exact ⟨rfl,rfl⟩
def Marked (w:World) (v:Value) (n:Nat) (k:Int):Prop :=
 (n=0∧∃ A c,v=.slice A 0 c)∨∃ g c,v=.slice (some ⟨g,0,none⟩) n c∧n≤c∧c≤maxLen∧g<w.heap.size∧∀ j,j<n→w.cell? ⟨g,j,none⟩=some (.int .i64 (k+j))
theorem markProgram_any (ts:List Int) (s:Sts) (g1 g2 lo hi:Nat) (k:Int) (w:World) (hl:ts.length≤2000000) (hs:s.size≤2000000) (hk:0≤k) (hk2:k≤1000) (hhi:hi≤w.heap.size) (hlh:lo≤hi)
  (hT:IntsV w lo hi ts (some ⟨g1,0,none⟩) ts.length) (hR:RepV w lo hi s (some ⟨g2,0,none⟩) s.len) (hS:SoftIn lo hi w) :
  Calls Tryz.prog 20 #[.agg #[.slice (some ⟨g1,0,none⟩) ts.length ts.length,.slice (some ⟨g2,0,none⟩) s.len s.len],.int .i64 k] w fun E w'=>E=.returned (.int .i64 (k+ts.length+4*s.size))∧Span lo hi w w':=by
 have hba:=(Below.refl w.heap.size w).alloc (Nat.le_refl _) (.cells #[.slice (some ⟨g1,0,none⟩) ts.length ts.length,.slice (some ⟨g2,0,none⟩) s.len s.len] 30)
 have hc:=heap_alloc_new w (.cells #[.slice (some ⟨g1,0,none⟩) ts.length ts.length,.slice (some ⟨g2,0,none⟩) s.len s.len] 30)
 have c0:(w.alloc (.cells #[.slice (some ⟨g1,0,none⟩) ts.length ts.length,.slice (some ⟨g2,0,none⟩) s.len s.len] 30)).cell? ⟨w.heap.size,0,none⟩=some (.slice (some ⟨g1,0,none⟩) ts.length ts.length):=(cB hc 0).trans rfl
 have hT1:IntsV (w.alloc (.cells #[.slice (some ⟨g1,0,none⟩) ts.length ts.length,.slice (some ⟨g2,0,none⟩) s.len s.len] 30)) lo hi ts (some ⟨g1,0,none⟩) ts.length:=hT.keep (Nat.le_refl _) (Nat.le_refl _) fun p _ hp=>hba.cell (by omega)
 have hR1:RepV (w.alloc (.cells #[.slice (some ⟨g1,0,none⟩) ts.length ts.length,.slice (some ⟨g2,0,none⟩) s.len s.len] 30)) lo hi s (some ⟨g2,0,none⟩) s.len:=hR.keep (Nat.le_refl _) (Nat.le_refl _) fun p _ hp=>hba.cell (by omega)
 have hS1:SoftIn lo hi (w.alloc (.cells #[.slice (some ⟨g1,0,none⟩) ts.length ts.length,.slice (some ⟨g2,0,none⟩) s.len s.len] 30)):=fun p h1 h2=>(World.frozen?_of_block (hba.block p.block (by omega))).trans (hS p h1 h2)
 have hmi:Calls Tryz.prog 31 #[.slice (some ⟨g1,0,none⟩) ts.length ts.length,.int .i64 k] (w.alloc (.cells #[.slice (some ⟨g1,0,none⟩) ts.length ts.length,.slice (some ⟨g2,0,none⟩) s.len s.len] 30)) fun E w'=>E=.returned (.int .i64 (k+ts.length))∧MarkRel lo hi (w.alloc (.cells #[.slice (some ⟨g1,0,none⟩) ts.length ts.length,.slice (some ⟨g2,0,none⟩) s.len s.len] 30)) w':=by
  by_cases h0:ts.length=0
  ·rw [h0]
   refine (markIntS_nil (some ⟨g1,0,none⟩) 0 k _).mono ?_
   rintro E w' ⟨rfl,rfl⟩
   exact ⟨by simp,MarkRel.refl _ _ _⟩
  ·obtain ⟨b,hb,hb1,hb2,hcl⟩:=hT1.2.2 (by omega)
   injection hb with hb
   subst hb
   refine (markIntS_row ts.length ts.length g1 k _ (Nat.le_refl _) (by omega) hT1.2.1 hk (by omega) (fun j hj=>⟨ts[j],by have:=hcl j _ (List.getElem?_eq_getElem hj);rwa [add_block,Nat.zero_add] at this⟩) (fun o=>hS1 _ hb1 hb2)).mono ?_
   rintro E w' ⟨rfl,hM,_⟩
   exact ⟨rfl,hM.wide hb1 (by have:g1<hi:=hb2;omega)⟩
 have HR:=Lib.hid hR1.shp
 have HS1:=Lib.hid hS1
 have hC:=Lib.hid hc
 clear hT1 hR1 hS1 hc hS hT hR
 go_enter Tryz.func20,Tryz.ntmps20
 go_wp2_with fail
 refine hmi.mono ?_
 rintro E w1 ⟨rfl,hM1⟩
 have c1:w1.cell? ⟨w.heap.size,1,none⟩=some (.slice (some ⟨g2,0,none⟩) s.len s.len):=(hM1.cell (.inr hhi)).trans ((cB hC.out 1).trans rfl)
 have HM1:=Lib.hid hM1
 clear hmi hM1
 go_wp2_with fail
 refine (markStmtS_any (s.size+1) lo hi s (some ⟨g2,0,none⟩) s.len (k+ts.length) w1 (by omega) hs (by omega) (by omega) (HR.out.marked HM1.out) (HM1.out.softIn HS1.out)).mono ?_
 rintro E w2 ⟨rfl,hM2⟩
 have HM2:=Lib.hid (HM1.out.trans hM2)
 clear hM2
 go_wp2_with fail
 go_ret
 exact ⟨rfl,(Span.of_below hba).trans (Span.of_mark HM2.out)⟩
end Go.Proofs.YtedkkphogeealaaGreatDoor
