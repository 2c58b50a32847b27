/- The copies that the laws make of their arguments: new memory that reads as the arguments d -/
import Derived.Test.YtedkkphogeealaaGreatDoorRows
import Derived.Test.YtedkkphogeealaaGreatDoorPBase
import Derived.Test.YtedkkphogeealaaGreatDoorPCopy0
import Derived.WalkKit
import Derived.WalkSpells
import Derived.Lib.Hide
import Derived.Deep.OwnRows
import Derived.Deep.QuietTactic
import Derived.BigQuiet
import Derived.StillTailTactics
import Derived.ProofKit
import Derived.OpenShut
import Derived.Lib.SmallJoins
namespace Go.Proofs.YtedkkphogeealaaGreatDoor
open Go.RowKit Go.Deep
set_option maxRecDepth 100000
set_option maxHeartbeats 1000000
theorem toIntS_any (xs:List Int) (A:Option Addr) (c:Nat) (w:World) (hl:xs.length≤1048576) (hR:IntsV w 0 w.heap.size xs A c) :
  Calls Tryz.prog 36 #[.slice A xs.length c] w fun e w'=>e=.returned (.slice (some ⟨w.heap.size,0,none⟩) xs.length xs.length)∧IntsV w' w.heap.size w'.heap.size xs (some ⟨w.heap.size,0,none⟩) xs.length∧Below w.heap.size w w':=by
 have hmk:=run_make_row' (P:=Tryz.prog) 22 3 (.int .i64 0) 8 Tryz.underlying22 Tryz.infoInt rfl .i64 .i64 xs.length (by omega) (by omega)
 have hst:=FillI.start w 3 xs
 go_enter Tryz.func36,Tryz.ntmps36
 go_wp2_with fail
 go_loopw [4] (fun i wr=>∃ k:Nat,k≤xs.length∧i=.int .i64 k∧FillI w.heap.size w wr 3 xs k) (fun i _=>xs.length-(intOf i).toNat)
 case atStart=>exact ⟨0,Nat.zero_le _,rfl,hst⟩
 case round =>
  obtain ⟨k,hk,rfl,hF⟩:=hrel
  clear hst hmk
  by_cases hlt:k<xs.length
  ·obtain ⟨b,v,rfl,-,hbb,hx,hc⟩:=(hR.below hF.1 (Nat.le_refl _)).elem hlt
   obtain ⟨u,hu⟩:=hF.cell hlt
   have hfz:=hF.frozen k
   have HX:=Lib.hid hx
   clear hx
   go_wp2_with fail
   go_roundw
   case rel=>exact ⟨k+1,by omega,by go_num,hF.set_ HX.out⟩
   case measure=>simp [intOf];omega
  ·have hk':k=xs.length:=by omega
   subst hk'
   go_wp2_with fail
   go_ret
   exact ⟨rfl,hF.done (by unfold maxLen;omega),hF.1⟩
theorem toStmt_any (op x y n:Int) (t e:Sts) (At Ae:Option Addr) (ct ce:Nat) (w:World)
  (Ht:∀ (w':World),Below w.heap.size w w'→Calls Tryz.prog 37 #[.slice At t.len ct] w' (StsPost w' t))
  (He:∀ (w':World),Below w.heap.size w w'→Calls Tryz.prog 37 #[.slice Ae e.len ce] w' (StsPost w' e)) :
  Calls Tryz.prog 67 #[.agg #[.int .i64 op,.int .i64 x,.int .i64 y,.int .i64 n,.slice At t.len ct,.slice Ae e.len ce]] w (StmtPost w op x y n t e):=by
 go_enter Tryz.func67,Tryz.ntmps67
 go_wp2_with fail
 refine (Ht _ ((((Below.refl _ _).alloc (Nat.le_refl _) _).alloc (by simp) _).alloc (by simp;omega) _)).mono ?_
 rintro E w1 ⟨g1,hg1,rfl,hR1,hb1⟩
 obtain ⟨q1,q2,q3,q4⟩:=heap3 w _ _ _
 rw [q4] at hg1 hR1 hb1
 have hB1:=(hb1.block w.heap.size (by omega)).trans q1
 have hB2:=(hb1.block (w.heap.size+1) (by omega)).trans q2
 have hB3:=(hb1.block (w.heap.size+2) (by omega)).trans q3
 have hs1:=hb1.size
 rw [q4] at hs1
 have hb:Below w.heap.size w w1:=((((Below.refl _ _).alloc (Nat.le_refl _) _).alloc (by simp) _).alloc (by simp;omega) _).trans (hb1.mono (by omega))
 clear q1 q2 q3 q4 hb1
 have c5:w1.cell? ⟨w.heap.size,5,none⟩=some (.slice Ae e.len ce):=(cB hB1 5).trans rfl
 have v4:w1.cell? ⟨w.heap.size+2,4,none⟩=some (.slice none 0 0):=(cB hB3 4).trans rfl
 have f4:=fB hB3 4
 have HB2:=Lib.hid hB2
 have HB3:=Lib.hid hB3
 have HR1:=Lib.hid hR1
 clear hB1 hB2 hB3 hR1
 go_wp2_with fail
 have hb':Below w.heap.size w (w1.setCell ⟨w.heap.size+1+1,4,none⟩ (.slice (some ⟨g1,0,none⟩) t.len t.len)):=hb.setCell (by simp;omega) _
 refine (He _ hb').mono ?_
 rintro E w2 ⟨g2,hg2,rfl,hR2,hb2⟩
 have hz:(w1.setCell ⟨w.heap.size+1+1,4,none⟩ (.slice (some ⟨g1,0,none⟩) t.len t.len)).heap.size=w1.heap.size:=by simp [World.setCell]
 rw [hz] at hg2 hR2 hb2
 have hB3:=(hb2.block (w.heap.size+2) (by omega)).trans (block_set HB3.out 4 _)
 have hB2:=(hb2.block (w.heap.size+1) (by omega)).trans ((Below.heap_setCell w1 ⟨w.heap.size+1+1,4,none⟩ _ _ (by simp)).trans HB2.out)
 have hR1:RepV w2 (w.heap.size+3) w1.heap.size t (some ⟨g1,0,none⟩) t.len:=HR1.out.keep (Nat.le_refl _) (Nat.le_refl _) fun p hp hp' =>
  (hb2.cell hp').trans (World.cell?_setCell_other w1 _ p _ (fun e=>by subst e;simp at hp <;> omega))
 have hs2:=hb2.size
 rw [hz] at hs2
 have hbb:Below w.heap.size w w2:=hb'.trans (hb2.mono (by omega))
 clear hb2 hb' hz HB2 HB3 HR1 c5 v4 f4 hb
 have v0:w2.cell? ⟨w.heap.size+2,0,none⟩=some (.int .i64 op):=(cB hB3 0).trans rfl
 have v1:w2.cell? ⟨w.heap.size+2,1,none⟩=some (.int .i64 x):=(cB hB3 1).trans rfl
 have v2:w2.cell? ⟨w.heap.size+2,2,none⟩=some (.int .i64 y):=(cB hB3 2).trans rfl
 have v3:w2.cell? ⟨w.heap.size+2,3,none⟩=some (.int .i64 n):=(cB hB3 3).trans rfl
 have v4:w2.cell? ⟨w.heap.size+2,4,none⟩=some (.slice (some ⟨g1,0,none⟩) t.len t.len):=(cB hB3 4).trans rfl
 have v5:w2.cell? ⟨w.heap.size+2,5,none⟩=some (.slice none 0 0):=(cB hB3 5).trans rfl
 have r0:w2.cell? ⟨w.heap.size+1,0,none⟩=some (.int .i64 0):=(cB hB2 0).trans rfl
 have r1:w2.cell? ⟨w.heap.size+1,1,none⟩=some (.int .i64 0):=(cB hB2 1).trans rfl
 have r2:w2.cell? ⟨w.heap.size+1,2,none⟩=some (.int .i64 0):=(cB hB2 2).trans rfl
 have r3:w2.cell? ⟨w.heap.size+1,3,none⟩=some (.int .i64 0):=(cB hB2 3).trans rfl
 have r4:w2.cell? ⟨w.heap.size+1,4,none⟩=some (.slice none 0 0):=(cB hB2 4).trans rfl
 have r5:w2.cell? ⟨w.heap.size+1,5,none⟩=some (.slice none 0 0):=(cB hB2 5).trans rfl
 have f5:=fB hB3 5
 have fr0:=fB hB2 0
 have fr1:=fB hB2 1
 have fr2:=fB hB2 2
 have fr3:=fB hB2 3
 have fr4:=fB hB2 4
 have fr5:=fB hB2 5
 have HR1:=Lib.hid hR1
 have HR2:=Lib.hid hR2
 clear hB2 hB3 hR1 hR2
 go_wp2_with fail
 refine bodyPost_ret (v:=.agg #[.int .i64 op,.int .i64 x,.int .i64 y,.int .i64 n,.slice (some ⟨g1,0,none⟩) t.len t.len,.slice (some ⟨g2,0,none⟩) e.len e.len]) (by simp [results,Tryz.results67,go_sem,r0,r1,r2,r3,r4,r5]) rfl ⟨g1,g2,rfl,?_,?_,?_⟩
 ·refine HR1.out.keep (by omega) (by simp [World.setCell];omega) fun p hp _=>?_
  rw [World.cell?_setCell_other _ _ _ _ (fun e=>by subst e;simp at hp <;> omega),World.cell?_setCell_other _ _ _ _ (fun e=>by subst e;simp at hp <;> omega),World.cell?_setCell_other _ _ _ _ (fun e=>by subst e;simp at hp <;> omega),
   World.cell?_setCell_other _ _ _ _ (fun e=>by subst e;simp at hp <;> omega),World.cell?_setCell_other _ _ _ _ (fun e=>by subst e;simp at hp <;> omega),World.cell?_setCell_other _ _ _ _ (fun e=>by subst e;simp at hp <;> omega),
   World.cell?_setCell_other _ _ _ _ (fun e=>by subst e;simp at hp <;> omega)]
 ·refine HR2.out.keep (by omega) (by simp [World.setCell]) fun p hp _=>?_
  rw [World.cell?_setCell_other _ _ _ _ (fun e=>by subst e;simp at hp <;> omega),World.cell?_setCell_other _ _ _ _ (fun e=>by subst e;simp at hp <;> omega),World.cell?_setCell_other _ _ _ _ (fun e=>by subst e;simp at hp <;> omega),
   World.cell?_setCell_other _ _ _ _ (fun e=>by subst e;simp at hp <;> omega),World.cell?_setCell_other _ _ _ _ (fun e=>by subst e;simp at hp <;> omega),World.cell?_setCell_other _ _ _ _ (fun e=>by subst e;simp at hp <;> omega),
   World.cell?_setCell_other _ _ _ _ (fun e=>by subst e;simp at hp <;> omega)]
 ·exact ((((((hbb.setCell (by simp;omega) _).setCell (by simp) _).setCell (by simp) _).setCell (by simp) _).setCell (by simp) _).setCell (by simp) _).setCell (by simp) _
theorem toStmtS_any (N:Nat):∀ (s:Sts) (A:Option Addr) (c:Nat) (w:World),s.size<N→s.size≤1048576→RepV w 0 w.heap.size s A c →
  Calls Tryz.prog 37 #[.slice A s.len c] w (StsPost w s):=by
 induction N with
 | zero=>intro s A c w h;omega
 | succ N ih =>
  intro s A c w hN hM hR
  have hls:=s.len_le_size
  have hmk:=run_make_rows (P:=Tryz.prog) 28 121 _ #[.int .i64 0,.int .i64 0,.int .i64 0,.int .i64 0,.slice none 0 0,.slice none 0 0] 6 80 Tryz.underlying28 Tryz.infoStmt rfl .i64 .i64 s.len (by omega) (by omega)
  have hst:=FillS.start w 121 s #[.int .i64 0,.int .i64 0,.int .i64 0,.int .i64 0,.slice none 0 0,.slice none 0 0]
  go_enter Tryz.func37,Tryz.ntmps37
  go_wp2_with fail
  go_loopw [4] (fun i wr=>∃ k:Nat,k≤s.len∧i=.int .i64 k∧FillS w.heap.size w wr 121 s k) (fun i _=>s.len-(intOf i).toNat)
  case atStart=>exact ⟨0,Nat.zero_le _,rfl,hst⟩
  case round =>
   obtain ⟨k,hk,rfl,hF⟩:=hrel
   clear hst hmk
   by_cases hlt:k<s.len
   ·obtain ⟨b,op,x,y,n,t,e,rfl,-,hbb,hd,At,ct,Ae,ce,⟨h0,h1,h2,h3,h4,h5⟩,hRt,hRe⟩:=(hR.below hF.1 hF.1.size).elem hlt
    have hz:=RepV.drop_sizes hd
    have HD:=Lib.hid hd
    clear hd
    have hFl:=hF.lt
    go_wp2_with fail
    refine (toStmt_any op x y n t e At Ae ct ce _ (fun w' hb'=>ih t At ct w' (by omega) (by omega) (hRt.below hb' hb'.size)) (fun w' hb'=>ih e Ae ce w' (by omega) (by omega) (hRe.below hb' hb'.size))).mono ?_
    rintro E w1 ⟨g1,g2,rfl,hR1,hR2,hb1⟩
    obtain ⟨⟨u0,hu0⟩,hf0⟩:=hF.cell hlt hb1 0 (by omega)
    obtain ⟨⟨u1,hu1⟩,hf1⟩:=hF.cell hlt hb1 1 (by omega)
    obtain ⟨⟨u2,hu2⟩,hf2⟩:=hF.cell hlt hb1 2 (by omega)
    obtain ⟨⟨u3,hu3⟩,hf3⟩:=hF.cell hlt hb1 3 (by omega)
    obtain ⟨⟨u4,hu4⟩,hf4⟩:=hF.cell hlt hb1 4 (by omega)
    obtain ⟨⟨u5,hu5⟩,hf5⟩:=hF.cell hlt hb1 5 (by omega)
    rw [Nat.add_zero] at hu0 hf0
    have HS:=Lib.hid (hF.set_ hlt HD.out hb1 hR1 hR2)
    have HF:=Lib.hid hF
    have H1:=Lib.hid hR1
    have H2:=Lib.hid hR2
    have H3:=Lib.hid hb1
    clear hF hR1 hR2 hb1 hRt hRe hR h0 h1 h2 h3 h4 h5
    go_wp2_with fail
    go_roundw
    case rel=>exact ⟨k+1,by omega,by go_num,HS.out⟩
    case measure=>simp [intOf];omega
   ·have hk':k=s.len:=by omega
    subst hk'
    go_wp2_with fail
    go_ret
    exact ⟨w.heap.size,Nat.le_refl _,rfl,(hF.2.2.mono (Nat.le_succ _)).repV (Nat.le_refl _) hF.lt (by unfold maxLen;omega),hF.1⟩
theorem toProgram_any (ts:List Int) (s:Sts) (At As:Option Addr) (ct cs:Nat) (w:World) (hl:ts.length≤1048576) (hM:s.size≤1048576) (hT:IntsV w 0 w.heap.size ts At ct) (hR:RepV w 0 w.heap.size s As cs) :
  Calls Tryz.prog 11 #[.agg #[.slice At ts.length ct,.slice As s.len cs]] w (ProgPost w ts s):=by
 go_enter Tryz.func11,Tryz.ntmps11
 go_wp2_with fail
 have hb0:=((((Below.refl w.heap.size w).alloc (Nat.le_refl _) (.cells #[.slice At ts.length ct,.slice As s.len cs] 25)).alloc (by simp) (.cells #[.slice none 0 0,.slice none 0 0] 30)).alloc (by simp;omega) (.cells #[.slice none 0 0,.slice none 0 0] 30))
 refine (toIntS_any ts At ct _ hl (hT.below hb0 (by simp;omega))).mono ?_
 rintro E w1 ⟨rfl,hR1,hb1⟩
 obtain ⟨q1,q2,q3,q4⟩:=heap3 w (.cells #[.slice At ts.length ct,.slice As s.len cs] 25) (.cells #[.slice none 0 0,.slice none 0 0] 30) (.cells #[.slice none 0 0,.slice none 0 0] 30)
 rw [q4] at hR1 hb1 ⊢
 have hB1:=(hb1.block w.heap.size (by omega)).trans q1
 have hB2:=(hb1.block (w.heap.size+1) (by omega)).trans q2
 have hB3:=(hb1.block (w.heap.size+2) (by omega)).trans q3
 have hs1:=hb1.size
 rw [q4] at hs1
 have hb:Below w.heap.size w w1:=hb0.trans (hb1.mono (by omega))
 clear q1 q2 q3 q4 hb1 hb0
 have c1:w1.cell? ⟨w.heap.size,1,none⟩=some (.slice As s.len cs):=(cB hB1 1).trans rfl
 have v0:w1.cell? ⟨w.heap.size+2,0,none⟩=some (.slice none 0 0):=(cB hB3 0).trans rfl
 have f0:=fB hB3 0
 have HB2:=Lib.hid hB2
 have HB3:=Lib.hid hB3
 have HR1:=Lib.hid hR1
 clear hB1 hB2 hB3 hR1
 go_wp2_with fail
 have hb':Below w.heap.size w (w1.setCell ⟨w.heap.size+1+1,0,none⟩ (.slice (some ⟨w.heap.size+3,0,none⟩) ts.length ts.length)):=hb.setCell (by simp;omega) _
 refine (toStmtS_any (s.size+1) s As cs _ (by omega) hM (hR.below hb' hb'.size)).mono ?_
 rintro E w2 ⟨g2,hg2,rfl,hR2,hb2⟩
 have hz:(w1.setCell ⟨w.heap.size+1+1,0,none⟩ (.slice (some ⟨w.heap.size+3,0,none⟩) ts.length ts.length)).heap.size=w1.heap.size:=by simp [World.setCell]
 rw [hz] at hg2 hR2 hb2
 have hB3:=(hb2.block (w.heap.size+2) (by omega)).trans (block_set HB3.out 0 _)
 have hB2:=(hb2.block (w.heap.size+1) (by omega)).trans ((Below.heap_setCell w1 ⟨w.heap.size+1+1,0,none⟩ _ _ (by simp)).trans HB2.out)
 have hR1:IntsV w2 (w.heap.size+3) w1.heap.size ts (some ⟨w.heap.size+3,0,none⟩) ts.length:=HR1.out.keep (Nat.le_refl _) (Nat.le_refl _) fun p hp hp' =>
  (hb2.cell hp').trans (World.cell?_setCell_other w1 _ p _ (fun e=>by subst e;simp at hp <;> omega))
 have hs2:=hb2.size
 rw [hz] at hs2
 have hbb:Below w.heap.size w w2:=hb'.trans (hb2.mono (by omega))
 clear hb2 hb' hz HB2 HB3 HR1 c1 v0 f0 hb
 have v0:w2.cell? ⟨w.heap.size+2,0,none⟩=some (.slice (some ⟨w.heap.size+3,0,none⟩) ts.length ts.length):=(cB hB3 0).trans rfl
 have v1:w2.cell? ⟨w.heap.size+2,1,none⟩=some (.slice none 0 0):=(cB hB3 1).trans rfl
 have r0:w2.cell? ⟨w.heap.size+1,0,none⟩=some (.slice none 0 0):=(cB hB2 0).trans rfl
 have r1:w2.cell? ⟨w.heap.size+1,1,none⟩=some (.slice none 0 0):=(cB hB2 1).trans rfl
 have f1:=fB hB3 1
 have fr0:=fB hB2 0
 have fr1:=fB hB2 1
 have HR1:=Lib.hid hR1
 have HR2:=Lib.hid hR2
 clear hB2 hB3 hR1 hR2
 go_wp2_with fail
 refine bodyPost_ret (v:=.agg #[.slice (some ⟨w.heap.size+3,0,none⟩) ts.length ts.length,.slice (some ⟨g2,0,none⟩) s.len s.len]) (by simp [results,Tryz.results11,go_sem,r0,r1]) rfl ⟨w.heap.size+3,g2,rfl,?_,?_,?_⟩
 ·refine HR1.out.keep (by omega) (by simp [World.setCell];omega) fun p hp _=>?_
  rw [World.cell?_setCell_other _ _ _ _ (fun e=>by subst e;simp at hp <;> omega),World.cell?_setCell_other _ _ _ _ (fun e=>by subst e;simp at hp <;> omega),World.cell?_setCell_other _ _ _ _ (fun e=>by subst e;simp at hp <;> omega)]
 ·refine HR2.out.keep (by omega) (by simp [World.setCell]) fun p hp _=>?_
  rw [World.cell?_setCell_other _ _ _ _ (fun e=>by subst e;simp at hp <;> omega),World.cell?_setCell_other _ _ _ _ (fun e=>by subst e;simp at hp <;> omega),World.cell?_setCell_other _ _ _ _ (fun e=>by subst e;simp at hp <;> omega)]
 ·exact ((hbb.setCell (by simp;omega) _).setCell (by simp) _).setCell (by simp) _
def subI (L:Int) (m:Nat):Int:=if (m:Int)≤L then L-m else -1
theorem szStmt_any (op x y n:Int) (t e:Sts) (At Ae:Option Addr) (ct ce:Nat) (L:Int) (w:World) (hL:0≤L) (hL2:L≤1048576)
  (Ht:∀ (L:Int) (w':World),Below w.heap.size w w'→0≤L→L≤1048576→Calls Tryz.prog 34 #[.slice At t.len ct,.int .i64 L] w' fun e w''=>e=.returned (.int .i64 (subI L t.size))∧Below w'.heap.size w' w'')
  (He:∀ (L:Int) (w':World),Below w.heap.size w w'→0≤L→L≤1048576→Calls Tryz.prog 34 #[.slice Ae e.len ce,.int .i64 L] w' fun e' w''=>e'=.returned (.int .i64 (subI L e.size))∧Below w'.heap.size w' w'') :
  Calls Tryz.prog 63 #[.agg #[.int .i64 op,.int .i64 x,.int .i64 y,.int .i64 n,.slice At t.len ct,.slice Ae e.len ce],.int .i64 L] w fun e' w'=>e'=.returned (.int .i64 (subI L (t.size+e.size)))∧Below w.heap.size w w':=by
 by_cases h1:(t.size:Int)≤L
 ·have e1:subI L t.size=L-t.size:=if_pos h1
  by_cases h2:(t.size:Int)+e.size≤L
  ·have e2:subI (L-t.size) e.size=L-t.size-e.size:=if_pos (by omega)
   have e3:subI L (t.size+e.size)=L-t.size-e.size:=by unfold subI;rw [if_pos (by omega)];omega
   rw [e3]
   go_enter Tryz.func63,Tryz.ntmps63
   go_wp2_with fail
   refine (Ht L _ ((Below.refl _ _).alloc (Nat.le_refl _) _) hL hL2).mono ?_
   rintro e' w1 ⟨he,hb1⟩
   rw [e1] at he
   subst he
   have hs1:=hb1.size
   have hs0:w.heap.size<w1.heap.size:=by simp at hs1;omega
   have hc5:=hb1.cell (p:=⟨w.heap.size,5,none⟩) (by simp)
   have hb:Below w.heap.size w w1:=((Below.refl _ _).alloc (Nat.le_refl _) _).trans (hb1.mono (by simp))
   go_wp2_with fail
   refine (He (L-t.size) _ hb (by omega) (by omega)).mono ?_
   rintro e' w2 ⟨he,hb2⟩
   rw [e2] at he
   subst he
   go_wp2_with fail
   go_ret
   exact ⟨rfl,hb.trans (hb2.mono (by omega))⟩
  ·have e2:subI (L-t.size) e.size=-1:=if_neg (by omega)
   have e3:subI L (t.size+e.size)=-1:=if_neg (by omega)
   rw [e3]
   go_enter Tryz.func63,Tryz.ntmps63
   go_wp2_with fail
   refine (Ht L _ ((Below.refl _ _).alloc (Nat.le_refl _) _) hL hL2).mono ?_
   rintro e' w1 ⟨he,hb1⟩
   rw [e1] at he
   subst he
   have hs1:=hb1.size
   have hs0:w.heap.size<w1.heap.size:=by simp at hs1;omega
   have hc5:=hb1.cell (p:=⟨w.heap.size,5,none⟩) (by simp)
   have hb:Below w.heap.size w w1:=((Below.refl _ _).alloc (Nat.le_refl _) _).trans (hb1.mono (by simp))
   go_wp2_with fail
   refine (He (L-t.size) _ hb (by omega) (by omega)).mono ?_
   rintro e' w2 ⟨he,hb2⟩
   rw [e2] at he
   subst he
   go_wp2_with fail
   go_ret
   exact ⟨rfl,hb.trans (hb2.mono (by omega))⟩
 ·have e1:subI L t.size=-1:=if_neg h1
  have e3:subI L (t.size+e.size)=-1:=if_neg (by omega)
  rw [e3]
  go_enter Tryz.func63,Tryz.ntmps63
  go_wp2_with fail
  refine (Ht L _ ((Below.refl _ _).alloc (Nat.le_refl _) _) hL hL2).mono ?_
  rintro e' w1 ⟨he,hb1⟩
  rw [e1] at he
  subst he
  have hs1:=hb1.size
  have hb:Below w.heap.size w w1:=((Below.refl _ _).alloc (Nat.le_refl _) _).trans (hb1.mono (by simp))
  go_wp2_with fail
  go_ret
  exact ⟨rfl,hb⟩
theorem szStmtS_any (N:Nat):∀ (s:Sts) (A:Option Addr) (c:Nat) (L:Int) (w:World),s.size<N→RepV w 0 w.heap.size s A c→0≤L→L≤1048576 →
  Calls Tryz.prog 34 #[.slice A s.len c,.int .i64 L] w fun e w'=>e=.returned (.int .i64 (subI L s.size))∧Below w.heap.size w w':=by
 induction N with
 | zero=>intro s A c L w h;omega
 | succ N ih =>
  intro s A c L w hN hR hL hL2
  have hls:=s.len_le_size
  have hm:=hR.2.1
  have hlc:=hR.1
  unfold maxLen at hm
  by_cases h0:L<s.len
  ·have e3:subI L s.size=-1:=if_neg (by omega)
   rw [e3]
   go_enter Tryz.func34,Tryz.ntmps34
   go_wp2_with fail
   go_ret
   exact ⟨rfl,Below.refl _ _⟩
  ·go_enter Tryz.func34,Tryz.ntmps34
   go_wp2_with fail
   have hi0:s.size≤s.len+s.inner:=by unfold Sts.inner;omega
   have hi1:s.len+s.inner≤s.size:=by unfold Sts.inner;omega
   go_loopw [1,5] (fun l i wr=>∃ k:Nat,k≤s.len∧i=.int .i64 k∧l=.int .i64 (L-s.size+(s.drop k).inner)∧0≤L-s.size+(s.drop k).inner∧Below w.heap.size w wr) (fun _ i _=>s.len-(intOf i).toNat)
   case atStart=>exact ⟨0,Nat.zero_le _,rfl,by show Value.int .i64 (L-s.len)=.int .i64 (L-s.size+s.inner);congr 1;omega,by show 0≤L-s.size+s.inner;omega,Below.refl _ _⟩
   case round =>
    obtain ⟨k,hk,rfl,rfl,hpos,hb⟩:=hrel
    by_cases hlt:k<s.len
    ·obtain ⟨b,op,x,y,n,t,e,rfl,-,hbb,hd,At,ct,Ae,ce,⟨h0,h1,h2,h3,h4,h5⟩,hRt,hRe⟩:=(hR.below hb hb.size).elem hlt
     have hz:=RepV.drop_sizes hd
     have hin:(s.drop k).inner=t.size+e.size+(s.drop (k+1)).inner:=by rw [hd];exact Sts.inner_cons _ _ _ _ _ _ _
     have hil:=s.drop_inner_le k
     have HD:=Lib.hid hd
     have HI:=Lib.hid hin
     clear hd hin
     go_wp2_with fail
     refine (szStmt_any op x y n t e At Ae ct ce _ _ hpos (by omega) (fun L' w' hb' h1 h2=>ih t At ct L' w' (by omega) (hRt.below hb' hb'.size) h1 h2) (fun L' w' hb' h1 h2=>ih e Ae ce L' w' (by omega) (hRe.below hb' hb'.size) h1 h2)).mono ?_
     rintro e' w1 ⟨he,hb1⟩
     by_cases h6:(t.size:Int)+e.size≤L-s.size+(s.drop k).inner
     ·have e3:subI (L-s.size+(s.drop k).inner) (t.size+e.size)=L-s.size+(s.drop k).inner-t.size-e.size:=by unfold subI;rw [if_pos (by omega)];omega
      rw [e3] at he
      clear e3
      subst he
      have hbz:=hb.size
      go_wp2_with fail
      go_roundw
      case rel=>exact ⟨k+1,by omega,by go_num,by have:=HI.out;congr 1;omega,by have:=HI.out;omega,hb.trans (hb1.mono hbz)⟩
      case measure=>simp [intOf];omega
     ·have e3:subI (L-s.size+(s.drop k).inner) (t.size+e.size)=-1:=if_neg (by omega)
      rw [e3] at he
      clear e3
      subst he
      have hbz:=hb.size
      have e4:subI L s.size=-1:=if_neg (by have:=HI.out;omega)
      have E4:=Lib.hid e4
      clear e4
      go_wp2_with fail
      go_ret
      exact ⟨by rw [E4.out];rfl,hb.trans (hb1.mono hbz)⟩
    ·have hk':k=s.len:=by omega
     subst hk'
     have e5:(s.drop s.len).inner=0:=by rw [s.drop_len];rfl
     rw [e5] at hpos
     have e4:subI L s.size=L-s.size:=if_pos (by simpa using hpos)
     have E4:=Lib.hid e4
     have E5:=Lib.hid e5
     clear e4 e5
     go_wp2_with fail
     go_ret
     exact ⟨by rw [E4.out];show Ending.returned (.int .i64 (L-s.size+(s.drop s.len).inner))=_;rw [E5.out];simp,hb⟩
theorem szIntS_any (n c:Nat) (A:Option Addr) (L:Int) (w:World) (hn:n≤c) (hc:c≤maxLen) (hL:0≤L) (hL2:L≤1048576) :
  Calls Tryz.prog 33 #[.slice A n c,.int .i64 L] w fun e w'=>e=.returned (.int .i64 (subI L n))∧w=w':=by
 unfold maxLen at hc
 by_cases h0:L<n
 ·have e3:subI L n=-1:=if_neg (by omega)
  rw [e3]
  go_enter Tryz.func33,Tryz.ntmps33
  go_wp2_with fail
  go_ret
  exact ⟨rfl,rfl⟩
 ·have e3:subI L n=L-n:=if_pos (by omega)
  rw [e3]
  go_enter Tryz.func33,Tryz.ntmps33
  go_wp2_with fail
  go_ret
  exact ⟨rfl,rfl⟩
theorem szProgram_any (nt ct:Nat) (At:Option Addr) (s:Sts) (A:Option Addr) (c:Nat) (L:Int) (w:World) (hn:nt≤ct) (hc:ct≤maxLen) (hR:RepV w 0 w.heap.size s A c) (hL:0≤L) (hL2:L≤1048576) :
  Calls Tryz.prog 9 #[.agg #[.slice At nt ct,.slice A s.len c],.int .i64 L] w fun e w'=>e=.returned (.int .i64 (subI L (nt+s.size)))∧Below w.heap.size w w':=by
 by_cases h1:(nt:Int)≤L
 ·have e1:subI L nt=L-nt:=if_pos h1
  have hRa:RepV (w.alloc (.cells #[.slice At nt ct,.slice A s.len c] 25)) 0 (w.alloc (.cells #[.slice At nt ct,.slice A s.len c] 25)).heap.size s A c:=hR.below ((Below.refl _ _).alloc (Nat.le_refl _) _) (by simp)
  by_cases h2:(nt:Int)+s.size≤L
  ·have e2:subI (L-nt) s.size=L-nt-s.size:=if_pos (by omega)
   have e3:subI L (nt+s.size)=L-nt-s.size:=by unfold subI;rw [if_pos (by omega)];omega
   rw [e3]
   go_enter Tryz.func9,Tryz.ntmps9
   go_wp2_with fail
   refine (szIntS_any nt ct At L _ hn hc hL hL2).mono ?_
   rintro e' w1 ⟨he,rfl⟩
   rw [e1] at he
   subst he
   go_wp2_with fail
   refine (szStmtS_any (s.size+1) s A c _ _ (by omega) hRa (by omega) (by omega)).mono ?_
   rintro e' w1 ⟨he,hb1⟩
   rw [e2] at he
   subst he
   go_wp2_with fail
   go_ret
   exact ⟨rfl,((Below.refl _ _).alloc (Nat.le_refl _) _).trans (hb1.mono (by simp))⟩
  ·have e2:subI (L-nt) s.size=-1:=if_neg (by omega)
   have e3:subI L (nt+s.size)=-1:=if_neg (by omega)
   rw [e3]
   go_enter Tryz.func9,Tryz.ntmps9
   go_wp2_with fail
   refine (szIntS_any nt ct At L _ hn hc hL hL2).mono ?_
   rintro e' w1 ⟨he,rfl⟩
   rw [e1] at he
   subst he
   go_wp2_with fail
   refine (szStmtS_any (s.size+1) s A c _ _ (by omega) hRa (by omega) (by omega)).mono ?_
   rintro e' w1 ⟨he,hb1⟩
   rw [e2] at he
   subst he
   go_wp2_with fail
   go_ret
   exact ⟨rfl,((Below.refl _ _).alloc (Nat.le_refl _) _).trans (hb1.mono (by simp))⟩
 ·have e1:subI L nt=-1:=if_neg h1
  have e3:subI L (nt+s.size)=-1:=if_neg (by omega)
  rw [e3]
  go_enter Tryz.func9,Tryz.ntmps9
  go_wp2_with fail
  refine (szIntS_any nt ct At L _ hn hc hL hL2).mono ?_
  rintro e' w1 ⟨he,rfl⟩
  rw [e1] at he
  subst he
  go_wp2_with fail
  go_ret
  exact ⟨rfl,(Below.refl _ _).alloc (Nat.le_refl _) _⟩
theorem eqIntS_any (xs:List Int) (A A':Option Addr) (c c':Nat) (w:World) (hR:IntsV w 0 w.heap.size xs A c) (hR':IntsV w 0 w.heap.size xs A' c') :
  Calls Tryz.prog 30 #[.slice A xs.length c,.slice A' xs.length c'] w fun e w'=>e=.returned (.bool true)∧Below w.heap.size w w':=by
 have hm:=hR.2.1
 have hlc:=hR.1
 unfold maxLen at hm
 go_enter Tryz.func30,Tryz.ntmps30
 go_wp2_with fail
 go_loopw [5] (fun i wr=>∃ k:Nat,k≤xs.length∧i=.int .i64 k∧Below w.heap.size w wr) (fun i _=>xs.length-(intOf i).toNat)
 case atStart=>exact ⟨0,Nat.zero_le _,rfl,Below.refl _ _⟩
 case round =>
  obtain ⟨k,hk,rfl,hb⟩:=hrel
  by_cases hlt:k<xs.length
  ·obtain ⟨b,v,rfl,-,hbb,hx,hc⟩:=(hR.below hb hb.size).elem hlt
   obtain ⟨b',v',rfl,-,hbb',hx',hc'⟩:=(hR'.below hb hb.size).elem hlt
   rw [hx] at hx'
   injection hx' with hx'
   subst hx'
   have HX:=Lib.hid hx
   clear hx
   go_wp2_with fail
   go_quiet (fail)
   go_wp2_with fail
   go_roundw
   case rel=>exact ⟨k+1,by omega,by go_num,hb.trans ⟨rfl,rfl,rfl,Nat.le_refl _,fun _ _=>rfl⟩⟩
   case measure=>simp [intOf];omega
  ·have hk':k=xs.length:=by omega
   subst hk'
   go_wp2_with fail
   go_ret
   exact ⟨rfl,hb⟩
theorem heap2 (w:World) (o1 o2:Obj):((w.alloc o1).alloc o2).heap[w.heap.size]?=some o1∧((w.alloc o1).alloc o2).heap[w.heap.size+1]?=some o2∧((w.alloc o1).alloc o2).heap.size=w.heap.size+2:=by
 refine ⟨?_,?_,?_⟩
 ·show ((w.heap.push o1).push o2)[w.heap.size]?=_
  simp only [Array.getElem?_push,Array.size_push]
  rw [if_neg (by omega),if_pos trivial]
 ·show ((w.heap.push o1).push o2)[w.heap.size+1]?=_
  simp only [Array.getElem?_push,Array.size_push]
  rw [if_pos trivial]
 ·simp
theorem cell_of_blk {w:World} {g:Nat} {cs:Array Value} {t:TypeId} {fr:Nat × Nat} (h:w.heap[g]?=some (.cells cs t fr)) (i:Nat):w.cell? ⟨g,i,none⟩=cs[i]?:=by
 simp [World.cell?,h]
theorem eqStmt_any (op x y n:Int) (t e:Sts) (At Ae At' Ae':Option Addr) (ct ce ct' ce':Nat) (w:World)
  (Ht:∀ (w':World),Below w.heap.size w w'→Calls Tryz.prog 39 #[.slice At t.len ct,.slice At' t.len ct'] w' fun e w''=>e=.returned (.bool true)∧Below w'.heap.size w' w'')
  (He:∀ (w':World),Below w.heap.size w w'→Calls Tryz.prog 39 #[.slice Ae e.len ce,.slice Ae' e.len ce'] w' fun e w''=>e=.returned (.bool true)∧Below w'.heap.size w' w'') :
  Calls Tryz.prog 69 #[.agg #[.int .i64 op,.int .i64 x,.int .i64 y,.int .i64 n,.slice At t.len ct,.slice Ae e.len ce],.agg #[.int .i64 op,.int .i64 x,.int .i64 y,.int .i64 n,.slice At' t.len ct',.slice Ae' e.len ce']] w
   fun e w'=>e=.returned (.bool true)∧Below w.heap.size w w':=by
 go_enter Tryz.func69,Tryz.ntmps69
 go_wp2_with fail
 refine (Ht _ (((Below.refl _ _).alloc (Nat.le_refl _) _).alloc (by simp) _)).mono ?_
 rintro E w1 ⟨rfl,hb1⟩
 obtain ⟨q1,q2,q3⟩:=heap2 w _ _
 rw [q3] at hb1
 have hB1:=(hb1.block w.heap.size (by omega)).trans q1
 have hB2:=(hb1.block (w.heap.size+1) (by omega)).trans q2
 have hs1:=hb1.size
 rw [q3] at hs1
 have hb:Below w.heap.size w w1:=(((Below.refl _ _).alloc (Nat.le_refl _) _).alloc (by simp) _).trans (hb1.mono (by omega))
 clear q1 q2 q3 hb1
 have c5:w1.cell? ⟨w.heap.size,5,none⟩=some (.slice Ae e.len ce):=(cell_of_blk hB1 5).trans rfl
 have d5:w1.cell? ⟨w.heap.size+1,5,none⟩=some (.slice Ae' e.len ce'):=(cell_of_blk hB2 5).trans rfl
 clear hB1 hB2
 go_wp2_with fail
 refine (He _ hb).mono ?_
 rintro E w2 ⟨rfl,hb2⟩
 go_wp2_with fail
 go_ret
 exact ⟨rfl,hb.trans (hb2.mono (by omega))⟩
theorem eqStmtS_any (N:Nat):∀ (s:Sts) (A A':Option Addr) (c c':Nat) (w:World),s.size<N→RepV w 0 w.heap.size s A c→RepV w 0 w.heap.size s A' c' →
  Calls Tryz.prog 39 #[.slice A s.len c,.slice A' s.len c'] w fun e w'=>e=.returned (.bool true)∧Below w.heap.size w w':=by
 induction N with
 | zero=>intro s A A' c c' w h;omega
 | succ N ih =>
  intro s A A' c c' w hN hR hR'
  have hm:=hR.2.1
  have hlc:=hR.1
  unfold maxLen at hm
  go_enter Tryz.func39,Tryz.ntmps39
  go_wp2_with fail
  go_loopw [5] (fun i wr=>∃ k:Nat,k≤s.len∧i=.int .i64 k∧Below w.heap.size w wr) (fun i _=>s.len-(intOf i).toNat)
  case atStart=>exact ⟨0,Nat.zero_le _,rfl,Below.refl _ _⟩
  case round =>
   obtain ⟨k,hk,rfl,hb⟩:=hrel
   by_cases hlt:k<s.len
   ·obtain ⟨b,op,x,y,n,t,e,rfl,-,hbb,hd,At,ct,Ae,ce,⟨h0,h1,h2,h3,h4,h5⟩,hRt,hRe⟩:=(hR.below hb hb.size).elem hlt
    obtain ⟨b',op',x',y',n',t',e',rfl,-,hbb',hd',At',ct',Ae',ce',⟨g0,g1,g2,g3,g4,g5⟩,hRt',hRe'⟩:=(hR'.below hb hb.size).elem hlt
    have hz:=RepV.drop_sizes hd
    rw [hd] at hd'
    injection hd' with e1 e2 e3 e4 e5 e6
    subst e1 e2 e3 e4 e5 e6
    clear hd
    go_wp2_with fail
    go_still_tail 8,(by kernel_rfl)
    change wpList _ _ _ _ _ wr.drew
    have hbd:Below w.heap.size w wr.drew:=hb.drew
    have hRt1:RepV wr.drew 0 wr.drew.heap.size t At ct:=hRt.keep (Nat.le_refl _) (Nat.le_refl _) fun _ _ _=>rfl
    have hRe1:RepV wr.drew 0 wr.drew.heap.size e Ae ce:=hRe.keep (Nat.le_refl _) (Nat.le_refl _) fun _ _ _=>rfl
    have hRt1':RepV wr.drew 0 wr.drew.heap.size t At' ct':=hRt'.keep (Nat.le_refl _) (Nat.le_refl _) fun _ _ _=>rfl
    have hRe1':RepV wr.drew 0 wr.drew.heap.size e Ae' ce':=hRe'.keep (Nat.le_refl _) (Nat.le_refl _) fun _ _ _=>rfl
    clear hRt hRe hRt' hRe' hb h0 h1 h2 h3 h4 h5 g0 g1 g2 g3 g4 g5
    generalize wr.drew=w2 at *
    go_wp2_with fail
    refine (eqStmt_any op x y n t e At Ae At' Ae' ct ce ct' ce' _ (fun w' hb'=>ih t At At' ct ct' w' (by omega) (hRt1.below hb' hb'.size) (hRt1'.below hb' hb'.size)) (fun w' hb'=>ih e Ae Ae' ce ce' w' (by omega) (hRe1.below hb' hb'.size) (hRe1'.below hb' hb'.size))).mono ?_
    rintro E w3 ⟨rfl,hb3⟩
    have hbz:=hbd.size
    go_wp2_with fail
    go_roundw
    case rel=>exact ⟨k+1,by omega,by go_num,hbd.trans (hb3.mono hbz)⟩
    case measure=>simp [intOf];omega
   ·have hk':k=s.len:=by omega
    subst hk'
    go_wp2_with fail
    go_ret
    exact ⟨rfl,hb⟩
theorem eqProgram_any (ts:List Int) (s:Sts) (At At' As As':Option Addr) (ct ct' cs cs':Nat) (w:World) (hT:IntsV w 0 w.heap.size ts At ct) (hT':IntsV w 0 w.heap.size ts At' ct') (hR:RepV w 0 w.heap.size s As cs) (hR':RepV w 0 w.heap.size s As' cs') :
  Calls Tryz.prog 13 #[.agg #[.slice At ts.length ct,.slice As s.len cs],.agg #[.slice At' ts.length ct',.slice As' s.len cs']] w fun e w'=>e=.returned (.bool true)∧Below w.heap.size w w':=by
 go_enter Tryz.func13,Tryz.ntmps13
 go_wp2_with fail
 have hb0:=((Below.refl w.heap.size w).alloc (Nat.le_refl _) (.cells #[.slice At ts.length ct,.slice As s.len cs] 30)).alloc (by simp) (.cells #[.slice At' ts.length ct',.slice As' s.len cs'] 30)
 refine (eqIntS_any ts At At' ct ct' _ (hT.below hb0 (by simp;omega)) (hT'.below hb0 (by simp;omega))).mono ?_
 rintro E w1 ⟨rfl,hb1⟩
 obtain ⟨q1,q2,q3⟩:=heap2 w (.cells #[.slice At ts.length ct,.slice As s.len cs] 30) (.cells #[.slice At' ts.length ct',.slice As' s.len cs'] 30)
 rw [q3] at hb1
 have hB1:=(hb1.block w.heap.size (by omega)).trans q1
 have hB2:=(hb1.block (w.heap.size+1) (by omega)).trans q2
 have hs1:=hb1.size
 rw [q3] at hs1
 have hb:Below w.heap.size w w1:=hb0.trans (hb1.mono (by omega))
 clear q1 q2 q3 hb1 hb0
 have c1:w1.cell? ⟨w.heap.size,1,none⟩=some (.slice As s.len cs):=(cell_of_blk hB1 1).trans rfl
 have d1:w1.cell? ⟨w.heap.size+1,1,none⟩=some (.slice As' s.len cs'):=(cell_of_blk hB2 1).trans rfl
 clear hB1 hB2
 go_wp2_with fail
 refine (eqStmtS_any (s.size+1) s As As' cs cs' _ (by omega) (hR.below hb hb.size) (hR'.below hb hb.size)).mono ?_
 rintro E w2 ⟨rfl,hb2⟩
 go_wp2_with fail
 go_ret
 exact ⟨rfl,hb.trans (hb2.mono (by omega))⟩
open Go.ChangeShapes Go.WideShapes Go.ChangeAt Go.RowKit Go.Deep Go.Joins
theorem Tryz.cellsIntR:Tryz.prog.cellsOf 3=1:=by kernel_rfl
theorem Tryz.cellsStmtsR:Tryz.prog.cellsOf 23=1:=by kernel_rfl
theorem Tryz.cellsStmtR:Tryz.prog.cellsOf 117=6:=by kernel_rfl
theorem Tryz.cellsProgR:Tryz.prog.cellsOf 25=2:=by kernel_rfl
section
variable {H:Type} {enc:TypeId × Value→H} {W:World} {spare:Nat→Bool} {held:Bool}
theorem block_lt {a:Addr} {v:Value} (h:W.cell? a=some v):a.block<W.heap.size:=World.block_lt_of_cell? W a h
theorem read_ints {fuel:Nat} {v:Value} {x:DataW H × List MemPlace} (h:DataW.trod enc Tryz.prog W 0 spare held fuel 22 [v]=some x) :
  ∃ (ts:List Int) (A:Option Addr) (c:Nat),v=.slice A ts.length c∧IntsV W 0 W.heap.size ts A c:=by
 rcases DataW.trod_slice Tryz.underlying22 h with ⟨hcs,_⟩ | ⟨a,len,cap,elems,rest,n,_,hcs,_,_,hl,hm,hlen,hel,_⟩
 ·injection hcs with hcs _
  exact ⟨[],none,0,hcs,by simp,by simp [maxLen],fun h=>absurd h (by simp)⟩
 ·injection hcs with hcs _
  have hex:∀ i,i<len→∃ z:Int,W.cell? (a.add i)=some (.int .i64 z):=by
   intro i hi
   have h1:=hel i hi
   rw [Tryz.cellsIntR,Nat.mul_one,List.getElem?_eq_getElem (by omega)] at h1
   obtain ⟨cs',hc,ht⟩:=Option.bind_eq_some_iff.1 h1
   obtain ⟨_,_,hat⟩:=World.cells?_some hc
   obtain ⟨z,rfl,_,_⟩:=DataW.trod_int Tryz.underlying3 ht
   exact ⟨z,by simpa [Addr.add] using hat 0 (by omega)⟩
  obtain ⟨f,hf⟩:=choose_lt hex
  refine ⟨(List.range len).map f,some a,cap,by simpa using hcs,by simpa using hl,hm,fun h0=>⟨a,rfl,Nat.zero_le _,?_,fun j u hu=>?_⟩⟩
  ·have h0':0<len:=by simpa using h0
   have:=block_lt (hf 0 h0')
   rwa [block_add] at this
  ·have hj:j<len:=by
    have:=(List.getElem?_eq_some_iff.1 hu).1
    simpa using this
   rw [List.getElem?_map,List.getElem?_range hj] at hu
   injection hu with hu
   rw [hf j hj,hu]
def ElemAt (W:World) (a:Addr) (op x y n:Int) (t e:Sts):Prop :=
 (W.cell? a=some (.int .i64 op)∧W.cell? (a.add 1)=some (.int .i64 x)∧W.cell? (a.add 2)=some (.int .i64 y)∧W.cell? (a.add 3)=some (.int .i64 n)) ∧
  (∃ A c,W.cell? (a.add 4)=some (.slice A t.len c)∧RepV W 0 W.heap.size t A c)∧(∃ A c,W.cell? (a.add 5)=some (.slice A e.len c)∧RepV W 0 W.heap.size e A c)
theorem rep_of_elems (a:Addr) (len:Nat) (h:∀ i,i<len→∃ op x y n t e,ElemAt W (a.add (i*6)) op x y n t e):∀ j,j≤len→∃ s:Sts,s.len=j∧Rep W 0 W.heap.size s (a.add ((len-j)*6)):=by
 intro j
 induction j with
 | zero=>intro _;exact ⟨.nil,rfl,trivial⟩
 | succ j ih =>
  intro hj
  obtain ⟨s,hs,hR⟩:=ih (by omega)
  obtain ⟨op,x,y,n,t,e,⟨h0,h1,h2,h3⟩,⟨A,c,h4,r4⟩,⟨A',c',h5,r5⟩⟩:=h (len-(j+1)) (by omega)
  refine ⟨.cons op x y n t e s,by simp [Sts.len,hs],⟨h0,h1,h2,h3⟩,⟨A,c,h4,r4.1,r4.2.1,r4.2.2⟩,⟨A',c',h5,r5.1,r5.2.1,r5.2.2⟩,?_⟩
  rw [add_add,show (len-(j+1))*6+6=(len-j)*6 by omega]
  exact hR
theorem list6 {α:Type} {l:List α} (h:l.length=6):∃ a b c d e f,l=[a,b,c,d,e,f]:=by
 match l,h with
 | [a,b,c,d,e,f],_=>exact ⟨a,b,c,d,e,f,rfl⟩
theorem read_stmt {fuel:Nat} {cs:List Value} {x:DataW H × List MemPlace} (h:DataW.trod enc Tryz.prog W 0 spare held fuel 117 cs=some x)
  (ih:∀ m,m<fuel→∀ (v:Value) (x:DataW H × List MemPlace),DataW.trod enc Tryz.prog W 0 spare held m 23 [v]=some x→∃ (s:Sts) (A:Option Addr) (c:Nat),v=.slice A s.len c∧RepV W 0 W.heap.size s A c) :
  ∃ op x y n t e At ct Ae ce,cs=[.int .i64 op,.int .i64 x,.int .i64 y,.int .i64 n,.slice At t.len ct,.slice Ae e.len ce]∧RepV W 0 W.heap.size t At ct∧RepV W 0 W.heap.size e Ae ce:=by
 obtain ⟨ys,n',hn',_,hlen,hyl,hf⟩:=DataW.trod_struct Tryz.underlying117 h
 rw [Tryz.cellsStmtR] at hlen
 obtain ⟨c0,c1,c2,c3,c4,c5,rfl⟩:=list6 hlen
 have g0:DataW.trod enc Tryz.prog W 0 spare held n' 3 (([c0,c1,c2,c3,c4,c5].drop 0).take (Tryz.prog.cellsOf 3))=ys[0]?:=hf 0 _ rfl
 have g1:DataW.trod enc Tryz.prog W 0 spare held n' 3 (([c0,c1,c2,c3,c4,c5].drop 1).take (Tryz.prog.cellsOf 3))=ys[1]?:=hf 1 _ rfl
 have g2:DataW.trod enc Tryz.prog W 0 spare held n' 3 (([c0,c1,c2,c3,c4,c5].drop 2).take (Tryz.prog.cellsOf 3))=ys[2]?:=hf 2 _ rfl
 have g3:DataW.trod enc Tryz.prog W 0 spare held n' 3 (([c0,c1,c2,c3,c4,c5].drop 3).take (Tryz.prog.cellsOf 3))=ys[3]?:=hf 3 _ rfl
 have g4:DataW.trod enc Tryz.prog W 0 spare held n' 23 (([c0,c1,c2,c3,c4,c5].drop 4).take (Tryz.prog.cellsOf 23))=ys[4]?:=hf 4 _ rfl
 have g5:DataW.trod enc Tryz.prog W 0 spare held n' 23 (([c0,c1,c2,c3,c4,c5].drop 5).take (Tryz.prog.cellsOf 23))=ys[5]?:=hf 5 _ rfl
 have hys:ys.length=6:=hyl
 rw [List.getElem?_eq_getElem (by omega)] at g0 g1 g2 g3 g4 g5
 simp only [Tryz.cellsIntR,Tryz.cellsStmtsR,List.drop_succ_cons,List.drop_zero,List.take_succ_cons,List.take_zero] at g0 g1 g2 g3 g4 g5
 obtain ⟨op,e0,_,_⟩:=DataW.trod_int Tryz.underlying3 g0
 obtain ⟨x,e1,_,_⟩:=DataW.trod_int Tryz.underlying3 g1
 obtain ⟨y,e2,_,_⟩:=DataW.trod_int Tryz.underlying3 g2
 obtain ⟨n,e3,_,_⟩:=DataW.trod_int Tryz.underlying3 g3
 obtain ⟨t,At,ct,e4,r4⟩:=ih n' (by omega) _ _ g4
 obtain ⟨e,Ae,ce,e5,r5⟩:=ih n' (by omega) _ _ g5
 injection e0 with e0 _
 injection e1 with e1 _
 injection e2 with e2 _
 injection e3 with e3 _
 exact ⟨op,x,y,n,t,e,At,ct,Ae,ce,by rw [e0,e1,e2,e3,e4,e5],r4,r5⟩
theorem read_stmts (fuel:Nat):∀ (v:Value) (x:DataW H × List MemPlace),DataW.trod enc Tryz.prog W 0 spare held fuel 23 [v]=some x→∃ (s:Sts) (A:Option Addr) (c:Nat),v=.slice A s.len c∧RepV W 0 W.heap.size s A c:=by
 induction fuel using Nat.strongRecOn with
 | ind fuel IH =>
  intro v x h
  rcases DataW.trod_slice Tryz.underlying23 h with ⟨hcs,_⟩ | ⟨a,len,cap,elems,rest,n,hn,hcs,_,_,hl,hm,hlen,hel,_⟩
  ·injection hcs with hcs _
   exact ⟨.nil,none,0,hcs,by simp [Sts.len],by simp [maxLen],fun h=>absurd h (by simp [Sts.len])⟩
  ·injection hcs with hcs _
   have hex:∀ i,i<len→∃ op x y n t e,ElemAt W (a.add (i*6)) op x y n t e:=by
    intro i hi
    have h1:=hel i hi
    rw [Tryz.cellsStmtR,List.getElem?_eq_getElem (by omega)] at h1
    obtain ⟨cs',hc,ht⟩:=Option.bind_eq_some_iff.1 h1
    obtain ⟨_,_,hat⟩:=World.cells?_some hc
    obtain ⟨op,x,y,n',t,e,At,ct,Ae,ce,rfl,r4,r5⟩:=read_stmt ht (fun m hm=>IH m (by omega))
    exact ⟨op,x,y,n',t,e,⟨by simpa [Addr.add] using hat 0 (by omega),by simpa using hat 1 (by omega),by simpa using hat 2 (by omega),by simpa using hat 3 (by omega)⟩,
     ⟨At,ct,by simpa using hat 4 (by omega),r4⟩,⟨Ae,ce,by simpa using hat 5 (by omega),r5⟩⟩
   obtain ⟨s,hs,hR⟩:=rep_of_elems a len hex len (Nat.le_refl _)
   rw [Nat.sub_self,Nat.zero_mul] at hR
   subst hs
   refine ⟨s,some a,cap,hcs,hl,hm,fun h0=>⟨a,rfl,Nat.zero_le _,?_,by simpa [Addr.add] using hR⟩⟩
   obtain ⟨_,_,_,_,_,_,hE⟩:=hex 0 h0
   have:=block_lt hE.1.1
   rwa [block_add] at this
end
end Go.Proofs.YtedkkphogeealaaGreatDoor
