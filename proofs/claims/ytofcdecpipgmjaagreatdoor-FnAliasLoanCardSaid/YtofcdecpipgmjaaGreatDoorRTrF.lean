/- What comes to the variable that a point sets,by the model: l10Value. -/
import Derived.Test.YtofcdecpipgmjaaGreatDoorRTrA
import Derived.StillTailTactics
import Derived.Deep.DeepCutAuto
import Derived.Deep.CutBlock
import Derived.Test.YtofcdecpipgmjaaGreatDoorRL3G
import Derived.Deep.AppendLies
import Derived.Test.YtofcdecpipgmjaaGreatDoorRL2Xa
import Derived.Deep.RegionHeld3
import Derived.Deep.LoopGhost
namespace Go.Proofs.YtofcdecpipgmjaaGreatDoor.tr
open Go.RowKit Go.Deep
set_option linter.unusedVariables false
theorem hand_lt {q:Nat} {ts:List Int} {ns:List Nd} (hA:AllTyped ts ns) {a:Nat} {d:Nd} (hd:ns[a]?=some d) (h:d.op=3∨d.op=4∨d.op=5):0≤d.y∧d.y<ts.length:=by
 rcases hA.2 a d hd with ⟨_,_,h3⟩ | ⟨h3,_⟩
 ·refine tyAt_lt ?_
  rcases h with h4 | h4 | h4 <;> rw [h4] at h3 <;> simp [simpleB] at h3 <;> omega
 ·omega
set_option maxRecDepth 100000 in
set_option maxHeartbeats 4000000 in
theorem l10Value_any (q:Nat) (hq:q<3) (ts:List Int) (ns:List Nd) (At As:Option Addr) (ct sl cs:Nat) (a:Nat) (d:Nd) (u:Value) (B0:Nat) (m:M4) (S:Nat→Nat→Bool) (w:World) (hA:AllTyped ts ns) (hle:ns.length≤61) (hd:ns[a]?=some d) (h:S4 w B0 ts.length (szQ q ns.length) m S) :
  Calls Tryz.prog 103 #[.agg #[.slice At ts.length ct,.slice As sl cs],.agg #[.int .i64 d.op,.int .i64 d.x,.int .i64 d.y,.int .i64 d.n,u],.int .i64 a,m.val ts.length,.int .i64 q,.int .i64 (szQ q ns.length)] w
   fun E w'=>∃ F,E=.returned (.slice (some ⟨F,0,none⟩) (szQ q ns.length) (szQ q ns.length))∧FlW w' F (szQ q ns.length) (fun l=>gQ q d a l || (hQ q d && S d.y.toNat l))∧w.heap.size≤F∧Below w.heap.size w w':=by
 have han:=(List.getElem?_eq_some_iff.mp hd).1
 have ht6:=hA.1
 have hgl:∀ l,gQ q d a l=true→l<szQ q ns.length:=fun l hg=>gQ_lt hA hd hg
 have hhl:d.op=3∨d.op=4∨d.op=5→0≤d.y∧d.y<ts.length:=fun h9=>hand_lt (q:=q) hA hd h9
 have hnum:d.op=1→0≤d.n∧d.n≤9:=fun h9=>num_ok hA hd h9
 have hz61:szQ q ns.length≤61:=by
  unfold szQ
  split
  ·exact hle
  ·split
   ·exact hle
   ·omega
 have hz1:q=1→a<szQ q ns.length:=fun e=>by unfold szQ;rw [if_neg (by omega),if_pos e];exact han
 have hz0:q=0→a<szQ q ns.length:=fun e=>by unfold szQ;rw [if_pos e];exact han
 have hz2:q=2→szQ q ns.length=10:=fun e=>by unfold szQ;rw [if_neg (by omega),if_neg (by omega)]
 obtain ⟨z,hz⟩:∃ z,z=szQ q ns.length:=⟨_,rfl⟩
 rw [← hz] at h hgl hz61 hz1 hz0 hz2 ⊢
 clear hz
 have HS:=Lib.hid h
 have HGL:=Lib.hid hgl
 have HHL:=Lib.hid hhl
 have HNUM:=Lib.hid hnum
 have HFA:=Lib.hid h.fa
 obtain ⟨hf1,hf2⟩:=h.cf
 unfold maxLen at hf2
 have HQ1:=Lib.hid hz1
 have HQ0:=Lib.hid hz0
 have HQ2:=Lib.hid hz2
 have hb1:=((Below.refl w.heap.size w).alloc (Nat.le_refl _) (.cells #[.slice At ts.length ct,.slice As sl cs] 26)).alloc (by simp) (.cells #[.int .i64 d.op,.int .i64 d.x,.int .i64 d.y,.int .i64 d.n,u] 38)
 have hzz:((w.alloc (.cells #[.slice At ts.length ct,.slice As sl cs] 26)).alloc (.cells #[.int .i64 d.op,.int .i64 d.x,.int .i64 d.y,.int .i64 d.n,u] 38)).heap.size=w.heap.size+2:=by simp
 have hX:=heap_alloc_new (w.alloc (.cells #[.slice At ts.length ct,.slice As sl cs] 26)) (.cells #[.int .i64 d.op,.int .i64 d.x,.int .i64 d.y,.int .i64 d.n,u] 38)
 rw [show (w.alloc (.cells #[.slice At ts.length ct,.slice As sl cs] 26)).heap.size=w.heap.size+1 from by simp] at hX
 have HMK:Hid (∀ W:World,_):=Lib.hid (fun W=>run_make_row' (P:=Tryz.prog) 65 4 (.bool false) 1 Tryz.underlying65 Tryz.infoBool rfl .i64 .i64 z (by omega) (by omega) W)
 have hmk:=HMK.out ((w.alloc (.cells #[.slice At ts.length ct,.slice As sl cs] 26)).alloc (.cells #[.int .i64 d.op,.int .i64 d.x,.int .i64 d.y,.int .i64 d.n,u] 38))
 clear h hgl hhl hnum hz1 hz0 hz2 hA hd HMK
 have hq3:q=0∨q=1∨q=2:=by omega
 clear hq
 rcases hq3 with rfl | rfl | rfl
 all_goals
  unfold M4.val
  obtain ⟨A,hAA⟩:∃ A,A=m.fa:=⟨_,rfl⟩
  rw [← hAA] at HFA ⊢
  clear hAA
  go_enter Tryz.func103,Tryz.ntmps103
  go_upto_region 2 with fail
  clear hmk
  generalize (w.alloc (.cells #[.slice At ts.length ct,.slice As sl cs] 26)).alloc (.cells #[.int .i64 d.op,.int .i64 d.x,.int .i64 d.y,.int .i64 d.n,u] 38)=w1 at *
  have hfl:=(FlAt.made w1 z).wide
  have hb2:=(Below.refl w1.heap.size w1).alloc (Nat.le_refl _) (.cells (madeCells #[.bool false] z) 4)
  have hzv:w1.heap.size<(w1.alloc (.cells (madeCells #[.bool false] z) 4)).heap.size:=by simp
  generalize w1.alloc (.cells (madeCells #[.bool false] z) 4)=w2 at *
  have hX2:=(hb2.block (w.heap.size+1) (by omega)).trans hX
  have HB:=Lib.hid (hb1.trans (hb2.mono (by omega)))
  obtain ⟨V,hV⟩:∃ V,V=w.heap.size+2:=⟨_,rfl⟩
  have HVB:Hid (w.heap.size+2≤V∧V<w2.heap.size):=Lib.hid ⟨by omega,by omega⟩
  rw [hzz,← hV] at hfl
  rw [← hV]
  have HF:=Lib.hid hfl
  clear hb1 hzz hX hfl hb2 hzv hV
  obtain ⟨op,hop⟩:∃ op,op=d.op:=⟨_,rfl⟩
  have HOP:=Lib.hid hop
  have c0:w2.cell? ⟨w.heap.size+1,0,none⟩=some (.int .i64 op):=by rw [hop];exact (cB hX2 0).trans rfl
  have c2:w2.cell? ⟨w.heap.size+1,2,none⟩=some (.int .i64 d.y):=(cB hX2 2).trans rfl
  have c3:w2.cell? ⟨w.heap.size+1,3,none⟩=some (.int .i64 d.n):=(cB hX2 3).trans rfl
  clear hop hX2
  have ai0:(0:Int)≤(a:Int):=by omega
 ·by_cases h2:op=2
  ·subst h2
   have hI:a<z:=HQ0.out rfl
   have ii0:(0:Int)≤(a:Int):=by omega
   have ii1:(a:Int)<(z:Int):=by omega
   have cv:=HF.out.cell hI
   have sv:=HF.out.soft a
   have HN:=Lib.hid (HF.out.put hI true)
   have HBN:Hid (Below w.heap.size w (w2.setCell ⟨V,a,none⟩ (.bool true))):=Lib.hid (below_set HB.out (by have:=HVB.out;omega))
   clear HF HB
   go_wp2_with fail
   go_ret
   exact ⟨V,rfl,HN.out.congr (fun l hl=>by unfold gQ hQ;rw [if_pos rfl,if_pos rfl,decide_eq_true HOP.out.symm,decide_eq_false (show ¬ (d.op=3∨d.op=4∨d.op=5) from by have:=HOP.out;omega)];unfold setR;by_cases h9:l=a <;> simp [h9]),by have:=HVB.out;omega,HBN.out⟩
  ·by_cases h345:op=3∨op=4∨op=5
   ·have H3:Hid (d.op=3∨d.op=4∨d.op=5):=Lib.hid (by rw [← HOP.out];exact h345)
    have H2:Hid (¬ d.op=2):=Lib.hid (by rw [← HOP.out];exact h2)
    clear h2
    rcases h345 with rfl | rfl | rfl
    all_goals
     obtain ⟨y0,y1⟩:=HHL.out H3.out
     obtain ⟨Y,hY⟩:∃ Y:Nat,d.y=(Y:Int):=⟨d.y.toNat,by omega⟩
     have HY:=Lib.hid hY
     rw [hY] at c2 y0 y1
     have hYT:Y<ts.length:=by omega
     clear hY
     obtain rfl:=HFA.out (by omega)
     have hs2:=HS.out.keep (B:=B0) (w':=w2) (by have:=HB.out;exact ⟨this.os,this.tape,this.output,this.size,this.block⟩)
     have cg:=hs2.slot hYT
     have hsf:=hs2.fl Y hYT
     obtain ⟨k1,k2⟩:=hs2.cp Y hYT
     have hne:m.bl Y≠V:=by have h8:=(HS.out.fl Y hYT).lt;have:=HVB.out;omega
     have had:=l4Add_any z V z (m.bl Y) (m.cp Y) _ _ w2 (by omega) HF.out hsf hne (Nat.le_refl _) (by unfold maxLen;omega) k1 k2
     unfold maxLen at k2
     have HNE:=Lib.hid hne
     clear hs2 hsf hne HF
     go_wp2_with fail
     refine had.mono ?_
     rintro E w5 ⟨rfl,hf5,hg5⟩
     have HF5:=Lib.hid hf5
     have HB5:Hid (Below w.heap.size w w5):=Lib.hid (HB.out.grown hg5 HB.out.size (fun j hj=>by injection hj with hj;have:=HVB.out;omega))
     clear had hf5 hg5 HB
     go_wp2_with fail
     go_ret
     exact ⟨V,rfl,HF5.out.congr (fun l hl=>by unfold gQ hQ;rw [if_pos rfl,if_pos rfl,decide_eq_false H2.out,decide_eq_true H3.out,HY.out,Int.toNat_natCast];simp),by have:=HVB.out;omega,by first | exact HB5.out | exact HB5.out.drew⟩
   ·have H3:Hid (¬ (d.op=3∨d.op=4∨d.op=5)):=Lib.hid (by rw [← HOP.out];exact h345)
    have H2:Hid (¬ d.op=2):=Lib.hid (by rw [← HOP.out];exact h2)
    have e2:(op==2)=false:=by simp;omega
    have d2:decide (op=2)=false:=decide_eq_false (by omega)
    have e3:(op==3)=false:=by simp;omega
    have d3:decide (op=3)=false:=decide_eq_false (by omega)
    have e4:(op==4)=false:=by simp;omega
    have d4:decide (op=4)=false:=decide_eq_false (by omega)
    have e5:(op==5)=false:=by simp;omega
    have d5:decide (op=5)=false:=decide_eq_false (by omega)
    go_wp2_with fail
    go_ret
    exact ⟨V,rfl,HF.out.congr (fun l hl=>by unfold gQ hQ;rw [if_pos rfl,if_pos rfl,decide_eq_false H2.out,decide_eq_false H3.out];simp),by have:=HVB.out;omega,by first | exact HB.out | exact HB.out.drew⟩
 ·skip
  have hI:a<z:=HQ1.out rfl
  have ii0:(0:Int)≤(a:Int):=by omega
  have ii1:(a:Int)<(z:Int):=by omega
  have cv:=HF.out.cell hI
  have sv:=HF.out.soft a
  have HN:=Lib.hid (HF.out.put hI true)
  have HBN:Hid (Below w.heap.size w (w2.setCell ⟨V,a,none⟩ (.bool true))):=Lib.hid (below_set HB.out (by have:=HVB.out;omega))
  clear HF HB
  go_wp2_with fail
  go_ret
  exact ⟨V,rfl,HN.out.congr (fun l hl=>by unfold gQ hQ;rw [if_neg (by decide),if_pos rfl,if_neg (by decide),if_pos rfl];unfold setR;by_cases h9:l=a <;> simp [h9]),by have:=HVB.out;omega,HBN.out⟩
 ·have hz10:=HQ2.out rfl
  clear HQ0 HQ1 HQ2
  subst hz10
  by_cases h1:op=1
  ·subst h1
   obtain ⟨n0,n1⟩:=HNUM.out HOP.out.symm
   obtain ⟨M,hM⟩:∃ M:Nat,d.n=(M:Int):=⟨d.n.toNat,by omega⟩
   have HM:=Lib.hid hM
   rw [hM] at c3 n0 n1
   clear hM
   have hI:M<10:=by omega
   have ii0:(0:Int)≤(M:Int):=by omega
   have ii1:(M:Int)<(10:Int):=by omega
   have cv:=HF.out.cell hI
   have sv:=HF.out.soft M
   have HN:=Lib.hid (HF.out.put hI true)
   have HBN:Hid (Below w.heap.size w (w2.setCell ⟨V,M,none⟩ (.bool true))):=Lib.hid (below_set HB.out (by have:=HVB.out;omega))
   clear HF HB
   go_wp2_with fail
   go_ret
   exact ⟨V,rfl,HN.out.congr (fun l hl=>by unfold gQ hQ;rw [if_neg (by decide),if_neg (by decide),if_neg (by decide),if_neg (by decide),decide_eq_true HOP.out.symm,decide_eq_false (show ¬ d.op=6 from by have:=HOP.out;omega),decide_eq_false (show ¬ d.op=3 from by have:=HOP.out;omega),HM.out,show decide ((M:Int)=(l:Int))=decide (l=M) from decide_eq_decide.mpr (by omega)];unfold setR;by_cases h9:l=M <;> simp [h9]),by have:=HVB.out;omega,HBN.out⟩
  ·by_cases h3:op=3
   ·have H3:Hid (d.op=3):=Lib.hid (by rw [← HOP.out];exact h3)
    subst h3
    obtain ⟨y0,y1⟩:=HHL.out (.inl H3.out)
    obtain ⟨Y,hY⟩:∃ Y:Nat,d.y=(Y:Int):=⟨d.y.toNat,by omega⟩
    have HY:=Lib.hid hY
    rw [hY] at c2 y0 y1
    have hYT:Y<ts.length:=by omega
    clear hY
    obtain rfl:=HFA.out (by omega)
    have hs2:=HS.out.keep (B:=B0) (w':=w2) (by have:=HB.out;exact ⟨this.os,this.tape,this.output,this.size,this.block⟩)
    have cg:=hs2.slot hYT
    have hsf:=hs2.fl Y hYT
    obtain ⟨k1,k2⟩:=hs2.cp Y hYT
    have hne:m.bl Y≠V:=by have h8:=(HS.out.fl Y hYT).lt;have:=HVB.out;omega
    have had:=l4Add_any 10 V 10 (m.bl Y) (m.cp Y) _ _ w2 (by omega) HF.out hsf hne (Nat.le_refl _) (by unfold maxLen;omega) k1 k2
    unfold maxLen at k2
    have HNE:=Lib.hid hne
    clear hs2 hsf hne HF
    go_wp2_with fail
    refine had.mono ?_
    rintro E w5 ⟨rfl,hf5,hg5⟩
    have HF5:=Lib.hid hf5
    have HB5:Hid (Below w.heap.size w w5):=Lib.hid (HB.out.grown hg5 HB.out.size (fun j hj=>by injection hj with hj;have:=HVB.out;omega))
    clear had hf5 hg5 HB
    go_wp2_with fail
    go_ret
    exact ⟨V,rfl,HF5.out.congr (fun l hl=>by unfold gQ hQ;rw [if_neg (by decide),if_neg (by decide),if_neg (by decide),if_neg (by decide),decide_eq_false (show ¬ d.op=1 from by have:=H3.out;omega),decide_eq_false (show ¬ d.op=6 from by have:=H3.out;omega),decide_eq_true H3.out,HY.out,Int.toNat_natCast];simp),by have:=HVB.out;omega,by first | exact HB5.out | exact HB5.out.drew⟩
   ·by_cases h6:op=6
    ·have H6:Hid (d.op=6):=Lib.hid (by rw [← HOP.out];exact h6)
     subst h6
     go_wp2_with fail
     go_loopw [14] (fun i wr=>∃ k:Nat,i=.int .i64 k∧k≤10∧Hid (FlW wr V 10 (fun l=>decide (l<k)))∧Hid (Below w.heap.size w wr)) (fun i _=>10-(intOf i).toNat)
     case atStart=>exact ⟨0,rfl,Nat.zero_le _,Lib.hid (HF.out.congr fun l _=>by simp),HB⟩
     case round =>
      clear HF HB
      obtain ⟨k,rfl,hk,HF,HB⟩:=hrel
      by_cases hlt:k<10
      ·have cv:=HF.out.cell hlt
       have sv:=HF.out.soft k
       have ki0:(0:Int)≤(k:Int):=by omega
       have ki1:(k:Int)<10:=by omega
       have HN:Hid (FlW (wr.setCell ⟨V,k,none⟩ (.bool true)) V 10 (fun l=>decide (l<k+1))):=Lib.hid ((HF.out.put hlt true).congr fun l _=>by
        unfold setR
        by_cases h9:l=k
        ·subst h9
         rw [if_pos rfl]
         exact decide_eq_true (by omega)
        ·rw [if_neg h9]
         exact decide_eq_decide.mpr (by omega))
       have HBN:Hid (Below w.heap.size w (wr.setCell ⟨V,k,none⟩ (.bool true))):=Lib.hid (below_set HB.out (by have:=HVB.out;omega))
       clear HF HB
       go_wp2_with fail
       refine ⟨⟨k+1,by simp,by omega,HN,HBN⟩,?_⟩
       simp only [intOf]
       omega
      ·have hke:k=10:=by omega
       subst hke
       go_wp2_with fail
       go_ret
       exact ⟨V,rfl,HF.out.congr (fun l hl=>by unfold gQ hQ;rw [if_neg (by decide),if_neg (by decide),if_neg (by decide),if_neg (by decide),decide_eq_false (show ¬ d.op=1 from by have:=H6.out;omega),decide_eq_true H6.out,decide_eq_false (show ¬ d.op=3 from by have:=H6.out;omega)];simp [hl]),by have:=HVB.out;omega,by first | exact HB.out | exact HB.out.drew⟩
    ·have H1:Hid (¬ d.op=1):=Lib.hid (by rw [← HOP.out];exact h1)
     have H3:Hid (¬ d.op=3):=Lib.hid (by rw [← HOP.out];exact h3)
     have H6:Hid (¬ d.op=6):=Lib.hid (by rw [← HOP.out];exact h6)
     have e1:(op==1)=false:=by simp;omega
     have d1:decide (op=1)=false:=decide_eq_false (by omega)
     have e3:(op==3)=false:=by simp;omega
     have d3:decide (op=3)=false:=decide_eq_false (by omega)
     have e6:(op==6)=false:=by simp;omega
     have d6:decide (op=6)=false:=decide_eq_false (by omega)
     go_wp2_with fail
     go_ret
     exact ⟨V,rfl,HF.out.congr (fun l hl=>by unfold gQ hQ;rw [if_neg (by decide),if_neg (by decide),if_neg (by decide),if_neg (by decide),decide_eq_false H1.out,decide_eq_false H3.out,decide_eq_false H6.out];simp),by have:=HVB.out;omega,by first | exact HB.out | exact HB.out.drew⟩
end Go.Proofs.YtofcdecpipgmjaaGreatDoor.tr
namespace Go.Proofs.YtofcdecpipgmjaaGreatDoor.tr
open Go.RowKit Go.Deep
set_option linter.unusedVariables false
def keptF (ts:List Int) (d:Nd) (S:Nat→Nat→Bool) (v l:Nat):Bool:=if useI ts d (v:Int)=2 then false else S v l
theorem aftT_kept {q:Nat} {ts:List Int} {d:Nd} {a:Nat} {S:Nat→Nat→Bool} (h:setI d<0) (v l:Nat):aftT q ts d a S v l=keptF ts d S v l:=by
 unfold aftT keptF
 rw [if_neg (by omega)]
theorem aftT_set {q:Nat} {ts:List Int} {d:Nd} {a:Nat} {S:Nat→Nat→Bool} {k:Nat} (h:setI d=(k:Int)) (v l:Nat):aftT q ts d a S v l=setR (keptF ts d S) k (fun l=>gQ q d a l || (hQ q d && S d.y.toNat l)) v l:=by
 unfold aftT keptF
 rw [h]
 by_cases hv:v=k
 ·subst hv
  rw [setR_at,if_pos rfl]
 ·rw [setR_ne _ _ _ hv,if_neg (by omega)]
structure AftS (ts:List Int) (At As:Option Addr) (ct sl cs:Nat) (d:Nd) (u:Value) (w0 w:World):Prop where
 pb:w.heap[w0.heap.size]?=some (.cells #[.slice At ts.length ct,.slice As sl cs] 26 (0,0))
 xb:w.heap[w0.heap.size+1]?=some (.cells #[.int .i64 d.op,.int .i64 d.x,.int .i64 d.y,.int .i64 d.n,u] 38 (0,0))
 below:Below w0.heap.size w0 w
 lt:w0.heap.size+2≤w.heap.size
section
variable {ts:List Int} {At As:Option Addr} {ct sl cs:Nat} {d:Nd} {u:Value} {w0 w w':World}
theorem AftS.keep (h:AftS ts At As ct sl cs d u w0 w) (hb:Below w.heap.size w w'):AftS ts At As ct sl cs d u w0 w' :=
 ⟨(hb.block _ (heap_lt h.pb)).trans h.pb,(hb.block _ (heap_lt h.xb)).trans h.xb,h.below.trans (hb.mono h.below.size),Nat.le_trans h.lt hb.size⟩
theorem AftS.grown {B k s:Nat} {v:Value} {t:TypeId} {xs:List Value} (h:AftS ts At As ct sl cs d u w0 w) (ho:w.ownsRow B t s v k xs) (hB:w0.heap.size+2≤B) (hg:w.grownBy w' v.ownBlock):AftS ts At As ct sl cs d u w0 w' :=
 ⟨(hg.block _ (heap_lt h.pb) (fun e=>by have:=(ho.lt _ e.symm).1;omega)).trans h.pb,(hg.block _ (heap_lt h.xb) (fun e=>by have:=(ho.lt _ e.symm).1;omega)).trans h.xb,h.below.grown hg h.below.size (fun j hj=>by have:=(ho.lt j hj).1;omega),Nat.le_trans h.lt hg.size⟩
theorem AftS.pt (h:AftS ts At As ct sl cs d u w0 w):w.cell? ⟨w0.heap.size+1,0,none⟩=some (.int .i64 d.op)∧w.cell? ⟨w0.heap.size+1,1,none⟩=some (.int .i64 d.x)∧w.cell? ⟨w0.heap.size+1,2,none⟩=some (.int .i64 d.y)∧w.cell? ⟨w0.heap.size+1,3,none⟩=some (.int .i64 d.n)∧w.cell? ⟨w0.heap.size+1,4,none⟩=some u :=
 ⟨(cB h.xb 0).trans rfl,(cB h.xb 1).trans rfl,(cB h.xb 2).trans rfl,(cB h.xb 3).trans rfl,(cB h.xb 4).trans rfl⟩
theorem AftS.pg (h:AftS ts At As ct sl cs d u w0 w):w.cell? ⟨w0.heap.size,0,none⟩=some (.slice At ts.length ct)∧w.cell? ⟨w0.heap.size,1,none⟩=some (.slice As sl cs) :=
 ⟨(cB h.pb 0).trans rfl,(cB h.pb 1).trans rfl⟩
end
set_option maxRecDepth 100000 in
set_option maxHeartbeats 8000000 in
theorem l10After_any (q:Nat) (hq:q<3) (ts:List Int) (ns:List Nd) (At As:Option Addr) (ct sl cs:Nat) (a:Nat) (d:Nd) (Au:Option Addr) (lu cu:Nat) (B0:Nat) (m:M4) (S:Nat→Nat→Bool) (w:World) (hA:AllTyped ts ns) (hle:ns.length≤61) (hd:ns[a]?=some d) (hT:IntsV w 0 w.heap.size ts At ct) (h:S4 w B0 ts.length (szQ q ns.length) m S) :
  Calls Tryz.prog 73 #[.agg #[.slice At ts.length ct,.slice As sl cs],.agg #[.int .i64 d.op,.int .i64 d.x,.int .i64 d.y,.int .i64 d.n,.slice Au lu cu],.int .i64 a,m.val ts.length,.int .i64 q,.int .i64 (szQ q ns.length)] w
   fun E w'=>∃ m':M4,E=.returned (m'.val ts.length)∧S4 w' w.heap.size ts.length (szQ q ns.length) m' (aftT q ts d a S)∧Below w.heap.size w w':=by
 obtain ⟨i0,hi,hzz0,hzz1,hzz2⟩:=info_parts Tryz.infoBools
 have HI:=Lib.hid hi
 have HZ0:=Lib.hid hzz0
 have HZ1:=Lib.hid hzz1
 have HZ2:=Lib.hid hzz2
 clear hi hzz0 hzz1 hzz2
 have ht6:=hA.1
 have hty:=hA.2 a d hd
 have hset:setI d<0∨∃ v:Nat,setI d=(v:Int)∧v<ts.length:=by
  rcases Int.lt_or_le (setI d) 0 with h9 | h9
  ·exact .inl h9
  ·exact .inr ⟨(setI d).toNat,by omega,by have:=typed_set hty (setI d) h9 rfl;omega⟩
 have hz61:szQ q ns.length≤61:=by
  unfold szQ
  split
  ·exact hle
  ·split
   ·exact hle
   ·omega
 have hval:∀ W:World,Below w.heap.size w W→Calls Tryz.prog 103 #[.agg #[.slice At ts.length ct,.slice As sl cs],.agg #[.int .i64 d.op,.int .i64 d.x,.int .i64 d.y,.int .i64 d.n,.slice Au lu cu],.int .i64 a,m.val ts.length,.int .i64 q,.int .i64 (szQ q ns.length)] W
   fun E w'=>∃ F,E=.returned (.slice (some ⟨F,0,none⟩) (szQ q ns.length) (szQ q ns.length))∧FlW w' F (szQ q ns.length) (fun l=>gQ q d a l || (hQ q d && S d.y.toNat l))∧W.heap.size≤F∧Below W.heap.size W w':=fun W hW=>l10Value_any q hq ts ns At As ct sl cs a d (.slice Au lu cu) B0 m S W hA hle hd (h.keep hW)
 obtain ⟨z,hz⟩:∃ z,z=szQ q ns.length:=⟨_,rfl⟩
 rw [← hz] at h hz61 hval ⊢
 have hu3:∀ W:World,Below w.heap.size w W→∀ v:Nat,v<ts.length→Calls Tryz.prog 66 #[.slice At ts.length ct,.agg #[.int .i64 d.op,.int .i64 d.x,.int .i64 d.y,.int .i64 d.n,.slice Au lu cu],.int .i64 v] W fun E w'=>E=.returned (.int .i64 (useI ts d v))∧Below W.heap.size W w':=fun W hW v hv=>l3Use_any ts At ct d.op d.x d.y d.n d.next (.slice Au lu cu) v W hv (hT.below hW hW.size)
 have hs3:∀ W:World,Calls Tryz.prog 65 #[.agg #[.int .i64 d.op,.int .i64 d.x,.int .i64 d.y,.int .i64 d.n,.slice Au lu cu]] W fun E w'=>E=.returned (.int .i64 (setI d))∧Below W.heap.size W w':=fun W=>l3Set_any d.op d.x d.y d.n d.next (.slice Au lu cu) W
 have HS:=Lib.hid h
 have HFA:=Lib.hid h.fa
 obtain ⟨hf1,hf2⟩:=h.cf
 unfold maxLen at hf2
 have HU:=Lib.hid hu3
 have HS3:=Lib.hid hs3
 have HSET:=Lib.hid hset
 have HVAL:=Lib.hid hval
 have HTM:=Lib.hid hT
 have hTm:=hT.2.1
 have hTl:=hT.1
 unfold maxLen at hTm
 have HMK:Hid (∀ W:World,_):=Lib.hid (fun W=>run_make_row' (P:=Tryz.prog) 65 4 (.bool false) 1 Tryz.underlying65 Tryz.infoBool rfl .i64 .i64 z (by omega) (by omega) W)
 have hb1:=((Below.refl w.heap.size w).alloc (Nat.le_refl _) (.cells #[.slice At ts.length ct,.slice As sl cs] 26)).alloc (by simp) (.cells #[.int .i64 d.op,.int .i64 d.x,.int .i64 d.y,.int .i64 d.n,.slice Au lu cu] 38)
 have hzz:((w.alloc (.cells #[.slice At ts.length ct,.slice As sl cs] 26)).alloc (.cells #[.int .i64 d.op,.int .i64 d.x,.int .i64 d.y,.int .i64 d.n,.slice Au lu cu] 38)).heap.size=w.heap.size+2:=by simp
 have hP1:=heap_alloc_new w (.cells #[.slice At ts.length ct,.slice As sl cs] 26)
 have hX:=heap_alloc_new (w.alloc (.cells #[.slice At ts.length ct,.slice As sl cs] 26)) (.cells #[.int .i64 d.op,.int .i64 d.x,.int .i64 d.y,.int .i64 d.n,.slice Au lu cu] 38)
 have hP2:=(((Below.refl _ _).alloc (Nat.le_refl _) (.cells #[.int .i64 d.op,.int .i64 d.x,.int .i64 d.y,.int .i64 d.n,.slice Au lu cu] 38):Below (w.alloc (.cells #[.slice At ts.length ct,.slice As sl cs] 26)).heap.size _ _).block _ (heap_lt hP1)).trans hP1
 rw [show (w.alloc (.cells #[.slice At ts.length ct,.slice As sl cs] 26)).heap.size=w.heap.size+1 from by simp] at hX
 have HA0:Hid (AftS ts At As ct sl cs d (.slice Au lu cu) w ((w.alloc (.cells #[.slice At ts.length ct,.slice As sl cs] 26)).alloc (.cells #[.int .i64 d.op,.int .i64 d.x,.int .i64 d.y,.int .i64 d.n,.slice Au lu cu] 38))):=Lib.hid ⟨hP2,hX,hb1,by rw [hzz];exact Nat.le_refl _⟩
 clear h hset hval hT hu3 hs3 hb1 hP1 hX hP2 hzz hty hA hd
 unfold M4.val
 obtain ⟨A,hAA⟩:∃ A,A=m.fa:=⟨_,rfl⟩
 have HVAL:Hid (∀ W:World,Below w.heap.size w W→Calls Tryz.prog 103 #[.agg #[.slice At ts.length ct,.slice As sl cs],.agg #[.int .i64 d.op,.int .i64 d.x,.int .i64 d.y,.int .i64 d.n,.slice Au lu cu],.int .i64 a,.slice m.fa ts.length m.cf,.int .i64 q,.int .i64 z] W
   fun E w'=>∃ F,E=.returned (.slice (some ⟨F,0,none⟩) z z)∧FlW w' F z (fun l=>gQ q d a l || (hQ q d && S d.y.toNat l))∧W.heap.size≤F∧Below W.heap.size W w'):=HVAL
 rw [← hAA] at HFA HVAL ⊢
 clear hAA hz
 go_enter Tryz.func73,Tryz.ntmps73
 go_upto_region 1 with fail
 generalize (w.alloc (.cells #[.slice At ts.length ct,.slice As sl cs] 26)).alloc (.cells #[.int .i64 d.op,.int .i64 d.x,.int .i64 d.y,.int .i64 d.n,.slice Au lu cu] 38)=w1 at *
 have hR0:=Rows4.nil w1 (w.heap.size+2) z (keptF ts d S) HA0.out.lt
 have hbe:=(Below.refl w1.heap.size w1).alloc (Nat.le_refl _) (.cells #[] 65)
 replace HA0:=Lib.hid (HA0.out.keep hbe)
 have HR0:=Lib.hid hR0
 clear hR0 hbe
 go_wp2_with fail
 generalize w1.alloc (.cells #[] 65)=w2 at *
 go_loopw [13,14] (fun ov i wr=>∃ (k:Nat) (bl cp:Nat→Nat),i=.int .i64 k∧k≤ts.length∧Hid (Rows4 wr (w.heap.size+2) ov k z bl cp (keptF ts d S))∧Hid (AftS ts At As ct sl cs d (.slice Au lu cu) w wr)) (fun _ i _=>ts.length-(intOf i).toNat)
 case atStart=>exact ⟨0,_,_,rfl,Nat.zero_le _,HR0,HA0⟩
 case round =>
  clear HR0 HA0
  obtain ⟨k,bl,cp,rfl,hk,HR,HAF⟩:=hrel
  obtain ⟨Ao,co,ho,hko,hcm⟩:=HR.out.slice
  subst ho
  unfold maxLen at hcm
  have hw2:=HAF.out.lt
  have hp:=HAF.out.pt
  have hg:=HAF.out.pg
  obtain ⟨p0,p1,p2,p3,p4⟩:=hp
  obtain ⟨g0,g1⟩:=hg
  by_cases hlt:k<ts.length
  ·have hu:=HU.out wr HAF.out.below k hlt
   obtain ⟨U,hUU⟩:∃ U,useI ts d k=U:=⟨_,rfl⟩
   rw [hUU] at hu
   have HUE:=Lib.hid hUU
   clear hUU
   go_wp2_with fail
   refine hu.mono ?_
   rintro E w3 ⟨rfl,hb3⟩
   have HR3:=Lib.hid (HR.out.below hb3)
   have HA3:=Lib.hid (HAF.out.keep hb3)
   have hw3:=HA3.out.lt
   clear hu hb3 HR HAF p0 p1 p2 p3 p4 g0 g1 hw2
   by_cases h2:U=2
   ·subst h2
    have hmk:=HMK.out w3
    have hfl:=((FlAt.made w3 z).wide).congr (gl:=keptF ts d S k) (fun l _=>by unfold keptF;rw [if_pos HUE.out])
    have hb4:=(Below.refl w3.heap.size w3).alloc (Nat.le_refl _) (.cells (madeCells #[.bool false] z) 4)
    have hz4:(w3.alloc (.cells (madeCells #[.bool false] z) 4)).heap.size=w3.heap.size+1:=by simp
    have HLT:Hid (∀ v,v<k→bl v<w3.heap.size):=Lib.hid (fun v hv=>HR3.out.lt hv)
    have hb5:=(Below.refl (w3.alloc (.cells (madeCells #[.bool false] z) 4)).heap.size (w3.alloc (.cells (madeCells #[.bool false] z) 4))).alloc (Nat.le_refl _) (.cells #[.slice (some ⟨w3.heap.size,0,none⟩) z z] 65)
    have hnw:=heap_alloc_new (w3.alloc (.cells (madeCells #[.bool false] z) 4)) (.cells #[.slice (some ⟨w3.heap.size,0,none⟩) z z] 65)
    rw [hz4] at hnw
    have hr5:=(HR3.out.below hb4).below hb5
    have HA5:=Lib.hid ((HA3.out.keep hb4).keep hb5)
    have HF:=Lib.hid (hfl.keep (hb5.block _ hfl.lt))
    have HLE:=Lib.hid HA5.out.lt
    have HFL:=Lib.hid hw3
    have HNW:=Lib.hid hnw
    replace HLT:Hid (∀ v,v<k→bl v<w3.heap.size):=Lib.hid (fun v hv=>HR3.out.lt hv)
    obtain ⟨xs,hown,h1,h2⟩:=hr5
    have HO:=Lib.hid hown
    have H1:=Lib.hid h1
    have H2:=Lib.hid h2
    clear hb4 hb5 hfl hz4 hown h1 h2 hnw HR3 HA3 hw3
    go_wp2_with (at_builtin;refine wpList_append_lies _ rfl _ _ 66 rfl (w.heap.size+2) 65 i0 (.slice none 0 0) 1 24 Tryz.underlying66 HI.out HZ0.out HZ1.out HZ2.out rfl (by decide) _ _ _ rfl HO.out ⟨_,0,none⟩ 1 1 [.slice (some ⟨w3.heap.size,0,none⟩) z z] rfl rfl ?x41 ?x42 (by decide) ?x43 ?x44 ?x45 _ rfl ?_)
    try (case x41=>exact World.news_of_block HNW.out)
    try (case x42=>(intro u9 hu9;simp only [List.mem_cons,List.not_mem_nil,or_false] at hu9;subst hu9;rfl))
    try (case x43=>(unfold maxLen;omega))
    try (case x44=>omega)
    try (case x45=>exact HLE.out)
    intro g9 cap9 w9 hown9 hgg9 hat9 hlt9
    have HMO:=Lib.hid (Rows4.more (F:=w3.heap.size) (c:=z) HO.out H1.out H2.out HF.out (fun v hv=>Nat.ne_of_lt (HLT.out v hv)) HFL.out ⟨Nat.le_refl _,by unfold maxLen;omega⟩ hgg9 hown9)
    have HA9:=Lib.hid (HA5.out.grown HO.out (Nat.le_refl _) hgg9)
    clear hown9 hgg9 hat9 hlt9 HO H1 H2 HF HA5 HNW HLE
    go_wp2_with fail
    refine ⟨⟨k+1,_,_,by simp,by omega,HMO,HA9⟩,?_⟩
    simp only [intOf]
    omega
   ·have hU2:(U==2)=false:=by simp [h2]
    have hU3:decide (U=2)=false:=decide_eq_false h2
    obtain rfl:=HFA.out (by omega)
    have hbE:=(Below.refl w3.heap.size w3).alloc (Nat.le_refl _) (.cells #[] 4)
    have hL0:=heap_alloc_new w3 (.cells #[] 4)
    have hSE:=(HS.out.keep HA3.out.below).keep hbE
    have cS:=hSE.slot hlt
    have HL0:=Lib.hid hL0
    have HFK:=Lib.hid (hSE.fl k hlt)
    obtain ⟨kc1,kc2⟩:=hSE.cp k hlt
    unfold maxLen at kc2
    have ki0:(0:Int)≤(k:Int):=by omega
    have ki1:(k:Int)<(ts.length:Int):=by omega
    have HBE:=Lib.hid hbE
    clear hbE hL0 hSE
    go_wp2_with (at_builtin;refine wpList_append_flags rfl _ _ rfl w3.heap.size (m.bl k) (m.cp k) z (S k) rfl HL0.out rfl HFK.out (by omega) ?_)
    intro G cap w4 hG hcap hcm2 hGl hgr
    have hb4:Below w3.heap.size w3 w4:=HBE.out.grown hgr (by simp) (fun j hj=>by cases hj)
    have hb5:=(Below.refl w4.heap.size w4).alloc (Nat.le_refl _) (.cells #[.slice (some ⟨G,0,none⟩) z cap] 65)
    have hnw:=heap_alloc_new w4 (.cells #[.slice (some ⟨G,0,none⟩) z cap] 65)
    have hr5:=(HR3.out.below hb4).below hb5
    have HA5:=Lib.hid ((HA3.out.keep hb4).keep hb5)
    have HF:Hid (FlW (w4.alloc (.cells #[.slice (some ⟨G,0,none⟩) z cap] 65)) G z (keptF ts d S k)):=Lib.hid ((hG.keep (hb5.block _ hG.lt)).congr (fun l _=>by unfold keptF;rw [HUE.out,if_neg h2]))
    have HLE:=Lib.hid HA5.out.lt
    have HFL:Hid (w.heap.size+2≤G):=Lib.hid (by omega)
    have HNW:=Lib.hid hnw
    have HLT:Hid (∀ v,v<k→bl v<G):=Lib.hid (fun v hv=>by have:=HR3.out.lt hv;omega)
    have HCP:Hid (z≤cap∧cap≤maxLen):=Lib.hid ⟨hcap,hcm2⟩
    unfold maxLen at hcm2
    obtain ⟨xs,hown,h1,h2'⟩:=hr5
    have HO:=Lib.hid hown
    have H1:=Lib.hid h1
    have H2:=Lib.hid h2'
    clear hb4 hb5 hown h1 h2' hnw HR3 HA3 hw3 hG hGl hgr HBE HL0 HFK cS
    go_wp2_with (at_builtin;refine wpList_append_lies _ rfl _ _ 66 rfl (w.heap.size+2) 65 i0 (.slice none 0 0) 1 24 Tryz.underlying66 HI.out HZ0.out HZ1.out HZ2.out rfl (by decide) _ _ _ rfl HO.out ⟨_,0,none⟩ 1 1 [.slice (some ⟨G,0,none⟩) z cap] rfl rfl ?x41 ?x42 (by decide) ?x43 ?x44 ?x45 _ rfl ?_)
    try (case x41=>exact World.news_of_block HNW.out)
    try (case x42=>(intro u9 hu9;simp only [List.mem_cons,List.not_mem_nil,or_false] at hu9;subst hu9;rfl))
    try (case x43=>(unfold maxLen;omega))
    try (case x44=>omega)
    try (case x45=>exact HLE.out)
    intro g9 cap9 w9 hown9 hgg9 hat9 hlt9
    have HMO:=Lib.hid (Rows4.more (F:=G) (c:=cap) HO.out H1.out H2.out HF.out (fun v hv=>Nat.ne_of_lt (HLT.out v hv)) HFL.out HCP.out hgg9 hown9)
    have HA9:=Lib.hid (HA5.out.grown HO.out (Nat.le_refl _) hgg9)
    clear hown9 hgg9 hat9 hlt9 HO H1 H2 HF HA5 HNW HLE
    go_wp2_with fail
    refine ⟨⟨k+1,_,_,by simp,by omega,HMO,HA9⟩,?_⟩
    simp only [intOf]
    omega
  ·have hke:k=ts.length:=by omega
   have hs:=HS3.out wr
   go_wp2_with fail
   refine hs.mono ?_
   rintro E w3 ⟨rfl,hb3⟩
   have HR3:=Lib.hid (HR.out.below hb3)
   have HA3:=Lib.hid (HAF.out.keep hb3)
   clear hs hb3 HR HAF p0 p1 p2 p3 p4 g0 g1 hw2
   subst hke
   rcases HSET.out with hn | ⟨v,hv,hvt⟩
   ·have hge:decide (0≤setI d)=false:=decide_eq_false (by omega)
    have HFIN:Hid (S4 w3 w.heap.size ts.length z _ (aftT q ts d a S)):=Lib.hid ((HR3.out.done.lower (Nat.le_add_right _ 2)).congr fun v l _ _=>aftT_kept hn v l)
    have HBF:=Lib.hid HA3.out.below
    clear HR3 HA3 hn
    go_wp2_with fail
    go_ret
    exact ⟨_,rfl,HFIN.out,by first | exact HBF.out | exact HBF.out.drew⟩
   ·obtain ⟨G,rfl⟩:∃ G,Ao=some ⟨G,0,none⟩:=by
     obtain ⟨xs,ho,_⟩:=HR3.out
     rcases ho.2 with ⟨_,e⟩ | ⟨g,cap,cur,hv',_⟩
     ·omega
     ·injection hv' with hv' _ _
      exact ⟨g,hv'⟩
    have hd:=HR3.out.done
    have hval:=HVAL.out w3 HA3.out.below
    obtain ⟨p0,p1,p2,p3,p4⟩:=HA3.out.pt
    obtain ⟨g0,g1⟩:=HA3.out.pg
    have HD:=Lib.hid hd
    have HV:=Lib.hid hv
    have HA3':=HA3
    rw [hv]
    have vi0:(0:Int)≤(v:Int):=by omega
    have vi1:(v:Int)<(ts.length:Int):=by omega
    clear hd HR3 HA3 hv
    go_wp2_with fail
    refine hval.mono ?_
    rintro E w4 ⟨F,rfl,hF,hFl,hb4⟩
    have hd4:=HD.out.keep hb4
    have cv:w4.cell? ⟨G,v,none⟩=some (.slice (some ⟨bl v,0,none⟩) z (cp v)):=hd4.slot hvt
    have sv:w4.frozen? ⟨G,v,none⟩=false:=hd4.soft (by omega) v
    have hne:∀ u,u<ts.length→u≠v→bl u≠F:=fun u hu _=>by have:=(HD.out.fl u hu).lt;have:bl u<w3.heap.size:=this;omega
    have hw3:=HA3'.out.lt
    have HFIN:=Lib.hid (((hd4.swap hvt hF hne (by omega) ⟨Nat.le_refl _,by unfold maxLen;omega⟩).lower (Nat.le_add_right w.heap.size 2)).congr (S':=aftT q ts d a S) fun v' l _ _=>aftT_set HV.out v' l)
    have HBF:Hid (Below w.heap.size w (w4.setCell ⟨G,v,none⟩ (.slice (some ⟨F,0,none⟩) z z))):=Lib.hid (below_set (HA3'.out.below.trans (hb4.mono HA3'.out.below.size)) (by have:=HD.out.og (by omega);have:w.heap.size+2≤G:=this;omega))
    clear hval hF hFl hb4 hd4 hne HA3' HD p0 p1 p2 p3 p4 g0 g1
    go_wp2_with fail
    go_ret
    exact ⟨_,rfl,HFIN.out,by first | exact HBF.out | exact HBF.out.drew⟩
end Go.Proofs.YtofcdecpipgmjaaGreatDoor.tr
namespace Go.Proofs.YtofcdecpipgmjaaGreatDoor.tr
open Go.RowKit Go.Deep
set_option linter.unusedVariables false
set_option maxRecDepth 100000 in
set_option maxHeartbeats 4000000 in
theorem l10Merge_any (B B' T z:Nat) (m m':M4) (x y:Nat→Nat→Bool) (w:World) (hT:T≤6) (hz:z≤61) (h:S4 w B T z m y) (h':S4 w B' T z m' x) (hne:∀ u v,u<T→v<T→m.bl u≠m'.bl v) :
  Calls Tryz.prog 74 #[m.val T,m'.val T] w fun E w'=>∃ r:Bool,E=.returned (.bool r)∧(r=true↔¬ within T z x y)∧Wr w w' (rowsOf T m)∧S4 w' B T z m (fun v l=>y v l || x v l):=by
 have HP:Hid (∀ W,Wr w W (rowsOf T m)→S4 W B' T z m' x):=Lib.hid (fun W hW=>h'.wr hW (fun u hu hr=>by obtain ⟨v,hv,e⟩:=hr;exact hne v u hv hu e.symm) (fun h0=>h.g_off h' h0))
 obtain ⟨hc1,hc2⟩:=h.cf
 obtain ⟨hd1,hd2⟩:=h'.cf
 unfold maxLen at hc2 hd2
 have HFA:=Lib.hid h.fa
 have HFB:=Lib.hid h'.fa
 have HS0:Hid (S4 w B T z m (mrg x y 0 0)):=Lib.hid (h.congr fun v l _ _=>mrg_start x y v l)
 have HW0:=Lib.hid (Wr.refl w (rowsOf T m))
 clear h h' hne
 unfold M4.val
 obtain ⟨A,hA⟩:∃ A,A=m.fa:=⟨_,rfl⟩
 obtain ⟨A',hA'⟩:∃ A',A'=m'.fa:=⟨_,rfl⟩
 rw [← hA] at HFA ⊢
 rw [← hA'] at HFB ⊢
 clear hA hA'
 go_enter Tryz.func74,Tryz.ntmps74
 go_wp2_with fail
 go_loopw [5,6,7] (fun c v i wr=>∃ (k:Nat) (cb:Bool),c=.bool cb∧v=.int .i64 k∧k≤T∧Hid (cb=true↔fresh T z x y k 0)∧Hid (S4 wr B T z m (mrg x y k 0))∧Hid (Wr w wr (rowsOf T m))) (fun c v i _=>T-(intOf v).toNat)
 case atStart=>exact ⟨0,false,rfl,rfl,Nat.zero_le _,Lib.hid ⟨fun h=>(by cases h),fun h=>absurd h fresh_start⟩,HS0,HW0⟩
 case round =>
  clear HS0 HW0
  obtain ⟨k,cb,rfl,rfl,hk,HC,HS,HW⟩:=hrel
  by_cases hlt:k<T
  ·obtain rfl:=HFA.out (by omega)
   obtain rfl:=HFB.out (by omega)
   have ki0:(0:Int)≤(k:Int):=by omega
   have ki1:(k:Int)<(T:Int):=by omega
   go_wp2_with fail
   go_loopw [5,7] (fun c i wr=>∃ (j:Nat) (cb:Bool),c=.bool cb∧i=.int .i64 j∧j≤z∧Hid (cb=true↔fresh T z x y k j)∧Hid (S4 wr B T z m (mrg x y k j))∧Hid (Wr w wr (rowsOf T m))) (fun c i _=>z-(intOf i).toNat)
   case atStart=>exact ⟨0,cb,rfl,rfl,Nat.zero_le _,HC,HS,HW⟩
   case round =>
    clear HC HS HW
    obtain ⟨j,cb,rfl,rfl,hj,HC,HS,HW⟩:=hrel
    have hP:=HP.out _ HW.out
    have s1:=hP.slot hlt
    have s2:=HS.out.slot hlt
    obtain ⟨q1,q2⟩:=hP.cp k hlt
    obtain ⟨r1,r2⟩:=HS.out.cp k hlt
    unfold maxLen at q2 r2
    by_cases hjl:j<z
    ·have c1:=(hP.fl k hlt).cell hjl
     have c2:=(HS.out.fl k hlt).cell hjl
     have e2:=(HS.out.fl k hlt).soft j
     rw [mrg_here] at c2
     have ji0:(0:Int)≤(j:Int):=by omega
     have ji1:(j:Int)<(z:Int):=by omega
     obtain ⟨a,ha⟩:∃ a,a=x k j:=⟨_,rfl⟩
     obtain ⟨b,hb⟩:∃ b,b=y k j:=⟨_,rfl⟩
     rw [← ha] at c1
     rw [← hb] at c2
     have HA:=Lib.hid ha
     have HB:=Lib.hid hb
     clear ha hb hP
     by_cases hab:a=true∧b=false
     ·obtain ⟨rfl,rfl⟩:=hab
      have hg:=Lib.grownBy_setCell wr (m.bl k) j (.bool true)
      have HN:Hid (S4 (wr.setCell ⟨m.bl k,j,none⟩ (.bool true)) B T z m (mrg x y k (j+1))):=Lib.hid ((HS.out.write hlt hg ((HS.out.fl k hlt).put hjl true)).congr fun v l _ _=>mrg_put HA.out.symm v l)
      have HWN:Hid (Wr w (wr.setCell ⟨m.bl k,j,none⟩ (.bool true)) (rowsOf T m)):=Lib.hid (HW.out.set ⟨k,hlt,rfl⟩ _)
      have HF:Hid (true=true↔fresh T z x y k (j+1)):=Lib.hid ⟨fun _=>fresh_put hlt hjl HA.out.symm HB.out.symm,fun _=>rfl⟩
      clear hg HC HS HW
      go_wp2_with fail
      refine ⟨⟨j+1,true,rfl,by simp,by omega,HF,HN,HWN⟩,?_⟩
      simp only [intOf]
      omega
     ·have hxy:x k j=true→y k j=true:=fun h9=>by
       rw [← HB.out]
       rw [← HA.out] at h9
       cases b
       ·exact absurd ⟨h9,rfl⟩ hab
       ·rfl
      have HN:Hid (S4 wr B T z m (mrg x y k (j+1))):=Lib.hid (HS.out.congr fun v l _ _=>mrg_skip hxy v l)
      have HF:Hid (cb=true↔fresh T z x y k (j+1)):=Lib.hid (HC.out.trans (fresh_skip hxy).symm)
      have hcases:a=false∨(a=true∧b=true):=by
       cases a <;> cases b <;> simp_all
      clear hxy HC HS hab HA HB
      rcases hcases with rfl | ⟨rfl,rfl⟩
      all_goals
       go_wp2_with fail
       refine ⟨⟨j+1,cb,rfl,by simp,by omega,HF,HN,HW⟩,?_⟩
       simp only [intOf]
       omega
    ·have hjz:j=z:=by omega
     have HN:Hid (S4 wr B T z m (mrg x y (k+1) 0)):=Lib.hid (HS.out.congr fun v l _ hl=>by rw [hjz];exact mrg_row hl)
     have HF:Hid (cb=true↔fresh T z x y (k+1) 0):=Lib.hid (HC.out.trans (by rw [hjz];exact fresh_row.symm))
     clear hP HC HS hjz
     go_wp2_with fail
     refine ⟨⟨k+1,cb,rfl,by simp,by omega,HF,HN,HW⟩,?_⟩
     simp only [intOf]
     omega
  ·have hke:k=T:=by omega
   subst hke
   have HN:Hid (S4 wr B k z m (fun v l=>y v l || x v l)):=Lib.hid (HS.out.congr fun v l hv _=>(mrg_last hv).symm)
   have HF:=Lib.hid (HC.out.trans fresh_last)
   clear HC HS
   go_wp2_with fail
   go_ret
   exact ⟨cb,rfl,HF.out,HW.out,HN.out⟩
end Go.Proofs.YtofcdecpipgmjaaGreatDoor.tr
namespace Go.Proofs.YtofcdecpipgmjaaGreatDoor
open Go.RowKit Go.Deep
set_option linter.unusedVariables false
theorem NextV.aSlice {w:World} {B:Nat} {u:Value} {next:List Int} (h:NextV w B u next):∃ A c,u=.slice A next.length c:=by
 rcases h with ⟨h1,h2⟩ | ⟨g,h1,_⟩
 ·subst h1 h2
  exact ⟨none,0,rfl⟩
 ·exact ⟨_,_,h1⟩
theorem NextV.aCell {w:World} {B:Nat} {u:Value} {next:List Int} (h:NextV w B u next) {x:Nat} (hx:x<next.length):∃ g,u=.slice (some ⟨g,0,none⟩) next.length next.length∧∀ v,next[x]?=some v→w.cell? ⟨g,x,none⟩=some (.int .i64 v):=by
 rcases h with ⟨h1,_⟩ | ⟨g,h1,_,h3⟩
 ·rw [h1] at hx
  exact absurd hx (Nat.not_lt_zero _)
 ·refine ⟨g,h1,fun v hv=>?_⟩
  rw [cB h3]
  simp [hv]
theorem Tryz.infoBoolss:(Tryz.prog.info? 66).map (fun i=>(i.zero,i.size,i.bytes))=some (some (.slice none 0 0),1,24):=by kernel_rfl
namespace tr
def LPost (q:Nat) (ts:List Int) (ns:List Nd) (w:World) (E:Ending) (w':World):Prop :=
 ∃ R c ms o,E=.returned (.slice (some ⟨R,0,none⟩) ns.length c)∧ns.length≤c∧c≤maxLen∧F4 w' w.heap.size R ns.length ts.length (szQ q ns.length) ms o∧(∀ m v l,m<ns.length→(o m v l=true↔TrB q ts ns m v l))∧Below w.heap.size w w'
set_option maxRecDepth 100000 in
set_option maxHeartbeats 8000000 in
theorem l10Flow_any (q:Nat) (hq:q<3) (ts:List Int) (s:Sts) (At As:Option Addr) (ct cs:Nat) (w:World) (h1:validB ts s=true) (hT:IntsV w 0 w.heap.size ts At ct) (hR:RepV w 0 w.heap.size s As cs) :
  Calls Tryz.prog 44 #[.agg #[.slice At ts.length ct,.slice As s.len cs],.int .i64 q,.int .i64 (szQ q (progPts s).length)] w (LPost q ts (progPts s) w):=by
 have hb0:=(Below.refl w.heap.size w).alloc (Nat.le_refl _) (.cells #[.slice At ts.length ct,.slice As s.len cs] 26)
 have hz0:(w.alloc (.cells #[.slice At ts.length ct,.slice As s.len cs] 26)).heap.size=w.heap.size+1:=by simp
 have hB0:=heap_alloc_new w (.cells #[.slice At ts.length ct,.slice As s.len cs] 26)
 have h30:=valid_size h1
 have hAT:=progPts_allTyped h1
 have ht6:=hAT.1
 have hD:=progPts_ok s (valid_ok h1).2.1
 have hle:(progPts s).length≤61:=by
  have:=s.npts_le
  rw [progPts_len]
  omega
 have hn0:0<(progPts s).length:=by
  rw [progPts_len]
  omega
 have hlp:=l2Points_any ts s At As ct cs _ (by omega) (hR.below hb0 (by simp))
 generalize progPts s=ds at hlp hD hle hn0 hAT ⊢
 generalize s.npts=zq at hD
 have hz61:szQ q ds.length≤61:=by
  unfold szQ
  split
  ·exact hle
  ·split
   ·exact hle
   ·omega
 have HZ:=Lib.hid hz0
 have HB:=Lib.hid hB0
 have HD:=Lib.hid hD
 have HT:=Lib.hid hT
 have HAT:=Lib.hid hAT
 have hTm:=hT.2.1
 have hTl:=hT.1
 unfold maxLen at hTm
 obtain ⟨i0,hi,hzz0,hzz1,hzz2⟩:=info_parts Tryz.infoBools
 have Hi0:=Lib.hid hi
 have Hi00:=Lib.hid hzz0
 have Hi01:=Lib.hid hzz1
 have Hi02:=Lib.hid hzz2
 clear hi hzz0 hzz1 hzz2
 obtain ⟨j0,hi,hzz0,hzz1,hzz2⟩:=info_parts Tryz.infoBoolss
 have Hj0:=Lib.hid hi
 have Hj00:=Lib.hid hzz0
 have Hj01:=Lib.hid hzz1
 have Hj02:=Lib.hid hzz2
 clear hi hzz0 hzz1 hzz2
 have haft:Hid (∀ (W:World) (k:Nat) (d:Nd) (Au:Option Addr) (cu:Nat) (B0:Nat) (m:M4) (S:Nat→Nat→Bool),Below w.heap.size w W→ds[k]?=some d→S4 W B0 ts.length (szQ q ds.length) m S→Calls Tryz.prog 73 #[.agg #[.slice At ts.length ct,.slice As s.len cs],.agg #[.int .i64 d.op,.int .i64 d.x,.int .i64 d.y,.int .i64 d.n,.slice Au d.next.length cu],.int .i64 k,.slice m.fa ts.length m.cf,.int .i64 q,.int .i64 (szQ q ds.length)] W
   fun E w'=>∃ m':M4,E=.returned (.slice m'.fa ts.length m'.cf)∧S4 w' W.heap.size ts.length (szQ q ds.length) m' (aftT q ts d k S)∧Below W.heap.size W w'):=Lib.hid (fun W k d Au cu B0 m S hW hd hS=>l10After_any q hq ts ds At As ct s.len cs k d Au d.next.length cu B0 m S W hAT hle hd (hT.below hW hW.size) hS)
 obtain ⟨z,hz⟩:∃ z,z=szQ q ds.length:=⟨_,rfl⟩
 rw [← hz] at hz61 haft
 have HZZ:=Lib.hid hz
 rw [← hz]
 have HPOST:Hid (∀ E w',(∃ R c ms o,E=.returned (.slice (some ⟨R,0,none⟩) ds.length c)∧ds.length≤c∧c≤maxLen∧F4 w' w.heap.size R ds.length ts.length z ms o∧(∀ m v l,m<ds.length→(o m v l=true↔TrB q ts ds m v l))∧Below w.heap.size w w')→LPost q ts ds w E w'):=Lib.hid (fun E w' h9=>by rw [HZZ.out] at h9;exact h9)
 have HMK:Hid (∀ W:World,_):=Lib.hid (fun W=>run_make_row' (P:=Tryz.prog) 65 4 (.bool false) 1 Tryz.underlying65 Tryz.infoBool rfl .i64 .i64 z (by omega) (by omega) W)
 clear h1 hz0 hB0 hD hT hR hAT hz
 go_enter Tryz.func44,Tryz.ntmps44
 go_wp2_with fail
 refine hlp.mono ?_
 rintro E w1 ⟨v,rfl,hP,hb1⟩
 rw [HZ.out] at hP hb1
 have hs1:=hb1.size
 rw [HZ.out] at hs1
 have hbw:Below w.heap.size w w1:=hb0.trans (hb1.mono (by omega))
 obtain ⟨g,cap,hv,hgB,hgl,hgc,hgm⟩:=hP.form hn0
 subst hv
 unfold maxLen at hgm
 have HB1:=Lib.hid ((hb1.block w.heap.size (by omega)).trans HB.out)
 have HP:=Lib.hid hP
 have HBW:=Lib.hid hbw
 have HR0:Hid (∃ ms,Rows5 (w1.alloc (.cells #[] 66)) w1.heap.size (.slice (some ⟨w1.heap.size,0,none⟩) 0 0) 0 ts.length z ms):=Lib.hid ⟨_,Rows5.nil w1 w1.heap.size ts.length z (Nat.le_refl _)⟩
 have HBA:=Lib.hid ((Below.refl w1.heap.size w1).alloc (Nat.le_refl _) (.cells #[] 66))
 clear hlp hP hb1 hb0 hbw
 go_wp2_with fail
 generalize w1.alloc (.cells #[] 66)=wA at *
 go_loopw [8,9] (fun qv i wr=>∃ k:Nat,i=.int .i64 k∧k≤ds.length∧Hid (∃ ms,Rows5 wr w1.heap.size qv k ts.length z ms)∧Hid (Below w1.heap.size w1 wr)) (fun _ i _=>ds.length-(intOf i).toNat)
 case atStart=>exact ⟨0,rfl,Nat.zero_le _,HR0,HBA⟩
 case round =>
  clear HR0 HBA
  obtain ⟨k,rfl,hk,HRW,HBR⟩:=hrel
  obtain ⟨ms0,hms⟩:=HRW.out
  obtain ⟨Ao,co,ho,-,-⟩:=hms.slice
  subst ho
  have HMS:=Lib.hid hms
  have hbz:=HBR.out.size
  have hB9:=(HBR.out.block w.heap.size (by omega)).trans HB1.out
  have HP0:Hid (wr.cell? ⟨w.heap.size,0,none⟩=some (.slice At ts.length ct)):=Lib.hid ((cB hB9 0).trans rfl)
  clear hms HRW hB9
  by_cases hlt:k<ds.length
  ·obtain ⟨wt,rfl⟩:∃ z9,z9=wr:=⟨_,rfl⟩
   have hbE:=(Below.refl wt.heap.size wt).alloc (Nat.le_refl _) (.cells #[] 65)
   have HRN:Hid (∃ bl cp,Rows4 (wt.alloc (.cells #[] 65)) wt.heap.size (.slice (some ⟨wt.heap.size,0,none⟩) 0 0) 0 z bl cp (fun _ _=>false)):=Lib.hid ⟨_,_,Rows4.nil wt wt.heap.size z _ (Nat.le_refl _)⟩
   have HBN:=Lib.hid hbE
   clear hbE
   go_wp2_with fail
   generalize wt.alloc (.cells #[] 65)=wE at *
   go_loopw [10,11] (fun rv i wr=>∃ j:Nat,i=.int .i64 j∧j≤ts.length∧Hid (∃ bl cp,Rows4 wr wt.heap.size rv j z bl cp (fun _ _=>false))∧Hid (Below wt.heap.size wt wr)) (fun _ i _=>ts.length-(intOf i).toNat)
   case atStart=>exact ⟨0,rfl,Nat.zero_le _,HRN,HBN⟩
   case round =>
    clear HRN HBN
    obtain ⟨j,rfl,hj,HRN,HBN⟩:=hrel
    obtain ⟨bl,cp,hrn⟩:=HRN.out
    obtain ⟨Ar,cr,hr,hr1,hr2⟩:=hrn.slice
    subst hr
    unfold maxLen at hr2
    have p0:=(HBN.out.cell (p:=⟨w.heap.size,0,none⟩) (by show w.heap.size<wt.heap.size;omega)).trans HP0.out
    by_cases hjt:j<ts.length
    ·have hmk:=HMK.out wr
     have hfl:=(FlAt.made wr z).wide
     have hb4:=(Below.refl wr.heap.size wr).alloc (Nat.le_refl _) (.cells (madeCells #[.bool false] z) 4)
     have hz4:(wr.alloc (.cells (madeCells #[.bool false] z) 4)).heap.size=wr.heap.size+1:=by simp
     have hb5:=(Below.refl (wr.alloc (.cells (madeCells #[.bool false] z) 4)).heap.size (wr.alloc (.cells (madeCells #[.bool false] z) 4))).alloc (Nat.le_refl _) (.cells #[.slice (some ⟨wr.heap.size,0,none⟩) z z] 65)
     have hnw:=heap_alloc_new (wr.alloc (.cells (madeCells #[.bool false] z) 4)) (.cells #[.slice (some ⟨wr.heap.size,0,none⟩) z z] 65)
     rw [hz4] at hnw
     have hr5:=(hrn.below hb4).below hb5
     have HB5:=Lib.hid ((HBN.out.trans (hb4.mono HBN.out.size)).trans (hb5.mono (Nat.le_trans HBN.out.size hb4.size)))
     have HF:=Lib.hid (hfl.keep (hb5.block _ hfl.lt))
     have HLE:=Lib.hid HB5.out.size
     have HFL:=Lib.hid HBN.out.size
     have HNW:=Lib.hid hnw
     have HLT:Hid (∀ v,v<j→bl v<wr.heap.size):=Lib.hid (fun v hv=>hrn.lt hv)
     obtain ⟨xs,hown,h1,h2⟩:=hr5
     have HO:=Lib.hid hown
     have H1:=Lib.hid h1
     have H2:=Lib.hid h2
     clear hb4 hb5 hfl hz4 hown h1 h2 hnw HRN HBN hrn
     go_wp2_with (at_builtin;refine wpList_append_lies _ rfl _ _ 66 rfl wt.heap.size 65 i0 (.slice none 0 0) 1 24 Tryz.underlying66 Hi0.out Hi00.out Hi01.out Hi02.out rfl (by decide) _ _ _ rfl HO.out ⟨_,0,none⟩ 1 1 [.slice (some ⟨wr.heap.size,0,none⟩) z z] rfl rfl ?x41 ?x42 (by decide) ?x43 ?x44 ?x45 _ rfl ?_)
     try (case x41=>exact World.news_of_block HNW.out)
     try (case x42=>first | rfl | (intro u9 hu9;simp only [List.mem_cons,List.not_mem_nil,or_false] at hu9;subst hu9;rfl))
     try (case x43=>(unfold maxLen;omega))
     try (case x44=>omega)
     try (case x45=>first | exact HLE.out | (have:=HFL.out;omega))
     intro g9 cap9 w9 hown9 hgg9 hat9 hlt9
     have HMO:Hid (∃ bl cp,Rows4 w9 wt.heap.size (.slice (some ⟨g9,0,none⟩) (j+1) cap9) (j+1) z bl cp (fun _ _=>false)):=Lib.hid ⟨_,_,Rows4.more (F:=wr.heap.size) (c:=z) HO.out H1.out H2.out HF.out (fun v hv=>Nat.ne_of_lt (HLT.out v hv)) HFL.out ⟨Nat.le_refl _,by unfold maxLen;omega⟩ hgg9 hown9⟩
     have HB9:=Lib.hid (HB5.out.grown hgg9 HB5.out.size (fun i hi=>(HO.out.lt i hi).1))
     clear hown9 hgg9 hat9 hlt9 HO H1 H2 HF HNW HLE HB5
     go_wp2_with fail
     refine ⟨⟨j+1,by simp,by omega,HMO,HB9⟩,?_⟩
     simp only [intOf]
     omega
    ·have hje:j=ts.length:=by omega
     subst hje
     have hdn:=hrn.done
     obtain ⟨m,hm⟩:∃ m:M4,m=⟨Ar,blkOf Ar,cr,bl,cp⟩:=⟨_,rfl⟩
     rw [← hm] at hdn
     have hb4:=(Below.refl wr.heap.size wr).alloc (Nat.le_refl _) (.cells #[.slice Ar ts.length cr] 66)
     have hnw:=heap_alloc_new wr (.cells #[.slice Ar ts.length cr] 66)
     have HM:=Lib.hid (hdn.keep hb4)
     have HMS4:=Lib.hid ((HMS.out.below HBN.out).below hb4)
     have HB4:=Lib.hid ((HBR.out.trans (HBN.out.mono hbz)).trans (hb4.mono (Nat.le_trans hbz HBN.out.size)))
     have HLT:Hid (∀ i u,i<k→u<ts.length→(ms0 i).bl u<wt.heap.size):=Lib.hid (fun i u hi hu=>HMS.out.lt hi hu)
     have HEQ:Hid (m.fa=Ar∧m.cf=cr):=Lib.hid (by rw [hm];exact ⟨rfl,rfl⟩)
     obtain ⟨xs,ho,h1,h2,h3⟩:=HMS4.out
     have HO:=Lib.hid ho
     have HH1:=Lib.hid h1
     have HH2:=Lib.hid h2
     have HH3:=Lib.hid h3
     have HNW:=Lib.hid hnw
     have HLE:=Lib.hid HB4.out.size
     have hkds:k≤61:=by omega
     clear ho h1 h2 h3 HMS4 hnw hb4 hdn hm HRN hrn HBN HMS
     go_wp2_with (at_builtin;refine wpList_append_lies _ rfl _ _ 67 rfl w1.heap.size 66 j0 (.slice none 0 0) 1 24 Tryz.underlying67 Hj0.out Hj00.out Hj01.out Hj02.out rfl (by decide) _ _ _ rfl HO.out ⟨_,0,none⟩ 1 1 [.slice Ar ts.length cr] rfl rfl ?y41 ?y42 (by decide) ?y43 ?y44 ?y45 _ rfl ?_)
     try (case y41=>exact World.news_of_block HNW.out)
     try (case y42=>first | rfl | (intro u9 hu9;simp only [List.mem_cons,List.not_mem_nil,or_false] at hu9;subst hu9;rfl))
     try (case y43=>(unfold maxLen;omega))
     try (case y44=>omega)
     try (case y45=>first | exact HLE.out | (have:=HFL.out;omega))
     intro g9 cap9 w9 hown9 hgg9 hat9 hlt9
     have hmore:=Rows5.more (m:=m) (K:=wt.heap.size) HO.out HH1.out HH2.out HH3.out HM.out hbz HLT.out hgg9 (by rw [HEQ.out.1,HEQ.out.2];exact hown9)
     have HMO:Hid (∃ ms,Rows5 w9 w1.heap.size (.slice (some ⟨g9,0,none⟩) (k+1) cap9) (k+1) ts.length z ms):=Lib.hid ⟨_,hmore⟩
     have HB9:=Lib.hid (HB4.out.grown hgg9 HB4.out.size (fun j hj=>(HO.out.lt j hj).1))
     clear hown9 hgg9 hat9 hlt9 hmore HO HH1 HH2 HH3 HM HB4 HNW HLT HLE HEQ
     go_wp2_with fail
     refine ⟨⟨k+1,by simp,by omega,HMO,HB9⟩,?_⟩
     simp only [intOf]
     omega
  ·have hke:k=ds.length:=by omega
   subst hke
   obtain ⟨R,cR,hRv,hRc1,hRc2,hF⟩:=HMS.out.done hn0
   injection hRv with hR1 _ hR2
   subst hR1 hR2
   have HF0:=Lib.hid hF
   have HRC1:=Lib.hid hRc1
   have HRC2:=Lib.hid hRc2
   unfold maxLen at hRc2
   clear hF HMS
   go_wp2_with fail
   go_loopg [12] (missF (fun _ _ _=>false) ds.length z+1) (fun gg c wr=>∃ (o:Nat→Nat→Nat→Bool) (cb:Bool),c=.bool cb∧Hid (F4 wr w1.heap.size R ds.length ts.length z ms0 o)∧Hid (Below w1.heap.size w1 wr)∧Hid (Q4 q ts ds o cb)∧Hid (cb=true→missF o ds.length z<gg))
   case atStart=>exact ⟨_,true,rfl,HF0,HBR,Lib.hid (Q4.zero q ts ds),Lib.hid (fun _=>Nat.lt_succ_self _)⟩
   case round =>
    clear HF0 HBR HP0 hbz
    obtain ⟨o,cb,rfl,HF,HBR,HQ,HG⟩:=hrel
    have hbz:=HBR.out.size
    cases cb
    ·have HANS:Hid (LPost q ts ds w (.returned (.slice (some ⟨R,0,none⟩) ds.length co)) wr):=Lib.hid (HPOST.out _ _ ⟨R,co,ms0,o,rfl,HRC1.out,HRC2.out,⟨HF.out.row,fun i hi=>(HF.out.st i hi).lower HBW.out.size,HF.out.apart,Nat.le_trans HBW.out.size HF.out.oR⟩,fun m v l hm=>Q4.last HQ.out HAT.out hm,HBW.out.trans (HBR.out.mono HBW.out.size)⟩)
     clear HF HBR HQ HG
     go_wp2_with fail
     go_ret
     exact HANS.out
    ·have hpass:=Q4.pass HQ.out
     rw [← HZZ.out] at hpass
     obtain ⟨M,hM⟩:∃ M,M=missF o ds.length z:=⟨_,rfl⟩
     rw [← hM] at hpass
     have HGM:Hid (M<gk):=Lib.hid (by rw [hM];exact HG.out rfl)
     have HJ:=Lib.hid hpass
     clear hpass hM HQ HG
     go_wp2_with fail
     go_loopg [12,13] ds.length (fun gg c i wr=>∃ (k:Nat) (o:Nat→Nat→Nat→Bool) (cb:Bool),c=.bool cb∧i=.int .i64 k∧k≤ds.length∧gg=ds.length-k∧Hid (F4 wr w1.heap.size R ds.length ts.length z ms0 o)∧Hid (Below w1.heap.size w1 wr)∧Hid (J4 q ts ds o cb k M))
     case atStart=>exact ⟨0,o,false,rfl,rfl,Nat.zero_le _,rfl,HF,HBR,HJ⟩
     case round =>
      clear HF HBR HJ hbz
      rename_i gO JO KO hJO hKO
      obtain ⟨k,o,cb,rfl,rfl,hk,hgk,HF,HBR,HJ⟩:=hrel
      have hbz:=HBR.out.size
      by_cases hlt:k<ds.length
      ·obtain ⟨d,hd⟩:∃ d,ds[k]?=some d:=⟨ds[k],List.getElem?_eq_getElem hlt⟩
       have HDK:=Lib.hid hd
       have htwo:=nextN_two HD.out hd
       have hint:=nextN_ints HD.out hd
       have HINT:=Lib.hid hint
       have HGK:=Lib.hid hgk
       have HR0:=Lib.hid (HF.out.cell hlt)
       have HRL:=Lib.hid HF.out.lt
       have HP0:Hid (wr.cell? ⟨w.heap.size,0,none⟩=some (.slice At ts.length ct)):=Lib.hid ((cB ((HBR.out.block w.heap.size (by omega)).trans HB1.out) 0).trans rfl)
       have HP1:Hid (wr.cell? ⟨w.heap.size,1,none⟩=some (.slice As s.len cs)):=Lib.hid ((cB ((HBR.out.block w.heap.size (by omega)).trans HB1.out) 1).trans rfl)
       have HLW:Hid (w.heap.size<wr.heap.size):=Lib.hid (by omega)
       obtain ⟨u,⟨a0,a1,a2,a3,a4⟩,hu⟩:=(HP.out.below HBR.out).cells hd
       obtain ⟨An,cn,hsn⟩:=hu.aSlice
       subst hsn
       have HPT:=Lib.hid (show _∧_∧_∧_∧_ from ⟨a0,a1,a2,a3,a4⟩)
       have HGL:Hid (g<wr.heap.size):=Lib.hid (by have:=HBR.out.size;omega)
       obtain ⟨hk0,hk1⟩:(0:Int)≤(k:Int)∧(k:Int)<(ds.length:Int):=by omega
       clear hd hint hgk a0 a1 a2 a3 a4 hu
       go_upto_region 18 with fail
       refine wp_region_held_drew (S:=(fun w9=>Below wr.heap.size wr w9)) (by kernel_rfl) (Below.refl _ _).drew (fun hHeld=>?_)
       generalize hwd:wr.drew=wd at *
       clear hwd
       refine wpAnyH_take (i:=0) (oi:=⟨_,_,_,_,_,_⟩) (v:=.agg #[.slice At ts.length ct,.slice As s.len cs]) rfl (by kernel_rfl) (by kernel_rfl) (by kernel_rfl) (fun _ _ _ h=>h) (Or.inl ⟨by rfl,fun w9 hSw=>by have h9:=(hSw.cell (p:=⟨w.heap.size,0,none⟩) HLW.out).trans HP0.out;have h8:=(hSw.cell (p:=⟨w.heap.size,1,none⟩) HLW.out).trans HP1.out;go_simp⟩) hHeld ?_
       try simp only [Act.put,sA,sB,sC]
       refine wpAnyH_take (i:=1) (oi:=⟨_,_,_,_,_,_⟩) (v:=.slice (some ⟨g,0,none⟩) ds.length cap) rfl (by kernel_rfl) (by kernel_rfl) (by kernel_rfl) (fun _ _ _ h=>h) (Or.inl ⟨by rfl,fun w hSw=>by go_simp⟩) hHeld ?_
       try simp only [Act.put,sA,sB,sC]
       refine wpAnyH_take (i:=2) (oi:=⟨_,_,_,_,_,_⟩) (v:=.int .i64 (k:Int)) rfl (by kernel_rfl) (by kernel_rfl) (by kernel_rfl) (fun _ _ _ h=>h) (Or.inl ⟨by rfl,fun w hSw=>by go_simp⟩) hHeld ?_
       try simp only [Act.put,sA,sB,sC]
       refine wpAnyH_take (i:=3) (oi:=⟨_,_,_,_,_,_⟩) (v:=.pointer (some ⟨g,k*5,none⟩)) rfl (by kernel_rfl) (by kernel_rfl) (by kernel_rfl) (fun _ _ _ h=>h) (Or.inl ⟨by rfl,fun w hSw=>by go_simp⟩) hHeld ?_
       try simp only [Act.put,sA,sB,sC]
       refine wpAnyH_take (i:=4) (oi:=⟨_,_,_,_,_,_⟩) (v:=.agg #[.int .i64 d.op,.int .i64 d.x,.int .i64 d.y,.int .i64 d.n,.slice An d.next.length cn]) rfl (by kernel_rfl) (by kernel_rfl) (by kernel_rfl) (fun _ _ _ h=>h) (Or.inl ⟨by rfl,fun w9 hSw=>by obtain ⟨q0,q1,q2,q3,q4⟩:=HPT.out;have h0:=(hSw.cell HGL.out).trans q0;have h1:=(hSw.cell HGL.out).trans q1;have h2:=(hSw.cell HGL.out).trans q2;have h3:=(hSw.cell HGL.out).trans q3;have h4:=(hSw.cell HGL.out).trans q4;go_simp⟩) hHeld ?_
       try simp only [Act.put,sA,sB,sC]
       refine wpAnyH_take (i:=5) (oi:=⟨_,_,_,_,_,_⟩) (v:=.int .i64 (k:Int)) rfl (by kernel_rfl) (by kernel_rfl) (by kernel_rfl) (fun _ _ _ h=>h) (Or.inl ⟨by rfl,fun w hSw=>by go_simp⟩) hHeld ?_
       try simp only [Act.put,sA,sB,sC]
       refine wpAnyH_take (i:=6) (oi:=⟨_,_,_,_,_,_⟩) (v:=.slice (some ⟨R,0,none⟩) ds.length co) rfl (by kernel_rfl) (by kernel_rfl) (by kernel_rfl) (fun _ _ _ h=>h) (Or.inl ⟨by rfl,fun w hSw=>by go_simp⟩) hHeld ?_
       try simp only [Act.put,sA,sB,sC]
       refine wpAnyH_take (i:=7) (oi:=⟨_,_,_,_,_,_⟩) (v:=.int .i64 (k:Int)) rfl (by kernel_rfl) (by kernel_rfl) (by kernel_rfl) (fun _ _ _ h=>h) (Or.inl ⟨by rfl,fun w hSw=>by go_simp⟩) hHeld ?_
       try simp only [Act.put,sA,sB,sC]
       refine wpAnyH_take (i:=8) (oi:=⟨_,_,_,_,_,_⟩) (v:=.pointer (some ⟨R,k,none⟩)) rfl (by kernel_rfl) (by kernel_rfl) (by kernel_rfl) (fun _ _ _ h=>h) (Or.inl ⟨by rfl,fun w hSw=>by go_simp⟩) hHeld ?_
       try simp only [Act.put,sA,sB,sC]
       refine wpAnyH_take (i:=9) (oi:=⟨_,_,_,_,_,_⟩) (v:=.slice (ms0 k).fa ts.length (ms0 k).cf) rfl (by kernel_rfl) (by kernel_rfl) (by kernel_rfl) (fun _ _ _ h=>h) (Or.inl ⟨by rfl,fun w9 hSw=>by have h9:=(hSw.cell (p:=⟨R,k,none⟩) HRL.out).trans HR0.out;go_simp⟩) hHeld ?_
       try simp only [Act.put,sA,sB,sC]
       refine wpAnyH_take (i:=10) (oi:=⟨_,_,_,_,_,_⟩) (v:=.int .i64 (q:Int)) rfl (by kernel_rfl) (by kernel_rfl) (by kernel_rfl) (fun _ _ _ h=>h) (Or.inl ⟨by rfl,fun w hSw=>by go_simp⟩) hHeld ?_
       try simp only [Act.put,sA,sB,sC]
       refine wpAnyH_take (i:=11) (oi:=⟨_,_,_,_,_,_⟩) (v:=.int .i64 (z:Int)) rfl (by kernel_rfl) (by kernel_rfl) (by kernel_rfl) (fun _ _ _ h=>h) (Or.inl ⟨by rfl,fun w hSw=>by go_simp⟩) hHeld ?_
       try simp only [Act.put,sA,sB,sC]
       refine wpAnyH_ready (rs:=[12]) (by kernel_rfl) (by simp) ?_
       refine AllReadyH.cons (o:=⟨_,_,_,_,_,_⟩) rfl (fun K hK=>?_) AllReadyH.nil
       have hzW:=hHeld.size
       have haf:=haft.out wd k d An cn _ (ms0 k) (o k) (HBW.out.trans ((HBR.out.trans (hHeld.mono hbz)).mono HBW.out.size)) HDK.out ((HF.out.keep hHeld).st k hlt)
       go_simp
       refine haf.mono ?_
       rintro E wq ⟨ma,rfl,hma,hbq⟩
       refine hK.out _ _ (hHeld.trans (hbq.mono hzW)) (fun hHeld=>?_)
       obtain ⟨KB,hKB⟩:∃ KB,KB=wd.heap.size:=⟨_,rfl⟩
       rw [← hKB] at hma
       have HKB:Hid (∀ i u,i<ds.length→u<ts.length→(ms0 i).bl u<KB):=Lib.hid (fun i u hi hu=>by have:=((HF.out.st i hi).fl u hu).lt;omega)
       have HMA:=Lib.hid hma
       have HFQ:=Lib.hid (HF.out.keep hHeld)
       have HBQ:=Lib.hid (HBR.out.trans (hHeld.mono hbz))
       clear hK K haf hma hbq hzW hKB
       refine wpAnyH_ready (rs:=[13]) (by kernel_rfl) (by simp) ?_
       refine AllReadyH.cons (o:=⟨_,_,_,_,_,_⟩) rfl (fun K hK=>?_) AllReadyH.nil
       go_simp
       refine hK.out _ _ hHeld (fun hHeld=>?_)
       clear hK K
       refine wpAnyH_done (by kernel_rfl) ?_ _
       clear hHeld HR0 HRL HP0 HP1 HLW HPT HGL
       have HK0:=Lib.hid (HJ.out.point hlt d)
       clear HF HBR HJ hbz
       go_wp2_with fail
       go_loopg [12,15] d.next.length (fun gg c i wr=>∃ (j:Nat) (o2:Nat→Nat→Nat→Bool) (cb:Bool),c=.bool cb∧i=.int .i64 j∧j≤d.next.length∧gg=d.next.length-j∧Hid (F4 wr w1.heap.size R ds.length ts.length z ms0 o2)∧Hid (Below w1.heap.size w1 wr)∧Hid (S4 wr KB ts.length z ma (aftT q ts d k (o k)))∧Hid (K4 q ts ds o o2 cb k j M d))
       case atStart=>exact ⟨0,o,cb,rfl,rfl,Nat.zero_le _,rfl,HFQ,HBQ,HMA,HK0⟩
       case round =>
        clear HFQ HBQ HMA HK0
        obtain ⟨j,o2,cb,rfl,rfl,hj,hgj,HF,HBR,HMA,HKK⟩:=hrel
        have hbz:=HBR.out.size
        have HGJ:=Lib.hid hgj
        clear hgj
        obtain ⟨un,⟨-,-,-,-,a4⟩,hun⟩:=(HP.out.below HBR.out).cells HDK.out
        by_cases hjl:j<d.next.length
        ·obtain ⟨b0,hsb,hcell⟩:=hun.aCell hjl
         subst hsb
         obtain ⟨b,hbx⟩:∃ b:Nat,d.next[j]?=some (b:Int):=by
          obtain ⟨u0,hu0⟩:∃ u0,d.next[j]?=some u0:=⟨d.next[j],List.getElem?_eq_getElem hjl⟩
          have hm:u0∈d.next:=List.mem_of_getElem? hu0
          rw [← HINT.out.1] at hm
          obtain ⟨b,hb,e3⟩:=List.mem_map.mp hm
          exact ⟨b,by rw [hu0,← e3]⟩
         have hcb:=hcell _ hbx
         clear hcell
         have hbn:b<ds.length:=by
          have hm:(b:Int)∈d.next:=List.mem_of_getElem? hbx
          rw [← HINT.out.1] at hm
          obtain ⟨b',hb',e3⟩:=List.mem_map.mp hm
          have h8:=HINT.out.2 b' hb'
          have h9:(b':Int)=(b:Int):=e3
          omega
         have HED:Hid (eN ds k b):=Lib.hid ((mem_nextN HD.out hle _ _).mpr ⟨d,j,HDK.out,hbx,.inl (by omega)⟩)
         have HBX:=Lib.hid hbx
         obtain ⟨hb0,hb1⟩:(0:Int)≤(b:Int)∧(b:Int)<(ds.length:Int):=by omega
         obtain ⟨hj0,hj1⟩:(0:Int)≤(j:Int)∧(j:Int)<(d.next.length:Int):=by omega
         have cR:=HF.out.cell hbn
         have hmg:=l10Merge_any _ _ ts.length z (ms0 b) ma (aftT q ts d k (o k)) (o2 b) wr ht6 hz61 (HF.out.st b hbn) HMA.out (fun u v hu hv=>by have:=HKB.out b u hbn hu;have:=HMA.out.own v hv;omega)
         unfold M4.val at hmg
         clear hun hbx
         go_wp2_with fail
         refine hmg.mono ?_
         rintro E w6 ⟨r,rfl,hr,hw6,hs6⟩
         have HF6:=Lib.hid (HF.out.merge hbn hw6 hs6)
         have HB6:Hid (Below w1.heap.size w1 w6):=Lib.hid (hw6.below HBR.out hbz (fun k9 hk9=>by obtain ⟨v,hv,e⟩:=hk9;rw [e];exact (HF.out.st b hbn).own v hv))
         have HM6:=Lib.hid (HMA.out.wr hw6 (fun u hu hr9=>by obtain ⟨v,hv,e⟩:=hr9;have h8:=HKB.out b v hbn hv;have h9:=HMA.out.own u hu;omega) (fun h0=>(HF.out.st b hbn).g_off HMA.out h0))
         have HKN:=Lib.hid (HKK.out.step HAT.out HDK.out HBX.out hbn HED.out (by rw [← HZZ.out];exact hr))
         clear hmg hr hw6 hs6 HF HBR HMA HKK cR a4 hcb
         cases r
         ·go_wp2_with fail
          go_roundg (d.next.length-(j+1))
          case measure=>rw [HGJ.out];omega
          case rel=>exact ⟨j+1,_,cb,rfl,by go_num,by omega,rfl,HF6,HB6,HM6,HKN⟩
         ·go_wp2_with fail
          go_roundg (d.next.length-(j+1))
          case measure=>rw [HGJ.out];omega
          case rel=>exact ⟨j+1,_,true,rfl,by go_num,by omega,rfl,HF6,HB6,HM6,HKN⟩
        ·have hje:j=d.next.length:=by omega
         obtain ⟨An2,cn2,hsn2⟩:=hun.aSlice
         subst hsn2
         have HJN:=Lib.hid (by rw [hje] at HKK;exact HKK.out.done HD.out hle HDK.out:J4 q ts ds o2 cb (k+1) M)
         have hjd:decide ((j:Int)<(d.next.length:Int))=false:=decide_eq_false (by omega)
         clear hje hun HKK HMA
         go_wp2_with fail
         go_roundg (ds.length-(k+1))
         case measure=>rw [HGK.out];omega
         case rel=>exact ⟨k+1,o2,cb,rfl,by go_num,by omega,rfl,HF,HBR,HJN⟩
      ·have hke:k=ds.length:=by omega
       subst hke
       have HQN:=Lib.hid (J4.pass HJ.out)
       have HDEC:Hid (cb=true→missF o ds.length z<M):=Lib.hid (fun hc=>by have h8:=HJ.out.dec hc;rw [← HZZ.out] at h8;exact h8)
       clear HJ hgk
       go_wp2_with fail
       go_roundg M
       case measure=>exact HGM.out
       case rel=>exact ⟨o,cb,rfl,HF,HBR,HQN,HDEC⟩
end tr
end Go.Proofs.YtofcdecpipgmjaaGreatDoor
