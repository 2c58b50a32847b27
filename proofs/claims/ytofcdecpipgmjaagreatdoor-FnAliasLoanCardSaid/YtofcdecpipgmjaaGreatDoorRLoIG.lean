/- What loans say of points and variables: plain. For the drawn laws of chapter 4. -/
import Derived.Test.YtofcdecpipgmjaaGreatDoorRPuG
import Derived.Test.YtofcdecpipgmjaaGreatDoorRLplG
import Derived.Test.YtofcdecpipgmjaaGreatDoorRAnsG
import Derived.Test.YtofcdecpipgmjaaGreatDoorRLimB
import Derived.Test.YtofcdecpipgmjaaGreatDoorRPtsX
import Derived.Deep.AppendLies
namespace Go.Proofs.YtofcdecpipgmjaaGreatDoor
open Go.RowKit Go.Deep
set_option linter.unusedVariables false
theorem loansK_at {ns:List Nd} {n i:Nat} {x:LoanD} (h:(loansK ns n)[i]?=some x):∃ (j:Nat) (d:Nd),ns[j]?=some d∧(d.op=4∨d.op=5)∧x=⟨(j:Int),decide (d.op=5),d.y⟩:=by
 have hm:=List.mem_of_getElem? h
 unfold loansK at hm
 rw [List.mem_map] at hm
 obtain ⟨j,hj,rfl⟩:=hm
 have hl:=(List.mem_filter.1 hj).2
 unfold isLoan at hl
 split at hl
 ·rename_i d hd
  exact ⟨j,d,hd,of_decide_eq_true hl,ldOf_at hd⟩
 ·cases hl
theorem AnsLoans.at {ok:Bool} {s:Sts} {l:List LoanD} (h:AnsLoans ok s l) {i:Nat} {x:LoanD} (hx:l[i]?=some x):ok=true∧∃ (j:Nat) (d:Nd),(progPts s)[j]?=some d∧(d.op=4∨d.op=5)∧x=⟨(j:Int),decide (d.op=5),d.y⟩:=by
 rcases h with ⟨h1,rfl⟩ | ⟨-,rfl⟩
 ·exact ⟨h1,loansK_at hx⟩
 ·simp at hx
theorem loan_next {s:Sts} {j:Nat} {d:Nd} (hd:(progPts s)[j]?=some d) (hop:d.op=4∨d.op=5):∃ z:Nat,d.next[0]?=some (z:Int)∧0<d.next.length∧z<(progPts s).length∧eN (progPts s) j z:=by
 have h1:1≤d.next.length:=by
  by_cases hj:j<(s.pts 0).length
  ·have hd':=hd
   unfold progPts at hd'
   rw [List.getElem?_append_left hj] at hd'
   exact (s.pts_ok 0 d (List.mem_of_getElem? hd')).1
  ·have hd':=hd
   unfold progPts at hd'
   rw [List.getElem?_append_right (by omega)] at hd'
   have hm:=List.mem_of_getElem? hd'
   simp only [List.mem_cons,List.not_mem_nil,or_false] at hm
   subst hm
   simp at hop
 obtain ⟨z,hz⟩:∃ z,d.next[0]?=some z:=⟨d.next[0],List.getElem?_eq_getElem (by omega)⟩
 have hzm:=List.mem_of_getElem? hz
 obtain ⟨h0,h2⟩:=prog_next hd hzm
 obtain ⟨c,rfl⟩:=Int.eq_ofNat_of_zero_le h0
 exact ⟨c,hz,by omega,by omega,mem_nextN_at hd hzm⟩
theorem Tryz.infoLoan:(Tryz.prog.info? 53).map (fun i=>(i.zero,i.size,i.bytes))=some (some (.agg #[.int .i64 0,.bool false,.int .i64 0]),3,24):=by kernel_rfl
theorem RowI.grownN {w w':World} {B B':Nat} {v u:Value} {xs:List LoanD} {l:List Int} (h:RowI w B u l) (ho:RowN w B' v xs) (hg:w.grownBy w' v.ownBlock):RowI w' B u l:=by
 refine RowI.keep h fun g hgu=>hg.block g (RowI.lt h g hgu).2 fun e=>?_
 obtain ⟨cur,hc⟩:=ownBlock_row (RowN.own ho) g e.symm
 obtain ⟨cur',hc'⟩:=ownBlock_row (RowI.own h) g hgu
 rw [hc] at hc'
 injection hc' with hc'
 injection hc' with _ hc' _
 exact absurd hc' (by decide)
def loansT (bl:List Nat) (ns:List Nd) (j:Nat):List LoanD:=(bl.take j).map (ldOf ns)
theorem loansT_next {bl:List Nat} {ns:List Nd} {j b:Nat} {d:Nd} (hb:bl[j]?=some b) (hd:ns[b]?=some d):loansT bl ns (j+1)=loansT bl ns j++[⟨(b:Int),isUniq ns b,d.y⟩]:=by
 unfold loansT
 rw [List.take_add_one,hb,List.map_append,Option.toList,List.map_cons,List.map_nil,ldOf_at hd,isUniq_at hd]
theorem loansT_length {bl:List Nat} {ns:List Nd} {j:Nat}:(loansT bl ns j).length≤bl.length:=by
 unfold loansT
 rw [List.length_map,List.length_take]
 omega
set_option maxRecDepth 100000 in
set_option maxHeartbeats 4000000 in
theorem implLoansOf_any (ts:List Int) (s:Sts) (At As:Option Addr) (ct cs:Nat) (w:World) (hT:IntsV w 0 w.heap.size ts At ct) (hR:RepV w 0 w.heap.size s As cs) (hTab:TabAt 0 Lib.deBruijn64tab w) (hg:0<w.heap.size) :
  Calls Tryz.prog 37 #[.agg #[.slice At ts.length ct,.slice As s.len cs]] w fun E w'=>∃ v l,E=.returned v∧RowN w' w.heap.size v l∧AnsLoans (validB ts s) s l∧Below w.heap.size w w':=by
 have hb0:=(Below.refl w.heap.size w).alloc (Nat.le_refl _) (.cells #[.slice At ts.length ct,.slice As s.len cs] 26)
 have hz0:(w.alloc (.cells #[.slice At ts.length ct,.slice As s.len cs] 26)).heap.size=w.heap.size+1:=by simp
 have HZ:=Lib.hid hz0
 cases hok:validB ts s
 ·have hS:=lendingOf_no ts s At As ct cs _ hok (hT.below hb0 (by simp)) (hR.below hb0 (by simp))
  clear hz0 hok
  go_enter Tryz.func37,Tryz.ntmps37
  go_wp2_with fail
  refine hS.mono ?_
  rintro E w1 ⟨rfl,hb1⟩
  rw [HZ.out] at hb1
  have hb:Below w.heap.size w w1:=hb0.trans (hb1.mono (by omega))
  clear hb1 hS
  go_wp2_with fail
  go_ret
  exact ⟨_,[],rfl,RowN.nil _ _,.inr ⟨rfl,rfl⟩,by first | exact hb | exact hb.drew⟩
 ·have hS:=lendingOf_yes ts s At As ct cs _ hok (hT.below hb0 (by simp)) (hR.below hb0 (by simp)) (tab_below hTab hg hb0) (by rw [hz0];omega)
  have hans:∀ l,l=loansK (progPts s) (progPts s).length→AnsLoans true s l:=fun l h=>.inl ⟨rfl,h⟩
  generalize progPts s=ns at *
  have HANS:=Lib.hid hans
  clear hz0 hok hT hR hans
  go_enter Tryz.func37,Tryz.ntmps37
  go_wp2_with fail
  refine hS.mono ?_
  rintro E w1 ⟨C,F,hi,A2,c2,ah,bk,L,mb,lv,kn,rfl,hl,hL,hb1⟩
  rw [HZ.out] at hL hb1
  have hb:Below w.heap.size w w1:=hb0.trans (hb1.mono (by omega))
  have hbz:=hb.size
  have HLN:=Lib.hid hl
  have HBW:=Lib.hid hb
  have hle:=hl.ln.fl.gr.le
  have hmk:=hl.ln.madeCell
  have hm61:=bitsK_61 (isLoan ns) hle
  have hu61:=bitsK_61 (isUniq ns) hle
  obtain ⟨bm,hbm⟩:∃ bm,bm=bitsK (isLoan ns) ns.length:=⟨_,rfl⟩
  obtain ⟨bu,hbu⟩:∃ bu,bu=bitsK (isUniq ns) ns.length:=⟨_,rfl⟩
  rw [← hbm] at hmk hm61
  rw [← hbu] at hu61
  have HBM:=Lib.hid hbm
  have HBU:Hid (bitsK (isUniq ns) ns.length=bu):=hbu.symm
  have hLl:=hl.ln.ltW
  have HTB:=Lib.hid (tab_below hTab hg hb)
  clear hl hb1 hS hb0 hb hbm hbu
  go_wp2_with fail
  refine (setList_any bm (by omega) w1 HTB.out (by omega)).mono ?_
  rintro E w5 ⟨v,rfl,hrow,hb5⟩
  obtain ⟨Ar,cr,hvs⟩:=hrow.slice
  subst hvs
  obtain ⟨bl,hbl⟩:∃ bl,bl=bitsOf bm:=⟨_,rfl⟩
  have hll:(intsOf bm).length=bl.length:=by rw [hbl];simp [intsOf]
  have hlen64:=intsOf_length bm
  have HROW:Hid (RowI w5 w1.heap.size (.slice Ar bl.length cr) (intsOf bm)):=by rw [← hll];exact hrow
  rw [hll] at hlen64
  have HBL:=Lib.hid hbl
  have HLI:Hid (intsOf bm=bl.map (fun (k:Nat)=>(k:Int))):=by rw [hbl];rfl
  have HB5:=Lib.hid hb5
  have HR5:Hid (RowN w5 w1.heap.size (.slice none 0 0) (loansT bl ns 0)):=RowN.nil _ _
  obtain ⟨i0,hi0,hzz0,hzz1,hzz2⟩:=info_parts Tryz.infoLoan
  have HI:=Lib.hid hi0
  have HZ0:=Lib.hid hzz0
  have HZ1:=Lib.hid hzz1
  have HZ2:=Lib.hid hzz2
  rw [hll]
  clear hrow hb5 hll hbl hmk hi0 hzz0 hzz1 hzz2
  go_wp2_with fail
  go_loopw [5,21] (fun qv i wr=>∃ j:Nat,i=.int .i64 j∧j≤bl.length∧Hid (RowN wr w1.heap.size qv (loansT bl ns j))∧Hid (RowI wr w1.heap.size (.slice Ar bl.length cr) (intsOf bm))∧Hid (Below w1.heap.size w1 wr)) (fun _ i _=>bl.length-(intOf i).toNat)
  case atStart=>exact ⟨0,rfl,Nat.zero_le _,HR5,HROW,HB5⟩
  case round =>
   clear HR5 HROW HB5
   obtain ⟨j,rfl,hj,HRW,HRI,HB⟩:=hrel
   obtain ⟨Ao,co,ho⟩:=HRW.out.slice
   subst ho
   by_cases hjl:j<bl.length
   ·obtain ⟨b,hb⟩:∃ b,bl[j]?=some b:=⟨bl[j],List.getElem?_eq_getElem hjl⟩
    have hbm:b∈bitsOf bm:=by rw [← HBL.out];exact List.mem_of_getElem? hb
    have hbn:b<ns.length:=by
     have h9:=((mem_bitsOf _ _).mp hbm).2
     rw [HBM.out,bitsK_bit,Bool.and_eq_true,decide_eq_true_eq] at h9
     exact h9.1
    obtain ⟨d,hd⟩:∃ d,ns[b]?=some d:=⟨ns[b],List.getElem?_eq_getElem hbn⟩
    obtain ⟨b0,u,hb0,-,hbb,hxx,hc⟩:=(RowI.intsV HRI.out).elem (k:=j) (by rw [HLI.out];simpa using hjl)
    subst hb0
    have hub:u=(b:Int):=by
     rw [HLI.out,List.getElem?_map,hb] at hxx
     simpa using hxx.symm
    subst hub
    have bi0:(0:Int)≤(b:Int):=by omega
    have bi1:(b:Int)<61:=by omega
    have ji0:(0:Int)≤(j:Int):=by omega
    have ji1:(j:Int)<(bl.length:Int):=by omega
    obtain ⟨u,hu⟩:∃ u,u=isUniq ns b:=⟨_,rfl⟩
    have HNX:Hid (loansT bl ns (j+1)=loansT bl ns j++[⟨(b:Int),u,d.y⟩]):=by rw [hu];exact loansT_next hb hd
    have hhas:=fun W=>bitHas_any bu b (by omega) (by omega) W
    have hbit:bu.testBit b=u:=by rw [← HBU.out,bitsK_bit,decide_eq_true hbn,Bool.true_and,hu]
    rw [hbit] at hhas
    have HDB:=Lib.hid hd
    have hlT:(loansT bl ns j).length≤bl.length:=loansT_length
    clear hb hbm hxx hd hu hbit
    go_upto_region 8 with fail
    refine wp_region_held_drew (S:=fun w'=>Below w1.heap.size w1 w') (by kernel_rfl) HB.out.drew (fun hHeld=>?_)
    replace HRW:Hid (RowN wr.drew w1.heap.size (.slice Ao (loansT bl ns j).length co) (loansT bl ns j)):=RowN.keep HRW.out fun _ _=>rfl
    replace HRI:Hid (RowI wr.drew w1.heap.size (.slice (some b0) bl.length cr) (intsOf bm)):=RowI.keep HRI.out fun _ _=>rfl
    generalize wr.drew=wd at *
    clear HB hc
    refine wpAnyH_take (i:=0) (oi:={ dst:=some 25,op:=Op.move (Operand.tmp 5),type:=50,pos := "l4_loans.go:24",after:=#[],guard:=none }) (v:=.slice Ao (loansT bl ns j).length co) rfl (by kernel_rfl) (by kernel_rfl) (by kernel_rfl) (fun _ _ _ h=>h) (Or.inl ⟨by rfl,fun w hSw=>by go_simp⟩) hHeld ?_
    try simp only [Act.put,sA,sB,sC]
    refine wpAnyH_take (i:=1) (oi:={ dst:=some 26,op:=Op.move (Operand.tmp 7),type:=3,pos := "l4_loans.go:24",after:=#[],guard:=none }) (v:=.int .i64 (b:Int)) rfl (by kernel_rfl) (by kernel_rfl) (by kernel_rfl) (fun _ _ _ h=>h) (Or.inl ⟨by rfl,fun w hSw=>by go_simp⟩) hHeld ?_
    try simp only [Act.put,sA,sB,sC]
    refine wpAnyH_take (i:=2) (oi:={ dst:=some 27,op:=Op.move (Operand.tmp 3),type:=112,pos := "l4_loans.go:24",after:=#[],guard:=none }) (v:=.pointer (some ⟨L,0,none⟩)) rfl (by kernel_rfl) (by kernel_rfl) (by kernel_rfl) (fun _ _ _ h=>h) (Or.inl ⟨by rfl,fun w hSw=>by go_simp⟩) hHeld ?_
    try simp only [Act.put,sA,sB,sC]
    refine wpAnyH_take (i:=3) (oi:={ dst:=some 28,op:=Op.nilCheck (Operand.tmp 27),type:=0,pos := "l4_loans.go:24",after:=#[{ on:=2,ground:=Ground.data }],guard:=none }) (v:=.pointer (some ⟨L,0,none⟩)) rfl (by kernel_rfl) (by kernel_rfl) (by kernel_rfl) (fun _ _ _ h=>h) (Or.inl ⟨by rfl,fun w hSw=>by go_simp⟩) hHeld ?_
    try simp only [Act.put,sA,sB,sC]
    refine wpAnyH_take (i:=4) (oi:={ dst:=some 29,op:=Op.fieldAddr 119 (Operand.tmp 28) 2,type:=0,pos := "l4_loans.go:24",after:=#[{ on:=3,ground:=Ground.data }],guard:=none }) (v:=.pointer (some ⟨L,2,none⟩)) rfl (by kernel_rfl) (by kernel_rfl) (by kernel_rfl) (fun _ _ _ h=>h) (Or.inl ⟨by rfl,fun w hSw=>by go_simp⟩) hHeld ?_
    try simp only [Act.put,sA,sB,sC]
    refine wpAnyH_take (i:=5) (oi:={ dst:=some 30,op:=Op.load 55 (Operand.tmp 29),type:=55,pos := "l4_loans.go:24",after:=#[{ on:=4,ground:=Ground.data }],guard:=none }) (v:=.int .u64 (bu:Int)) rfl (by kernel_rfl) (by kernel_rfl) (by kernel_rfl) (fun _ _ _ h=>h) (Or.inl ⟨by rfl,fun w9 hSw=>by have h9:=(HLN.out.ln.keep hSw).uniqCell;rw [HBU.out] at h9;go_simp⟩) hHeld ?_
    try simp only [Act.put,sA,sB,sC]
    refine wpAnyH_take (i:=6) (oi:={ dst:=some 31,op:=Op.move (Operand.tmp 7),type:=3,pos := "l4_loans.go:24",after:=#[],guard:=none }) (v:=.int .i64 (b:Int)) rfl (by kernel_rfl) (by kernel_rfl) (by kernel_rfl) (fun _ _ _ h=>h) (Or.inl ⟨by rfl,fun w hSw=>by go_simp⟩) hHeld ?_
    try simp only [Act.put,sA,sB,sC]
    refine wpAnyH_take (i:=8) (oi:={ dst:=some 33,op:=Op.move (Operand.tmp 3),type:=112,pos := "l4_loans.go:24",after:=#[],guard:=none }) (v:=.pointer (some ⟨L,0,none⟩)) rfl (by kernel_rfl) (by kernel_rfl) (by kernel_rfl) (fun _ _ _ h=>h) (Or.inl ⟨by rfl,fun w hSw=>by go_simp⟩) hHeld ?_
    try simp only [Act.put,sA,sB,sC]
    refine wpAnyH_take (i:=9) (oi:={ dst:=some 34,op:=Op.nilCheck (Operand.tmp 33),type:=0,pos := "l4_loans.go:24",after:=#[{ on:=8,ground:=Ground.data }],guard:=none }) (v:=.pointer (some ⟨L,0,none⟩)) rfl (by kernel_rfl) (by kernel_rfl) (by kernel_rfl) (fun _ _ _ h=>h) (Or.inl ⟨by rfl,fun w hSw=>by go_simp⟩) hHeld ?_
    try simp only [Act.put,sA,sB,sC]
    refine wpAnyH_take (i:=10) (oi:={ dst:=some 35,op:=Op.fieldAddr 119 (Operand.tmp 34) 0,type:=0,pos := "l4_loans.go:24",after:=#[{ on:=9,ground:=Ground.data }],guard:=none }) (v:=.pointer (some ⟨L,0,none⟩)) rfl (by kernel_rfl) (by kernel_rfl) (by kernel_rfl) (fun _ _ _ h=>h) (Or.inl ⟨by rfl,fun w hSw=>by go_simp⟩) hHeld ?_
    try simp only [Act.put,sA,sB,sC]
    refine wpAnyH_take (i:=15) (oi:={ dst:=some 40,op:=Op.move (Operand.tmp 7),type:=3,pos := "l4_loans.go:24",after:=#[],guard:=none }) (v:=.int .i64 (b:Int)) rfl (by kernel_rfl) (by kernel_rfl) (by kernel_rfl) (fun _ _ _ h=>h) (Or.inl ⟨by rfl,fun w hSw=>by go_simp⟩) hHeld ?_
    try simp only [Act.put,sA,sB,sC]
    refine wpAnyH_ready (rs:=[7,11]) (by kernel_rfl) (by simp) ?_
    refine AllReadyH.cons (o:={ dst:=some 32,op:=Op.call { callee:=Callee.value (Operand.func 56),args:=#[Operand.tmp 30,Operand.tmp 31],argTypes:=#[55,3] },type:=4,pos := "l4_loans.go:24",after:=#[{ on:=5,ground:=Ground.data },{ on:=6,ground:=Ground.data }],guard:=none }) rfl (fun K hK=>?_) ?_
    ·skip
     go_simp
     refine (hhas _).mono ?_
     rintro E w99 ⟨rfl,hw99⟩
     rw [hw99]
     clear hw99 w99
     refine hK.out _ _ hHeld (fun hHeld=>?_)
     clear hK K
     refine wpAnyH_ready (rs:=[11]) (by kernel_rfl) (by simp) ?_
     refine AllReadyH.cons (o:={ dst:=some 36,op:=Op.load 85 (Operand.tmp 35),type:=85,pos := "l4_loans.go:24",after:=#[{ on:=10,ground:=Ground.data }],guard:=none }) rfl (fun K hK=>?_) AllReadyH.nil
     have h9:=(HLN.out.ln.keep hHeld).flCell
     go_simp
     refine hK.out _ _ hHeld (fun hHeld=>?_)
     clear hK K h9
     refine wpAnyH_take (i:=12) (oi:={ dst:=some 37,op:=Op.nilCheck (Operand.tmp 36),type:=0,pos := "l4_loans.go:24",after:=#[{ on:=11,ground:=Ground.data }],guard:=none }) (v:=.pointer (some ⟨F,0,none⟩)) rfl (by kernel_rfl) (by kernel_rfl) (by kernel_rfl) (fun _ _ _ h=>h) (Or.inl ⟨by rfl,fun w hSw=>by go_simp⟩) hHeld ?_
     try simp only [Act.put,sA,sB,sC]
     refine wpAnyH_take (i:=13) (oi:={ dst:=some 38,op:=Op.fieldAddr 99 (Operand.tmp 37) 0,type:=0,pos := "l4_loans.go:24",after:=#[{ on:=12,ground:=Ground.data }],guard:=none }) (v:=.pointer (some ⟨F,0,none⟩)) rfl (by kernel_rfl) (by kernel_rfl) (by kernel_rfl) (fun _ _ _ h=>h) (Or.inl ⟨by rfl,fun w hSw=>by go_simp⟩) hHeld ?_
     try simp only [Act.put,sA,sB,sC]
     refine wpAnyH_ready (rs:=[14]) (by kernel_rfl) (by simp) ?_
     refine AllReadyH.cons (o:={ dst:=some 39,op:=Op.load 74 (Operand.tmp 38),type:=74,pos := "l4_loans.go:24",after:=#[{ on:=13,ground:=Ground.data }],guard:=none }) rfl (fun K hK=>?_) AllReadyH.nil
     have h9:=(HLN.out.ln.keep hHeld).fl.grCell
     go_simp
     refine hK.out _ _ hHeld (fun hHeld=>?_)
     clear hK K h9
     refine wpAnyH_take (i:=16) (oi:={ dst:=some 41,op:=Op.nilCheck (Operand.tmp 39),type:=0,pos := "l4_loans.go:24",after:=#[{ on:=14,ground:=Ground.data }],guard:=none }) (v:=.pointer (some ⟨C,0,none⟩)) rfl (by kernel_rfl) (by kernel_rfl) (by kernel_rfl) (fun _ _ _ h=>h) (Or.inl ⟨by rfl,fun w hSw=>by go_simp⟩) hHeld ?_
     try simp only [Act.put,sA,sB,sC]
     refine wpAnyH_take (i:=17) (oi:={ dst:=some 42,op:=Op.fieldAddr 83 (Operand.tmp 41) 0,type:=0,pos := "l4_loans.go:24",after:=#[{ on:=16,ground:=Ground.data }],guard:=none }) (v:=.pointer (some ⟨C,0,none⟩)) rfl (by kernel_rfl) (by kernel_rfl) (by kernel_rfl) (fun _ _ _ h=>h) (Or.inl ⟨by rfl,fun w hSw=>by go_simp⟩) hHeld ?_
     try simp only [Act.put,sA,sB,sC]
     refine wpAnyH_take (i:=18) (oi:={ dst:=some 43,op:=Op.indexAddr 81 (Operand.tmp 42) (Operand.tmp 40),type:=0,pos := "l4_loans.go:24",after:=#[{ on:=17,ground:=Ground.data },{ on:=15,ground:=Ground.data }],guard:=none }) (v:=.pointer (some ⟨C,b*7,none⟩)) rfl (by kernel_rfl) (by kernel_rfl) (by kernel_rfl) (fun _ _ _ h=>h) (Or.inl ⟨by rfl,fun w hSw=>by go_simp⟩) hHeld ?_
     try simp only [Act.put,sA,sB,sC]
     refine wpAnyH_take (i:=19) (oi:={ dst:=some 44,op:=Op.fieldAddr 80 (Operand.tmp 43) 2,type:=0,pos := "l4_loans.go:24",after:=#[{ on:=18,ground:=Ground.data }],guard:=none }) (v:=.pointer (some ⟨C,b*7+2,none⟩)) rfl (by kernel_rfl) (by kernel_rfl) (by kernel_rfl) (fun _ _ _ h=>h) (Or.inl ⟨by rfl,fun w hSw=>by go_simp⟩) hHeld ?_
     try simp only [Act.put,sA,sB,sC]
     refine wpAnyH_ready (rs:=[20]) (by kernel_rfl) (by simp) ?_
     refine AllReadyH.cons (o:={ dst:=some 45,op:=Op.load 3 (Operand.tmp 44),type:=3,pos := "l4_loans.go:24",after:=#[{ on:=19,ground:=Ground.data }],guard:=none }) rfl (fun K hK=>?_) AllReadyH.nil
     have h9:=((HLN.out.ln.keep hHeld).fl.gr.node HDB.out).2.2.2.2.2.1
     go_simp
     refine hK.out _ _ hHeld (fun hHeld=>?_)
     clear hK K h9
     refine wpAnyH_take (i:=21) (oi:={ dst:=some 46,op:=Op.build 53 #[(0,Operand.tmp 26),(1,Operand.tmp 32),(2,Operand.tmp 45)],type:=53,pos := "l4_loans.go:24",after:=#[{ on:=1,ground:=Ground.data },{ on:=7,ground:=Ground.data },{ on:=20,ground:=Ground.data }],guard:=none }) (v:=.agg #[.int .i64 (b:Int),.bool u,.int .i64 d.y]) rfl (by kernel_rfl) (by kernel_rfl) (by kernel_rfl) (fun _ _ _ h=>h) (Or.inl ⟨by rfl,fun w9 hSw=>by go_simp⟩) hHeld ?_
     try simp only [Act.put,sA,sB,sC]
     refine wpAnyH_ready (rs:=[22]) (by kernel_rfl) (by simp) ?_
     refine AllReadyH.cons (o:={ dst:=some 47,op:=Op.buildSlice 50 1 #[(0,Operand.tmp 46)],type:=50,pos := "l4_loans.go:24",after:=#[{ on:=21,ground:=Ground.data }],guard:=none }) rfl (fun K hK=>?_) AllReadyH.nil
     go_simp
     have hnw:=heap_alloc_new wd (.cells #[.int .i64 (b:Int),.bool u,.int .i64 d.y] 53)
     have hra:=RowN.below HRW.out ((Below.refl wd.heap.size wd).alloc (Nat.le_refl _) (.cells #[.int .i64 (b:Int),.bool u,.int .i64 d.y] 53))
     have hri:=RowI.below HRI.out ((Below.refl wd.heap.size wd).alloc (Nat.le_refl _) (.cells #[.int .i64 (b:Int),.bool u,.int .i64 d.y] 53))
     have hsz:=hHeld.size
     refine hK.out _ _ (hHeld.alloc hHeld.size (.cells #[.int .i64 (b:Int),.bool u,.int .i64 d.y] 53)) (fun hHeld=>?_)
     have hzz:(wd.alloc (.cells #[.int .i64 (b:Int),.bool u,.int .i64 d.y] 53)).heap.size=wd.heap.size+1:=by simp
     generalize wd.alloc (.cells #[.int .i64 (b:Int),.bool u,.int .i64 d.y] 53)=we at *
     have HNW:=Lib.hid hnw
     have HRA:=Lib.hid hra
     have HRJ:=Lib.hid hri
     have HZZ:=Lib.hid hzz
     clear hK K hnw hra hri hzz
     refine wpAnyH_ready (rs:=[23]) (by kernel_rfl) (by simp) ?_
     refine AllReadyH.cons (o:={ dst:=some 48,op:=Op.call { callee:=Callee.builtin Builtin.append,args:=#[Operand.tmp 25,Operand.tmp 47],argTypes:=#[50,50] },type:=50,pos := "l4_loans.go:24",after:=#[{ on:=0,ground:=Ground.data },{ on:=22,ground:=Ground.data },{ on:=7,ground:=Ground.chain }],guard:=none }) rfl (fun K hK=>?_) AllReadyH.nil
     refine step_append_lies _ rfl _ _ 50 rfl w1.heap.size 53 i0 (.agg #[.int .i64 0,.bool false,.int .i64 0]) 3 24 Tryz.underlying50 HI.out HZ0.out HZ1.out HZ2.out rfl (by decide) _ _ _ rfl (RowN.own HRA.out) ⟨wd.heap.size,0,none⟩ 1 1 [.int .i64 (b:Int),.bool u,.int .i64 d.y] rfl rfl (World.news_of_block HNW.out) (by intro u9 hu9;simp only [List.mem_cons,List.not_mem_nil,or_false] at hu9;rcases hu9 with rfl | rfl | rfl <;> rfl) (by decide) (by unfold maxLen;have:=hlT;omega) (by have:=hlT;omega) (by have:=HZZ.out;omega) _ rfl ?_
     intro g9 cap9 w9 hown9 hgg9 hat9 hlt9
     refine hK.out _ _ (hHeld.grown hgg9 hHeld.size (fun k9 hk9=>(RowN.lt HRA.out k9 hk9).1)) (fun hHeld=>?_)
     have HR9:=Lib.hid (RowN.snoc (d:=⟨(b:Int),u,d.y⟩) hown9)
     have HRI9:=Lib.hid (RowI.grownN HRJ.out HRA.out hgg9)
     clear hK K hown9 hgg9 hat9 hlt9
     refine wpAnyH_take (i:=24) (oi:={ dst:=some 5,op:=Op.assign (Operand.tmp 48),type:=50,pos := "l4_loans.go:24",after:=#[{ on:=23,ground:=Ground.data },{ on:=23,ground:=Ground.chain },{ on:=0,ground:=Ground.phase },{ on:=1,ground:=Ground.phase },{ on:=2,ground:=Ground.phase },{ on:=3,ground:=Ground.phase },{ on:=4,ground:=Ground.phase },{ on:=5,ground:=Ground.phase },{ on:=6,ground:=Ground.phase },{ on:=7,ground:=Ground.phase },{ on:=8,ground:=Ground.phase },{ on:=9,ground:=Ground.phase },{ on:=10,ground:=Ground.phase },{ on:=11,ground:=Ground.phase },{ on:=12,ground:=Ground.phase },{ on:=13,ground:=Ground.phase },{ on:=14,ground:=Ground.phase },{ on:=15,ground:=Ground.phase },{ on:=16,ground:=Ground.phase },{ on:=17,ground:=Ground.phase },{ on:=18,ground:=Ground.phase },{ on:=19,ground:=Ground.phase },{ on:=20,ground:=Ground.phase },{ on:=21,ground:=Ground.phase },{ on:=22,ground:=Ground.phase },{ on:=23,ground:=Ground.phase }],guard:=none }) (v:=.slice (some ⟨g9,0,none⟩) ((loansT bl ns j).length+1) cap9) rfl (by kernel_rfl) (by kernel_rfl) (by kernel_rfl) (fun _ _ _ h=>h) (Or.inl ⟨by rfl,fun w hSw=>by go_simp⟩) hHeld ?_
     try simp only [Act.put,sA,sB,sC]
     refine wpAnyH_done (by kernel_rfl) ?_ _
     clear HRA HRJ HNW HZZ hhas
     have HB9:=Lib.hid hHeld
     clear hHeld
     go_wp2_with fail
     refine ⟨⟨j+1,by simp,by omega,(by rw [HNX.out];exact HR9),HRI9,HB9⟩,?_⟩
     ·simp only [intOf]
      omega
    refine AllReadyH.cons (o:={ dst:=some 36,op:=Op.load 85 (Operand.tmp 35),type:=85,pos := "l4_loans.go:24",after:=#[{ on:=10,ground:=Ground.data }],guard:=none }) rfl (fun K hK=>?_) AllReadyH.nil
    have h9:=(HLN.out.ln.keep hHeld).flCell
    go_simp
    refine hK.out _ _ hHeld (fun hHeld=>?_)
    clear hK K h9
    refine wpAnyH_take (i:=12) (oi:={ dst:=some 37,op:=Op.nilCheck (Operand.tmp 36),type:=0,pos := "l4_loans.go:24",after:=#[{ on:=11,ground:=Ground.data }],guard:=none }) (v:=.pointer (some ⟨F,0,none⟩)) rfl (by kernel_rfl) (by kernel_rfl) (by kernel_rfl) (fun _ _ _ h=>h) (Or.inl ⟨by rfl,fun w hSw=>by go_simp⟩) hHeld ?_
    try simp only [Act.put,sA,sB,sC]
    refine wpAnyH_take (i:=13) (oi:={ dst:=some 38,op:=Op.fieldAddr 99 (Operand.tmp 37) 0,type:=0,pos := "l4_loans.go:24",after:=#[{ on:=12,ground:=Ground.data }],guard:=none }) (v:=.pointer (some ⟨F,0,none⟩)) rfl (by kernel_rfl) (by kernel_rfl) (by kernel_rfl) (fun _ _ _ h=>h) (Or.inl ⟨by rfl,fun w hSw=>by go_simp⟩) hHeld ?_
    try simp only [Act.put,sA,sB,sC]
    refine wpAnyH_ready (rs:=[7,14]) (by kernel_rfl) (by simp) ?_
    refine AllReadyH.cons (o:={ dst:=some 32,op:=Op.call { callee:=Callee.value (Operand.func 56),args:=#[Operand.tmp 30,Operand.tmp 31],argTypes:=#[55,3] },type:=4,pos := "l4_loans.go:24",after:=#[{ on:=5,ground:=Ground.data },{ on:=6,ground:=Ground.data }],guard:=none }) rfl (fun K hK=>?_) ?_
    ·skip
     go_simp
     refine (hhas _).mono ?_
     rintro E w99 ⟨rfl,hw99⟩
     rw [hw99]
     clear hw99 w99
     refine hK.out _ _ hHeld (fun hHeld=>?_)
     clear hK K
     refine wpAnyH_ready (rs:=[14]) (by kernel_rfl) (by simp) ?_
     refine AllReadyH.cons (o:={ dst:=some 39,op:=Op.load 74 (Operand.tmp 38),type:=74,pos := "l4_loans.go:24",after:=#[{ on:=13,ground:=Ground.data }],guard:=none }) rfl (fun K hK=>?_) AllReadyH.nil
     have h9:=(HLN.out.ln.keep hHeld).fl.grCell
     go_simp
     refine hK.out _ _ hHeld (fun hHeld=>?_)
     clear hK K h9
     refine wpAnyH_take (i:=16) (oi:={ dst:=some 41,op:=Op.nilCheck (Operand.tmp 39),type:=0,pos := "l4_loans.go:24",after:=#[{ on:=14,ground:=Ground.data }],guard:=none }) (v:=.pointer (some ⟨C,0,none⟩)) rfl (by kernel_rfl) (by kernel_rfl) (by kernel_rfl) (fun _ _ _ h=>h) (Or.inl ⟨by rfl,fun w hSw=>by go_simp⟩) hHeld ?_
     try simp only [Act.put,sA,sB,sC]
     refine wpAnyH_take (i:=17) (oi:={ dst:=some 42,op:=Op.fieldAddr 83 (Operand.tmp 41) 0,type:=0,pos := "l4_loans.go:24",after:=#[{ on:=16,ground:=Ground.data }],guard:=none }) (v:=.pointer (some ⟨C,0,none⟩)) rfl (by kernel_rfl) (by kernel_rfl) (by kernel_rfl) (fun _ _ _ h=>h) (Or.inl ⟨by rfl,fun w hSw=>by go_simp⟩) hHeld ?_
     try simp only [Act.put,sA,sB,sC]
     refine wpAnyH_take (i:=18) (oi:={ dst:=some 43,op:=Op.indexAddr 81 (Operand.tmp 42) (Operand.tmp 40),type:=0,pos := "l4_loans.go:24",after:=#[{ on:=17,ground:=Ground.data },{ on:=15,ground:=Ground.data }],guard:=none }) (v:=.pointer (some ⟨C,b*7,none⟩)) rfl (by kernel_rfl) (by kernel_rfl) (by kernel_rfl) (fun _ _ _ h=>h) (Or.inl ⟨by rfl,fun w hSw=>by go_simp⟩) hHeld ?_
     try simp only [Act.put,sA,sB,sC]
     refine wpAnyH_take (i:=19) (oi:={ dst:=some 44,op:=Op.fieldAddr 80 (Operand.tmp 43) 2,type:=0,pos := "l4_loans.go:24",after:=#[{ on:=18,ground:=Ground.data }],guard:=none }) (v:=.pointer (some ⟨C,b*7+2,none⟩)) rfl (by kernel_rfl) (by kernel_rfl) (by kernel_rfl) (fun _ _ _ h=>h) (Or.inl ⟨by rfl,fun w hSw=>by go_simp⟩) hHeld ?_
     try simp only [Act.put,sA,sB,sC]
     refine wpAnyH_ready (rs:=[20]) (by kernel_rfl) (by simp) ?_
     refine AllReadyH.cons (o:={ dst:=some 45,op:=Op.load 3 (Operand.tmp 44),type:=3,pos := "l4_loans.go:24",after:=#[{ on:=19,ground:=Ground.data }],guard:=none }) rfl (fun K hK=>?_) AllReadyH.nil
     have h9:=((HLN.out.ln.keep hHeld).fl.gr.node HDB.out).2.2.2.2.2.1
     go_simp
     refine hK.out _ _ hHeld (fun hHeld=>?_)
     clear hK K h9
     refine wpAnyH_take (i:=21) (oi:={ dst:=some 46,op:=Op.build 53 #[(0,Operand.tmp 26),(1,Operand.tmp 32),(2,Operand.tmp 45)],type:=53,pos := "l4_loans.go:24",after:=#[{ on:=1,ground:=Ground.data },{ on:=7,ground:=Ground.data },{ on:=20,ground:=Ground.data }],guard:=none }) (v:=.agg #[.int .i64 (b:Int),.bool u,.int .i64 d.y]) rfl (by kernel_rfl) (by kernel_rfl) (by kernel_rfl) (fun _ _ _ h=>h) (Or.inl ⟨by rfl,fun w9 hSw=>by go_simp⟩) hHeld ?_
     try simp only [Act.put,sA,sB,sC]
     refine wpAnyH_ready (rs:=[22]) (by kernel_rfl) (by simp) ?_
     refine AllReadyH.cons (o:={ dst:=some 47,op:=Op.buildSlice 50 1 #[(0,Operand.tmp 46)],type:=50,pos := "l4_loans.go:24",after:=#[{ on:=21,ground:=Ground.data }],guard:=none }) rfl (fun K hK=>?_) AllReadyH.nil
     go_simp
     have hnw:=heap_alloc_new wd (.cells #[.int .i64 (b:Int),.bool u,.int .i64 d.y] 53)
     have hra:=RowN.below HRW.out ((Below.refl wd.heap.size wd).alloc (Nat.le_refl _) (.cells #[.int .i64 (b:Int),.bool u,.int .i64 d.y] 53))
     have hri:=RowI.below HRI.out ((Below.refl wd.heap.size wd).alloc (Nat.le_refl _) (.cells #[.int .i64 (b:Int),.bool u,.int .i64 d.y] 53))
     have hsz:=hHeld.size
     refine hK.out _ _ (hHeld.alloc hHeld.size (.cells #[.int .i64 (b:Int),.bool u,.int .i64 d.y] 53)) (fun hHeld=>?_)
     have hzz:(wd.alloc (.cells #[.int .i64 (b:Int),.bool u,.int .i64 d.y] 53)).heap.size=wd.heap.size+1:=by simp
     generalize wd.alloc (.cells #[.int .i64 (b:Int),.bool u,.int .i64 d.y] 53)=we at *
     have HNW:=Lib.hid hnw
     have HRA:=Lib.hid hra
     have HRJ:=Lib.hid hri
     have HZZ:=Lib.hid hzz
     clear hK K hnw hra hri hzz
     refine wpAnyH_ready (rs:=[23]) (by kernel_rfl) (by simp) ?_
     refine AllReadyH.cons (o:={ dst:=some 48,op:=Op.call { callee:=Callee.builtin Builtin.append,args:=#[Operand.tmp 25,Operand.tmp 47],argTypes:=#[50,50] },type:=50,pos := "l4_loans.go:24",after:=#[{ on:=0,ground:=Ground.data },{ on:=22,ground:=Ground.data },{ on:=7,ground:=Ground.chain }],guard:=none }) rfl (fun K hK=>?_) AllReadyH.nil
     refine step_append_lies _ rfl _ _ 50 rfl w1.heap.size 53 i0 (.agg #[.int .i64 0,.bool false,.int .i64 0]) 3 24 Tryz.underlying50 HI.out HZ0.out HZ1.out HZ2.out rfl (by decide) _ _ _ rfl (RowN.own HRA.out) ⟨wd.heap.size,0,none⟩ 1 1 [.int .i64 (b:Int),.bool u,.int .i64 d.y] rfl rfl (World.news_of_block HNW.out) (by intro u9 hu9;simp only [List.mem_cons,List.not_mem_nil,or_false] at hu9;rcases hu9 with rfl | rfl | rfl <;> rfl) (by decide) (by unfold maxLen;have:=hlT;omega) (by have:=hlT;omega) (by have:=HZZ.out;omega) _ rfl ?_
     intro g9 cap9 w9 hown9 hgg9 hat9 hlt9
     refine hK.out _ _ (hHeld.grown hgg9 hHeld.size (fun k9 hk9=>(RowN.lt HRA.out k9 hk9).1)) (fun hHeld=>?_)
     have HR9:=Lib.hid (RowN.snoc (d:=⟨(b:Int),u,d.y⟩) hown9)
     have HRI9:=Lib.hid (RowI.grownN HRJ.out HRA.out hgg9)
     clear hK K hown9 hgg9 hat9 hlt9
     refine wpAnyH_take (i:=24) (oi:={ dst:=some 5,op:=Op.assign (Operand.tmp 48),type:=50,pos := "l4_loans.go:24",after:=#[{ on:=23,ground:=Ground.data },{ on:=23,ground:=Ground.chain },{ on:=0,ground:=Ground.phase },{ on:=1,ground:=Ground.phase },{ on:=2,ground:=Ground.phase },{ on:=3,ground:=Ground.phase },{ on:=4,ground:=Ground.phase },{ on:=5,ground:=Ground.phase },{ on:=6,ground:=Ground.phase },{ on:=7,ground:=Ground.phase },{ on:=8,ground:=Ground.phase },{ on:=9,ground:=Ground.phase },{ on:=10,ground:=Ground.phase },{ on:=11,ground:=Ground.phase },{ on:=12,ground:=Ground.phase },{ on:=13,ground:=Ground.phase },{ on:=14,ground:=Ground.phase },{ on:=15,ground:=Ground.phase },{ on:=16,ground:=Ground.phase },{ on:=17,ground:=Ground.phase },{ on:=18,ground:=Ground.phase },{ on:=19,ground:=Ground.phase },{ on:=20,ground:=Ground.phase },{ on:=21,ground:=Ground.phase },{ on:=22,ground:=Ground.phase },{ on:=23,ground:=Ground.phase }],guard:=none }) (v:=.slice (some ⟨g9,0,none⟩) ((loansT bl ns j).length+1) cap9) rfl (by kernel_rfl) (by kernel_rfl) (by kernel_rfl) (fun _ _ _ h=>h) (Or.inl ⟨by rfl,fun w hSw=>by go_simp⟩) hHeld ?_
     try simp only [Act.put,sA,sB,sC]
     refine wpAnyH_done (by kernel_rfl) ?_ _
     clear HRA HRJ HNW HZZ hhas
     have HB9:=Lib.hid hHeld
     clear hHeld
     go_wp2_with fail
     refine ⟨⟨j+1,by simp,by omega,(by rw [HNX.out];exact HR9),HRI9,HB9⟩,?_⟩
     ·simp only [intOf]
      omega
    refine AllReadyH.cons (o:={ dst:=some 39,op:=Op.load 74 (Operand.tmp 38),type:=74,pos := "l4_loans.go:24",after:=#[{ on:=13,ground:=Ground.data }],guard:=none }) rfl (fun K hK=>?_) AllReadyH.nil
    have h9:=(HLN.out.ln.keep hHeld).fl.grCell
    go_simp
    refine hK.out _ _ hHeld (fun hHeld=>?_)
    clear hK K h9
    refine wpAnyH_take (i:=16) (oi:={ dst:=some 41,op:=Op.nilCheck (Operand.tmp 39),type:=0,pos := "l4_loans.go:24",after:=#[{ on:=14,ground:=Ground.data }],guard:=none }) (v:=.pointer (some ⟨C,0,none⟩)) rfl (by kernel_rfl) (by kernel_rfl) (by kernel_rfl) (fun _ _ _ h=>h) (Or.inl ⟨by rfl,fun w hSw=>by go_simp⟩) hHeld ?_
    try simp only [Act.put,sA,sB,sC]
    refine wpAnyH_take (i:=17) (oi:={ dst:=some 42,op:=Op.fieldAddr 83 (Operand.tmp 41) 0,type:=0,pos := "l4_loans.go:24",after:=#[{ on:=16,ground:=Ground.data }],guard:=none }) (v:=.pointer (some ⟨C,0,none⟩)) rfl (by kernel_rfl) (by kernel_rfl) (by kernel_rfl) (fun _ _ _ h=>h) (Or.inl ⟨by rfl,fun w hSw=>by go_simp⟩) hHeld ?_
    try simp only [Act.put,sA,sB,sC]
    refine wpAnyH_take (i:=18) (oi:={ dst:=some 43,op:=Op.indexAddr 81 (Operand.tmp 42) (Operand.tmp 40),type:=0,pos := "l4_loans.go:24",after:=#[{ on:=17,ground:=Ground.data },{ on:=15,ground:=Ground.data }],guard:=none }) (v:=.pointer (some ⟨C,b*7,none⟩)) rfl (by kernel_rfl) (by kernel_rfl) (by kernel_rfl) (fun _ _ _ h=>h) (Or.inl ⟨by rfl,fun w hSw=>by go_simp⟩) hHeld ?_
    try simp only [Act.put,sA,sB,sC]
    refine wpAnyH_take (i:=19) (oi:={ dst:=some 44,op:=Op.fieldAddr 80 (Operand.tmp 43) 2,type:=0,pos := "l4_loans.go:24",after:=#[{ on:=18,ground:=Ground.data }],guard:=none }) (v:=.pointer (some ⟨C,b*7+2,none⟩)) rfl (by kernel_rfl) (by kernel_rfl) (by kernel_rfl) (fun _ _ _ h=>h) (Or.inl ⟨by rfl,fun w hSw=>by go_simp⟩) hHeld ?_
    try simp only [Act.put,sA,sB,sC]
    refine wpAnyH_ready (rs:=[7,20]) (by kernel_rfl) (by simp) ?_
    refine AllReadyH.cons (o:={ dst:=some 32,op:=Op.call { callee:=Callee.value (Operand.func 56),args:=#[Operand.tmp 30,Operand.tmp 31],argTypes:=#[55,3] },type:=4,pos := "l4_loans.go:24",after:=#[{ on:=5,ground:=Ground.data },{ on:=6,ground:=Ground.data }],guard:=none }) rfl (fun K hK=>?_) ?_
    ·skip
     go_simp
     refine (hhas _).mono ?_
     rintro E w99 ⟨rfl,hw99⟩
     rw [hw99]
     clear hw99 w99
     refine hK.out _ _ hHeld (fun hHeld=>?_)
     clear hK K
     refine wpAnyH_ready (rs:=[20]) (by kernel_rfl) (by simp) ?_
     refine AllReadyH.cons (o:={ dst:=some 45,op:=Op.load 3 (Operand.tmp 44),type:=3,pos := "l4_loans.go:24",after:=#[{ on:=19,ground:=Ground.data }],guard:=none }) rfl (fun K hK=>?_) AllReadyH.nil
     have h9:=((HLN.out.ln.keep hHeld).fl.gr.node HDB.out).2.2.2.2.2.1
     go_simp
     refine hK.out _ _ hHeld (fun hHeld=>?_)
     clear hK K h9
     refine wpAnyH_take (i:=21) (oi:={ dst:=some 46,op:=Op.build 53 #[(0,Operand.tmp 26),(1,Operand.tmp 32),(2,Operand.tmp 45)],type:=53,pos := "l4_loans.go:24",after:=#[{ on:=1,ground:=Ground.data },{ on:=7,ground:=Ground.data },{ on:=20,ground:=Ground.data }],guard:=none }) (v:=.agg #[.int .i64 (b:Int),.bool u,.int .i64 d.y]) rfl (by kernel_rfl) (by kernel_rfl) (by kernel_rfl) (fun _ _ _ h=>h) (Or.inl ⟨by rfl,fun w9 hSw=>by go_simp⟩) hHeld ?_
     try simp only [Act.put,sA,sB,sC]
     refine wpAnyH_ready (rs:=[22]) (by kernel_rfl) (by simp) ?_
     refine AllReadyH.cons (o:={ dst:=some 47,op:=Op.buildSlice 50 1 #[(0,Operand.tmp 46)],type:=50,pos := "l4_loans.go:24",after:=#[{ on:=21,ground:=Ground.data }],guard:=none }) rfl (fun K hK=>?_) AllReadyH.nil
     go_simp
     have hnw:=heap_alloc_new wd (.cells #[.int .i64 (b:Int),.bool u,.int .i64 d.y] 53)
     have hra:=RowN.below HRW.out ((Below.refl wd.heap.size wd).alloc (Nat.le_refl _) (.cells #[.int .i64 (b:Int),.bool u,.int .i64 d.y] 53))
     have hri:=RowI.below HRI.out ((Below.refl wd.heap.size wd).alloc (Nat.le_refl _) (.cells #[.int .i64 (b:Int),.bool u,.int .i64 d.y] 53))
     have hsz:=hHeld.size
     refine hK.out _ _ (hHeld.alloc hHeld.size (.cells #[.int .i64 (b:Int),.bool u,.int .i64 d.y] 53)) (fun hHeld=>?_)
     have hzz:(wd.alloc (.cells #[.int .i64 (b:Int),.bool u,.int .i64 d.y] 53)).heap.size=wd.heap.size+1:=by simp
     generalize wd.alloc (.cells #[.int .i64 (b:Int),.bool u,.int .i64 d.y] 53)=we at *
     have HNW:=Lib.hid hnw
     have HRA:=Lib.hid hra
     have HRJ:=Lib.hid hri
     have HZZ:=Lib.hid hzz
     clear hK K hnw hra hri hzz
     refine wpAnyH_ready (rs:=[23]) (by kernel_rfl) (by simp) ?_
     refine AllReadyH.cons (o:={ dst:=some 48,op:=Op.call { callee:=Callee.builtin Builtin.append,args:=#[Operand.tmp 25,Operand.tmp 47],argTypes:=#[50,50] },type:=50,pos := "l4_loans.go:24",after:=#[{ on:=0,ground:=Ground.data },{ on:=22,ground:=Ground.data },{ on:=7,ground:=Ground.chain }],guard:=none }) rfl (fun K hK=>?_) AllReadyH.nil
     refine step_append_lies _ rfl _ _ 50 rfl w1.heap.size 53 i0 (.agg #[.int .i64 0,.bool false,.int .i64 0]) 3 24 Tryz.underlying50 HI.out HZ0.out HZ1.out HZ2.out rfl (by decide) _ _ _ rfl (RowN.own HRA.out) ⟨wd.heap.size,0,none⟩ 1 1 [.int .i64 (b:Int),.bool u,.int .i64 d.y] rfl rfl (World.news_of_block HNW.out) (by intro u9 hu9;simp only [List.mem_cons,List.not_mem_nil,or_false] at hu9;rcases hu9 with rfl | rfl | rfl <;> rfl) (by decide) (by unfold maxLen;have:=hlT;omega) (by have:=hlT;omega) (by have:=HZZ.out;omega) _ rfl ?_
     intro g9 cap9 w9 hown9 hgg9 hat9 hlt9
     refine hK.out _ _ (hHeld.grown hgg9 hHeld.size (fun k9 hk9=>(RowN.lt HRA.out k9 hk9).1)) (fun hHeld=>?_)
     have HR9:=Lib.hid (RowN.snoc (d:=⟨(b:Int),u,d.y⟩) hown9)
     have HRI9:=Lib.hid (RowI.grownN HRJ.out HRA.out hgg9)
     clear hK K hown9 hgg9 hat9 hlt9
     refine wpAnyH_take (i:=24) (oi:={ dst:=some 5,op:=Op.assign (Operand.tmp 48),type:=50,pos := "l4_loans.go:24",after:=#[{ on:=23,ground:=Ground.data },{ on:=23,ground:=Ground.chain },{ on:=0,ground:=Ground.phase },{ on:=1,ground:=Ground.phase },{ on:=2,ground:=Ground.phase },{ on:=3,ground:=Ground.phase },{ on:=4,ground:=Ground.phase },{ on:=5,ground:=Ground.phase },{ on:=6,ground:=Ground.phase },{ on:=7,ground:=Ground.phase },{ on:=8,ground:=Ground.phase },{ on:=9,ground:=Ground.phase },{ on:=10,ground:=Ground.phase },{ on:=11,ground:=Ground.phase },{ on:=12,ground:=Ground.phase },{ on:=13,ground:=Ground.phase },{ on:=14,ground:=Ground.phase },{ on:=15,ground:=Ground.phase },{ on:=16,ground:=Ground.phase },{ on:=17,ground:=Ground.phase },{ on:=18,ground:=Ground.phase },{ on:=19,ground:=Ground.phase },{ on:=20,ground:=Ground.phase },{ on:=21,ground:=Ground.phase },{ on:=22,ground:=Ground.phase },{ on:=23,ground:=Ground.phase }],guard:=none }) (v:=.slice (some ⟨g9,0,none⟩) ((loansT bl ns j).length+1) cap9) rfl (by kernel_rfl) (by kernel_rfl) (by kernel_rfl) (fun _ _ _ h=>h) (Or.inl ⟨by rfl,fun w hSw=>by go_simp⟩) hHeld ?_
     try simp only [Act.put,sA,sB,sC]
     refine wpAnyH_done (by kernel_rfl) ?_ _
     clear HRA HRJ HNW HZZ hhas
     have HB9:=Lib.hid hHeld
     clear hHeld
     go_wp2_with fail
     refine ⟨⟨j+1,by simp,by omega,(by rw [HNX.out];exact HR9),HRI9,HB9⟩,?_⟩
     ·simp only [intOf]
      omega
    refine AllReadyH.cons (o:={ dst:=some 45,op:=Op.load 3 (Operand.tmp 44),type:=3,pos := "l4_loans.go:24",after:=#[{ on:=19,ground:=Ground.data }],guard:=none }) rfl (fun K hK=>?_) AllReadyH.nil
    have h9:=((HLN.out.ln.keep hHeld).fl.gr.node HDB.out).2.2.2.2.2.1
    go_simp
    refine hK.out _ _ hHeld (fun hHeld=>?_)
    clear hK K h9
    refine wpAnyH_ready (rs:=[7]) (by kernel_rfl) (by simp) ?_
    refine AllReadyH.cons (o:={ dst:=some 32,op:=Op.call { callee:=Callee.value (Operand.func 56),args:=#[Operand.tmp 30,Operand.tmp 31],argTypes:=#[55,3] },type:=4,pos := "l4_loans.go:24",after:=#[{ on:=5,ground:=Ground.data },{ on:=6,ground:=Ground.data }],guard:=none }) rfl (fun K hK=>?_) AllReadyH.nil
    go_simp
    refine (hhas _).mono ?_
    rintro E w99 ⟨rfl,hw99⟩
    rw [hw99]
    clear hw99 w99
    refine hK.out _ _ hHeld (fun hHeld=>?_)
    clear hK K
    refine wpAnyH_take (i:=21) (oi:={ dst:=some 46,op:=Op.build 53 #[(0,Operand.tmp 26),(1,Operand.tmp 32),(2,Operand.tmp 45)],type:=53,pos := "l4_loans.go:24",after:=#[{ on:=1,ground:=Ground.data },{ on:=7,ground:=Ground.data },{ on:=20,ground:=Ground.data }],guard:=none }) (v:=.agg #[.int .i64 (b:Int),.bool u,.int .i64 d.y]) rfl (by kernel_rfl) (by kernel_rfl) (by kernel_rfl) (fun _ _ _ h=>h) (Or.inl ⟨by rfl,fun w9 hSw=>by go_simp⟩) hHeld ?_
    try simp only [Act.put,sA,sB,sC]
    refine wpAnyH_ready (rs:=[22]) (by kernel_rfl) (by simp) ?_
    refine AllReadyH.cons (o:={ dst:=some 47,op:=Op.buildSlice 50 1 #[(0,Operand.tmp 46)],type:=50,pos := "l4_loans.go:24",after:=#[{ on:=21,ground:=Ground.data }],guard:=none }) rfl (fun K hK=>?_) AllReadyH.nil
    go_simp
    have hnw:=heap_alloc_new wd (.cells #[.int .i64 (b:Int),.bool u,.int .i64 d.y] 53)
    have hra:=RowN.below HRW.out ((Below.refl wd.heap.size wd).alloc (Nat.le_refl _) (.cells #[.int .i64 (b:Int),.bool u,.int .i64 d.y] 53))
    have hri:=RowI.below HRI.out ((Below.refl wd.heap.size wd).alloc (Nat.le_refl _) (.cells #[.int .i64 (b:Int),.bool u,.int .i64 d.y] 53))
    have hsz:=hHeld.size
    refine hK.out _ _ (hHeld.alloc hHeld.size (.cells #[.int .i64 (b:Int),.bool u,.int .i64 d.y] 53)) (fun hHeld=>?_)
    have hzz:(wd.alloc (.cells #[.int .i64 (b:Int),.bool u,.int .i64 d.y] 53)).heap.size=wd.heap.size+1:=by simp
    generalize wd.alloc (.cells #[.int .i64 (b:Int),.bool u,.int .i64 d.y] 53)=we at *
    have HNW:=Lib.hid hnw
    have HRA:=Lib.hid hra
    have HRJ:=Lib.hid hri
    have HZZ:=Lib.hid hzz
    clear hK K hnw hra hri hzz
    refine wpAnyH_ready (rs:=[23]) (by kernel_rfl) (by simp) ?_
    refine AllReadyH.cons (o:={ dst:=some 48,op:=Op.call { callee:=Callee.builtin Builtin.append,args:=#[Operand.tmp 25,Operand.tmp 47],argTypes:=#[50,50] },type:=50,pos := "l4_loans.go:24",after:=#[{ on:=0,ground:=Ground.data },{ on:=22,ground:=Ground.data },{ on:=7,ground:=Ground.chain }],guard:=none }) rfl (fun K hK=>?_) AllReadyH.nil
    refine step_append_lies _ rfl _ _ 50 rfl w1.heap.size 53 i0 (.agg #[.int .i64 0,.bool false,.int .i64 0]) 3 24 Tryz.underlying50 HI.out HZ0.out HZ1.out HZ2.out rfl (by decide) _ _ _ rfl (RowN.own HRA.out) ⟨wd.heap.size,0,none⟩ 1 1 [.int .i64 (b:Int),.bool u,.int .i64 d.y] rfl rfl (World.news_of_block HNW.out) (by intro u9 hu9;simp only [List.mem_cons,List.not_mem_nil,or_false] at hu9;rcases hu9 with rfl | rfl | rfl <;> rfl) (by decide) (by unfold maxLen;have:=hlT;omega) (by have:=hlT;omega) (by have:=HZZ.out;omega) _ rfl ?_
    intro g9 cap9 w9 hown9 hgg9 hat9 hlt9
    refine hK.out _ _ (hHeld.grown hgg9 hHeld.size (fun k9 hk9=>(RowN.lt HRA.out k9 hk9).1)) (fun hHeld=>?_)
    have HR9:=Lib.hid (RowN.snoc (d:=⟨(b:Int),u,d.y⟩) hown9)
    have HRI9:=Lib.hid (RowI.grownN HRJ.out HRA.out hgg9)
    clear hK K hown9 hgg9 hat9 hlt9
    refine wpAnyH_take (i:=24) (oi:={ dst:=some 5,op:=Op.assign (Operand.tmp 48),type:=50,pos := "l4_loans.go:24",after:=#[{ on:=23,ground:=Ground.data },{ on:=23,ground:=Ground.chain },{ on:=0,ground:=Ground.phase },{ on:=1,ground:=Ground.phase },{ on:=2,ground:=Ground.phase },{ on:=3,ground:=Ground.phase },{ on:=4,ground:=Ground.phase },{ on:=5,ground:=Ground.phase },{ on:=6,ground:=Ground.phase },{ on:=7,ground:=Ground.phase },{ on:=8,ground:=Ground.phase },{ on:=9,ground:=Ground.phase },{ on:=10,ground:=Ground.phase },{ on:=11,ground:=Ground.phase },{ on:=12,ground:=Ground.phase },{ on:=13,ground:=Ground.phase },{ on:=14,ground:=Ground.phase },{ on:=15,ground:=Ground.phase },{ on:=16,ground:=Ground.phase },{ on:=17,ground:=Ground.phase },{ on:=18,ground:=Ground.phase },{ on:=19,ground:=Ground.phase },{ on:=20,ground:=Ground.phase },{ on:=21,ground:=Ground.phase },{ on:=22,ground:=Ground.phase },{ on:=23,ground:=Ground.phase }],guard:=none }) (v:=.slice (some ⟨g9,0,none⟩) ((loansT bl ns j).length+1) cap9) rfl (by kernel_rfl) (by kernel_rfl) (by kernel_rfl) (fun _ _ _ h=>h) (Or.inl ⟨by rfl,fun w hSw=>by go_simp⟩) hHeld ?_
    try simp only [Act.put,sA,sB,sC]
    refine wpAnyH_done (by kernel_rfl) ?_ _
    clear HRA HRJ HNW HZZ hhas
    have HB9:=Lib.hid hHeld
    clear hHeld
    go_wp2_with fail
    refine ⟨⟨j+1,by simp,by omega,(by rw [HNX.out];exact HR9),HRI9,HB9⟩,?_⟩
    ·simp only [intOf]
     omega
   ·have hjn:j=bl.length:=by omega
    have jd:decide (j<bl.length)=false:=decide_eq_false hjl
    have hfin:loansT bl ns j=loansK ns ns.length:=by
     rw [loansK_bits ns hle,← HBM.out,← HBL.out,hjn]
     unfold loansT
     rw [List.take_length]
    have HFIN:=Lib.hid (HANS.out _ hfin)
    have HBF:=Lib.hid (HBW.out.trans (HB.out.mono hbz))
    have HRF:=Lib.hid (RowN.mono HRW.out hbz)
    clear hfin hjn hjl hj HRW HRI HB
    go_wp2_with fail
    go_ret
    exact ⟨_,_,rfl,HRF.out,HFIN.out,HBF.out⟩
end Go.Proofs.YtofcdecpipgmjaaGreatDoor
