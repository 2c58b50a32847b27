/- LoansOf of the model. -/
import Derived.Test.YtopibompapopiaaGreatDoorQLoI
import Derived.Test.YtopibompapopiaaGreatDoorQL2Xb
namespace Go.Proofs.YtopibompapopiaaGreatDoor
open Go.RowKit Go.Deep
set_option linter.unusedVariables false
set_option maxRecDepth 100000 in
set_option maxHeartbeats 4000000 in
theorem l4Loans_any (ns:List Nd) (v:Value) (B:Nat) (w:World) (hn:ns.length≤1000000) (h:PRow w B v ns) :
  Calls Tryz.prog 44 #[v] w fun E w'=>∃ v',E=.returned v'∧RowN w' w.heap.size v' (loansK ns ns.length)∧Below w.heap.size w w':=by
 obtain ⟨A0,c0,hv⟩:=h.slice
 subst hv
 obtain ⟨i0,hi0,hzz0,hzz1,hzz2⟩:=info_parts Tryz.infoLoan
 have HI:=Lib.hid hi0
 have HZ0:=Lib.hid hzz0
 have HZ1:=Lib.hid hzz1
 have HZ2:=Lib.hid hzz2
 have HP:=Lib.hid h
 have hlit:=World.ownsRow_lit (base:=w.heap.size) (e:=32) (size:=3) w #[] 0 (Nat.le_refl _) (by simp [maxLen]) rfl
 have HLIT:Hid (RowN (w.alloc (.cells #[] 32)) w.heap.size (.slice (some ⟨w.heap.size,0,none⟩) 0 0) (loansK ns 0)):=hlit
 have HBA:=Lib.hid ((Below.refl w.heap.size w).alloc (Nat.le_refl _) (.cells #[] 32))
 clear hi0 hzz0 hzz1 hzz2 h hlit
 go_enter Tryz.func44,Tryz.ntmps44
 go_wp2_with fail
 go_loopw [3,4] (fun qv i wr=>∃ k:Nat,i=.int .i64 k∧k≤ns.length∧Hid (RowN wr w.heap.size qv (loansK ns k))∧Hid (Below w.heap.size w wr)) (fun _ i _=>ns.length-(intOf i).toNat)
 case atStart=>exact ⟨0,rfl,Nat.zero_le _,HLIT,HBA⟩
 case round =>
  clear HLIT HBA
  obtain ⟨k,rfl,hk,HRW,HB⟩:=hrel
  obtain ⟨Ao,co,ho⟩:=HRW.out.slice
  subst ho
  by_cases hlt:k<ns.length
  ·obtain ⟨d,hd⟩:∃ d,ns[k]?=some d:=⟨ns[k],List.getElem?_eq_getElem hlt⟩
   obtain ⟨g,cap,hgv,hBg,hgl,hgc,hcm⟩:=HP.out.form (by omega)
   injection hgv with hg1 _ hg2
   subst hg1 hg2
   obtain ⟨u,⟨q0,q1,q2,q3,q4⟩,-⟩:=HP.out.cells hd
   have hlT:=loansK_length ns k
   obtain ⟨op,hop⟩:∃ op,op=d.op:=⟨_,rfl⟩
   rw [← hop] at q0
   have HQ0:=Lib.hid q0
   have HQ2:=Lib.hid q2
   have HGL:=Lib.hid hgl
   have r0:=(HB.out.cell (p:=⟨g,k*5,none⟩) hgl).trans q0
   have ki0:(0:Int)≤(k:Int):=by omega
   have ki1:(k:Int)<(ns.length:Int):=by omega
   unfold maxLen at hcm
   by_cases h45:op=4∨op=5
   ·have hy:isLoan ns k=true:=by rw [isLoan_at hd,← hop];exact decide_eq_true h45
    have HNX:=Lib.hid (show loansK ns (k+1)=loansK ns k++[⟨(k:Int),decide (op=5),d.y⟩] from by rw [loansK_yes hy,ldOf_at hd,hop])
    have n45:(decide (op=4) || decide (op=5))=true:=by rcases h45 with h9 | h9 <;> simp [h9]
    clear hy hd hop q0 q1 q2 q3 q4 hBg
    rcases h45 with h4 | h5
    ·subst h4
     replace HNX:=Lib.hid (show loansK ns (k+1)=loansK ns k++[⟨(k:Int),false,d.y⟩] from HNX.out.trans (by simp))
     clear n45
     go_upto_region 6 with fail
     refine wp_region_held_drew (S:=fun w'=>Below w.heap.size w w') (by kernel_rfl) HB.out.drew (fun hHeld=>?_)
     replace HRW:Hid (RowN wr.drew w.heap.size (.slice Ao (loansK ns k).length co) (loansK ns k)):=RowN.keep HRW.out fun _ _=>rfl
     generalize wr.drew=wd at *
     clear HB r0
     refine wpAnyH_take (i:=0) (oi:={ dst:=some 26,op:=Op.move (Operand.tmp 3),type:=28,pos := "l4_loans.go:10",after:=#[],guard:=none }) (v:=.slice Ao (loansK ns k).length co) rfl (by kernel_rfl) (by kernel_rfl) (by kernel_rfl) (fun _ _ _ h=>h) (Or.inl ⟨by rfl,fun w hSw=>by go_simp⟩) hHeld ?_
     try simp only [Act.put,sA,sB,sC]
     refine wpAnyH_take (i:=1) (oi:={ dst:=some 27,op:=Op.move (Operand.tmp 4),type:=3,pos := "l4_loans.go:10",after:=#[],guard:=none }) (v:=.int .i64 (k:Int)) rfl (by kernel_rfl) (by kernel_rfl) (by kernel_rfl) (fun _ _ _ h=>h) (Or.inl ⟨by rfl,fun w hSw=>by go_simp⟩) hHeld ?_
     try simp only [Act.put,sA,sB,sC]
     refine wpAnyH_take (i:=2) (oi:={ dst:=some 28,op:=Op.move (Operand.tmp 0),type:=44,pos := "l4_loans.go:10",after:=#[],guard:=none }) (v:=.slice (some ⟨g,0,none⟩) ns.length c0) rfl (by kernel_rfl) (by kernel_rfl) (by kernel_rfl) (fun _ _ _ h=>h) (Or.inl ⟨by rfl,fun w hSw=>by go_simp⟩) hHeld ?_
     try simp only [Act.put,sA,sB,sC]
     refine wpAnyH_take (i:=3) (oi:={ dst:=some 29,op:=Op.move (Operand.tmp 4),type:=3,pos := "l4_loans.go:10",after:=#[],guard:=none }) (v:=.int .i64 (k:Int)) rfl (by kernel_rfl) (by kernel_rfl) (by kernel_rfl) (fun _ _ _ h=>h) (Or.inl ⟨by rfl,fun w hSw=>by go_simp⟩) hHeld ?_
     try simp only [Act.put,sA,sB,sC]
     refine wpAnyH_take (i:=4) (oi:={ dst:=some 30,op:=Op.indexAddr 44 (Operand.tmp 28) (Operand.tmp 29),type:=0,pos := "l4_loans.go:10",after:=#[{ on:=2,ground:=Ground.data },{ on:=3,ground:=Ground.data }],guard:=none }) (v:=.pointer (some ⟨g,k*5,none⟩)) rfl (by kernel_rfl) (by kernel_rfl) (by kernel_rfl) (fun _ _ _ h=>h) (Or.inl ⟨by rfl,fun w hSw=>by go_simp⟩) hHeld ?_
     try simp only [Act.put,sA,sB,sC]
     refine wpAnyH_take (i:=5) (oi:={ dst:=some 31,op:=Op.fieldAddr 47 (Operand.tmp 30) 0,type:=0,pos := "l4_loans.go:10",after:=#[{ on:=4,ground:=Ground.data }],guard:=none }) (v:=.pointer (some ⟨g,k*5,none⟩)) rfl (by kernel_rfl) (by kernel_rfl) (by kernel_rfl) (fun _ _ _ h=>h) (Or.inl ⟨by rfl,fun w hSw=>by go_simp⟩) hHeld ?_
     try simp only [Act.put,sA,sB,sC]
     refine wpAnyH_take (i:=6) (oi:={ dst:=some 32,op:=Op.load 3 (Operand.tmp 31),type:=3,pos := "l4_loans.go:10",after:=#[{ on:=5,ground:=Ground.data }],guard:=none }) (v:=.int .i64 4) rfl (by kernel_rfl) (by kernel_rfl) (by kernel_rfl) (fun _ _ _ h=>h) (Or.inl ⟨by rfl,fun w9 hSw=>by have h9:=(hSw.cell (p:=⟨g,k*5,none⟩) HGL.out).trans HQ0.out;go_simp⟩) hHeld ?_
     try simp only [Act.put,sA,sB,sC]
     refine wpAnyH_take (i:=7) (oi:={ dst:=some 33,op:=Op.binOp BinOp.eql 3 (Operand.tmp 32) (Operand.const (Value.int IntKind.i64 5)) 3,type:=4,pos := "l4_loans.go:10",after:=#[{ on:=6,ground:=Ground.data }],guard:=none }) (v:=.bool (false)) rfl (by kernel_rfl) (by kernel_rfl) (by kernel_rfl) (fun _ _ _ h=>h) (Or.inl ⟨by rfl,fun w9 hSw=>by go_simp⟩) hHeld ?_
     try simp only [Act.put,sA,sB,sC]
     refine wpAnyH_take (i:=8) (oi:={ dst:=some 34,op:=Op.move (Operand.tmp 0),type:=44,pos := "l4_loans.go:10",after:=#[],guard:=none }) (v:=.slice (some ⟨g,0,none⟩) ns.length c0) rfl (by kernel_rfl) (by kernel_rfl) (by kernel_rfl) (fun _ _ _ h=>h) (Or.inl ⟨by rfl,fun w hSw=>by go_simp⟩) hHeld ?_
     try simp only [Act.put,sA,sB,sC]
     refine wpAnyH_take (i:=9) (oi:={ dst:=some 35,op:=Op.move (Operand.tmp 4),type:=3,pos := "l4_loans.go:10",after:=#[],guard:=none }) (v:=.int .i64 (k:Int)) rfl (by kernel_rfl) (by kernel_rfl) (by kernel_rfl) (fun _ _ _ h=>h) (Or.inl ⟨by rfl,fun w hSw=>by go_simp⟩) hHeld ?_
     try simp only [Act.put,sA,sB,sC]
     refine wpAnyH_take (i:=10) (oi:={ dst:=some 36,op:=Op.indexAddr 44 (Operand.tmp 34) (Operand.tmp 35),type:=0,pos := "l4_loans.go:10",after:=#[{ on:=8,ground:=Ground.data },{ on:=9,ground:=Ground.data }],guard:=none }) (v:=.pointer (some ⟨g,k*5,none⟩)) rfl (by kernel_rfl) (by kernel_rfl) (by kernel_rfl) (fun _ _ _ h=>h) (Or.inl ⟨by rfl,fun w hSw=>by go_simp⟩) hHeld ?_
     try simp only [Act.put,sA,sB,sC]
     refine wpAnyH_take (i:=11) (oi:={ dst:=some 37,op:=Op.fieldAddr 47 (Operand.tmp 36) 2,type:=0,pos := "l4_loans.go:10",after:=#[{ on:=10,ground:=Ground.data }],guard:=none }) (v:=.pointer (some ⟨g,k*5+2,none⟩)) rfl (by kernel_rfl) (by kernel_rfl) (by kernel_rfl) (fun _ _ _ h=>h) (Or.inl ⟨by rfl,fun w hSw=>by go_simp⟩) hHeld ?_
     try simp only [Act.put,sA,sB,sC]
     refine wpAnyH_take (i:=12) (oi:={ dst:=some 38,op:=Op.load 3 (Operand.tmp 37),type:=3,pos := "l4_loans.go:10",after:=#[{ on:=11,ground:=Ground.data }],guard:=none }) (v:=.int .i64 d.y) rfl (by kernel_rfl) (by kernel_rfl) (by kernel_rfl) (fun _ _ _ h=>h) (Or.inl ⟨by rfl,fun w9 hSw=>by have h9:=(hSw.cell (p:=⟨g,k*5+2,none⟩) HGL.out).trans HQ2.out;go_simp⟩) hHeld ?_
     try simp only [Act.put,sA,sB,sC]
     refine wpAnyH_take (i:=13) (oi:={ dst:=some 39,op:=Op.build 32 #[(0,Operand.tmp 27),(1,Operand.tmp 33),(2,Operand.tmp 38)],type:=32,pos := "l4_loans.go:10",after:=#[{ on:=1,ground:=Ground.data },{ on:=7,ground:=Ground.data },{ on:=12,ground:=Ground.data }],guard:=none }) (v:=.agg #[.int .i64 (k:Int),.bool (false),.int .i64 d.y]) rfl (by kernel_rfl) (by kernel_rfl) (by kernel_rfl) (fun _ _ _ h=>h) (Or.inl ⟨by rfl,fun w9 hSw=>by go_simp⟩) hHeld ?_
     try simp only [Act.put,sA,sB,sC]
     refine wpAnyH_ready (rs:=[14]) (by kernel_rfl) (by simp) ?_
     refine AllReadyH.cons (o:={ dst:=some 40,op:=Op.buildSlice 28 1 #[(0,Operand.tmp 39)],type:=28,pos := "l4_loans.go:10",after:=#[{ on:=13,ground:=Ground.data }],guard:=none }) rfl (fun K hK=>?_) AllReadyH.nil
     go_simp
     have hnw:=heap_alloc_new wd (.cells #[.int .i64 (k:Int),.bool (false),.int .i64 d.y] 32)
     have hra:=RowN.below HRW.out ((Below.refl wd.heap.size wd).alloc (Nat.le_refl _) (.cells #[.int .i64 (k:Int),.bool (false),.int .i64 d.y] 32))
     have hsz:=hHeld.size
     refine hK.out _ _ (hHeld.alloc hHeld.size (.cells #[.int .i64 (k:Int),.bool (false),.int .i64 d.y] 32)) (fun hHeld=>?_)
     have hzz:(wd.alloc (.cells #[.int .i64 (k:Int),.bool (false),.int .i64 d.y] 32)).heap.size=wd.heap.size+1:=by simp
     generalize wd.alloc (.cells #[.int .i64 (k:Int),.bool (false),.int .i64 d.y] 32)=we at *
     have HNW:=Lib.hid hnw
     have HRA:=Lib.hid hra
     have HZZ:=Lib.hid hzz
     clear hK K hnw hra hzz
     refine wpAnyH_ready (rs:=[15]) (by kernel_rfl) (by simp) ?_
     refine AllReadyH.cons (o:={ dst:=some 41,op:=Op.call { callee:=Callee.builtin Builtin.append,args:=#[Operand.tmp 26,Operand.tmp 40],argTypes:=#[28,28] },type:=28,pos := "l4_loans.go:10",after:=#[{ on:=0,ground:=Ground.data },{ on:=14,ground:=Ground.data }],guard:=none }) rfl (fun K hK=>?_) AllReadyH.nil
     refine step_append_lies _ rfl _ _ 28 rfl w.heap.size 32 i0 (.agg #[.int .i64 0,.bool false,.int .i64 0]) 3 24 Tryz.underlying28 HI.out HZ0.out HZ1.out HZ2.out rfl (by decide) _ _ _ rfl (RowN.own HRA.out) ⟨wd.heap.size,0,none⟩ 1 1 [.int .i64 (k:Int),.bool (false),.int .i64 d.y] rfl rfl (World.news_of_block HNW.out) (by intro u9 hu9;simp only [List.mem_cons,List.not_mem_nil,or_false] at hu9;rcases hu9 with rfl | rfl | rfl <;> rfl) (by decide) (by unfold maxLen;have:=hlT;omega) (by have:=hlT;omega) (by have:=HZZ.out;omega) _ rfl ?_
     intro g9 cap9 w9 hown9 hgg9 hat9 hlt9
     refine hK.out _ _ (hHeld.grown hgg9 hHeld.size (fun k9 hk9=>(RowN.lt HRA.out k9 hk9).1)) (fun hHeld=>?_)
     have HR9:=Lib.hid (RowN.snoc (d:=⟨(k:Int),false,d.y⟩) hown9)
     clear hK K hown9 hgg9 hat9 hlt9
     refine wpAnyH_take (i:=16) (oi:={ dst:=some 3,op:=Op.assign (Operand.tmp 41),type:=28,pos := "l4_loans.go:10",after:=#[{ on:=15,ground:=Ground.data },{ on:=15,ground:=Ground.chain },{ on:=0,ground:=Ground.phase },{ on:=1,ground:=Ground.phase },{ on:=2,ground:=Ground.phase },{ on:=3,ground:=Ground.phase },{ on:=4,ground:=Ground.phase },{ on:=5,ground:=Ground.phase },{ on:=6,ground:=Ground.phase },{ on:=7,ground:=Ground.phase },{ on:=8,ground:=Ground.phase },{ on:=9,ground:=Ground.phase },{ on:=10,ground:=Ground.phase },{ on:=11,ground:=Ground.phase },{ on:=12,ground:=Ground.phase },{ on:=13,ground:=Ground.phase },{ on:=14,ground:=Ground.phase },{ on:=15,ground:=Ground.phase }],guard:=none }) (v:=.slice (some ⟨g9,0,none⟩) ((loansK ns k).length+1) cap9) rfl (by kernel_rfl) (by kernel_rfl) (by kernel_rfl) (fun _ _ _ h=>h) (Or.inl ⟨by rfl,fun w hSw=>by go_simp⟩) hHeld ?_
     try simp only [Act.put,sA,sB,sC]
     refine wpAnyH_done (by kernel_rfl) ?_ _
     clear HRA HNW HZZ
     have HB9:=Lib.hid hHeld
     clear hHeld
     go_wp2_with fail
     refine ⟨⟨k+1,by simp,by omega,(by rw [HNX.out];exact HR9),HB9⟩,?_⟩
     simp only [intOf]
     omega
    ·subst h5
     replace HNX:=Lib.hid (show loansK ns (k+1)=loansK ns k++[⟨(k:Int),true,d.y⟩] from HNX.out.trans (by simp))
     clear n45
     go_upto_region 6 with fail
     refine wp_region_held_drew (S:=fun w'=>Below w.heap.size w w') (by kernel_rfl) HB.out.drew (fun hHeld=>?_)
     replace HRW:Hid (RowN wr.drew w.heap.size (.slice Ao (loansK ns k).length co) (loansK ns k)):=RowN.keep HRW.out fun _ _=>rfl
     generalize wr.drew=wd at *
     clear HB r0
     refine wpAnyH_take (i:=0) (oi:={ dst:=some 26,op:=Op.move (Operand.tmp 3),type:=28,pos := "l4_loans.go:10",after:=#[],guard:=none }) (v:=.slice Ao (loansK ns k).length co) rfl (by kernel_rfl) (by kernel_rfl) (by kernel_rfl) (fun _ _ _ h=>h) (Or.inl ⟨by rfl,fun w hSw=>by go_simp⟩) hHeld ?_
     try simp only [Act.put,sA,sB,sC]
     refine wpAnyH_take (i:=1) (oi:={ dst:=some 27,op:=Op.move (Operand.tmp 4),type:=3,pos := "l4_loans.go:10",after:=#[],guard:=none }) (v:=.int .i64 (k:Int)) rfl (by kernel_rfl) (by kernel_rfl) (by kernel_rfl) (fun _ _ _ h=>h) (Or.inl ⟨by rfl,fun w hSw=>by go_simp⟩) hHeld ?_
     try simp only [Act.put,sA,sB,sC]
     refine wpAnyH_take (i:=2) (oi:={ dst:=some 28,op:=Op.move (Operand.tmp 0),type:=44,pos := "l4_loans.go:10",after:=#[],guard:=none }) (v:=.slice (some ⟨g,0,none⟩) ns.length c0) rfl (by kernel_rfl) (by kernel_rfl) (by kernel_rfl) (fun _ _ _ h=>h) (Or.inl ⟨by rfl,fun w hSw=>by go_simp⟩) hHeld ?_
     try simp only [Act.put,sA,sB,sC]
     refine wpAnyH_take (i:=3) (oi:={ dst:=some 29,op:=Op.move (Operand.tmp 4),type:=3,pos := "l4_loans.go:10",after:=#[],guard:=none }) (v:=.int .i64 (k:Int)) rfl (by kernel_rfl) (by kernel_rfl) (by kernel_rfl) (fun _ _ _ h=>h) (Or.inl ⟨by rfl,fun w hSw=>by go_simp⟩) hHeld ?_
     try simp only [Act.put,sA,sB,sC]
     refine wpAnyH_take (i:=4) (oi:={ dst:=some 30,op:=Op.indexAddr 44 (Operand.tmp 28) (Operand.tmp 29),type:=0,pos := "l4_loans.go:10",after:=#[{ on:=2,ground:=Ground.data },{ on:=3,ground:=Ground.data }],guard:=none }) (v:=.pointer (some ⟨g,k*5,none⟩)) rfl (by kernel_rfl) (by kernel_rfl) (by kernel_rfl) (fun _ _ _ h=>h) (Or.inl ⟨by rfl,fun w hSw=>by go_simp⟩) hHeld ?_
     try simp only [Act.put,sA,sB,sC]
     refine wpAnyH_take (i:=5) (oi:={ dst:=some 31,op:=Op.fieldAddr 47 (Operand.tmp 30) 0,type:=0,pos := "l4_loans.go:10",after:=#[{ on:=4,ground:=Ground.data }],guard:=none }) (v:=.pointer (some ⟨g,k*5,none⟩)) rfl (by kernel_rfl) (by kernel_rfl) (by kernel_rfl) (fun _ _ _ h=>h) (Or.inl ⟨by rfl,fun w hSw=>by go_simp⟩) hHeld ?_
     try simp only [Act.put,sA,sB,sC]
     refine wpAnyH_take (i:=6) (oi:={ dst:=some 32,op:=Op.load 3 (Operand.tmp 31),type:=3,pos := "l4_loans.go:10",after:=#[{ on:=5,ground:=Ground.data }],guard:=none }) (v:=.int .i64 5) rfl (by kernel_rfl) (by kernel_rfl) (by kernel_rfl) (fun _ _ _ h=>h) (Or.inl ⟨by rfl,fun w9 hSw=>by have h9:=(hSw.cell (p:=⟨g,k*5,none⟩) HGL.out).trans HQ0.out;go_simp⟩) hHeld ?_
     try simp only [Act.put,sA,sB,sC]
     refine wpAnyH_take (i:=7) (oi:={ dst:=some 33,op:=Op.binOp BinOp.eql 3 (Operand.tmp 32) (Operand.const (Value.int IntKind.i64 5)) 3,type:=4,pos := "l4_loans.go:10",after:=#[{ on:=6,ground:=Ground.data }],guard:=none }) (v:=.bool (true)) rfl (by kernel_rfl) (by kernel_rfl) (by kernel_rfl) (fun _ _ _ h=>h) (Or.inl ⟨by rfl,fun w9 hSw=>by go_simp⟩) hHeld ?_
     try simp only [Act.put,sA,sB,sC]
     refine wpAnyH_take (i:=8) (oi:={ dst:=some 34,op:=Op.move (Operand.tmp 0),type:=44,pos := "l4_loans.go:10",after:=#[],guard:=none }) (v:=.slice (some ⟨g,0,none⟩) ns.length c0) rfl (by kernel_rfl) (by kernel_rfl) (by kernel_rfl) (fun _ _ _ h=>h) (Or.inl ⟨by rfl,fun w hSw=>by go_simp⟩) hHeld ?_
     try simp only [Act.put,sA,sB,sC]
     refine wpAnyH_take (i:=9) (oi:={ dst:=some 35,op:=Op.move (Operand.tmp 4),type:=3,pos := "l4_loans.go:10",after:=#[],guard:=none }) (v:=.int .i64 (k:Int)) rfl (by kernel_rfl) (by kernel_rfl) (by kernel_rfl) (fun _ _ _ h=>h) (Or.inl ⟨by rfl,fun w hSw=>by go_simp⟩) hHeld ?_
     try simp only [Act.put,sA,sB,sC]
     refine wpAnyH_take (i:=10) (oi:={ dst:=some 36,op:=Op.indexAddr 44 (Operand.tmp 34) (Operand.tmp 35),type:=0,pos := "l4_loans.go:10",after:=#[{ on:=8,ground:=Ground.data },{ on:=9,ground:=Ground.data }],guard:=none }) (v:=.pointer (some ⟨g,k*5,none⟩)) rfl (by kernel_rfl) (by kernel_rfl) (by kernel_rfl) (fun _ _ _ h=>h) (Or.inl ⟨by rfl,fun w hSw=>by go_simp⟩) hHeld ?_
     try simp only [Act.put,sA,sB,sC]
     refine wpAnyH_take (i:=11) (oi:={ dst:=some 37,op:=Op.fieldAddr 47 (Operand.tmp 36) 2,type:=0,pos := "l4_loans.go:10",after:=#[{ on:=10,ground:=Ground.data }],guard:=none }) (v:=.pointer (some ⟨g,k*5+2,none⟩)) rfl (by kernel_rfl) (by kernel_rfl) (by kernel_rfl) (fun _ _ _ h=>h) (Or.inl ⟨by rfl,fun w hSw=>by go_simp⟩) hHeld ?_
     try simp only [Act.put,sA,sB,sC]
     refine wpAnyH_take (i:=12) (oi:={ dst:=some 38,op:=Op.load 3 (Operand.tmp 37),type:=3,pos := "l4_loans.go:10",after:=#[{ on:=11,ground:=Ground.data }],guard:=none }) (v:=.int .i64 d.y) rfl (by kernel_rfl) (by kernel_rfl) (by kernel_rfl) (fun _ _ _ h=>h) (Or.inl ⟨by rfl,fun w9 hSw=>by have h9:=(hSw.cell (p:=⟨g,k*5+2,none⟩) HGL.out).trans HQ2.out;go_simp⟩) hHeld ?_
     try simp only [Act.put,sA,sB,sC]
     refine wpAnyH_take (i:=13) (oi:={ dst:=some 39,op:=Op.build 32 #[(0,Operand.tmp 27),(1,Operand.tmp 33),(2,Operand.tmp 38)],type:=32,pos := "l4_loans.go:10",after:=#[{ on:=1,ground:=Ground.data },{ on:=7,ground:=Ground.data },{ on:=12,ground:=Ground.data }],guard:=none }) (v:=.agg #[.int .i64 (k:Int),.bool (true),.int .i64 d.y]) rfl (by kernel_rfl) (by kernel_rfl) (by kernel_rfl) (fun _ _ _ h=>h) (Or.inl ⟨by rfl,fun w9 hSw=>by go_simp⟩) hHeld ?_
     try simp only [Act.put,sA,sB,sC]
     refine wpAnyH_ready (rs:=[14]) (by kernel_rfl) (by simp) ?_
     refine AllReadyH.cons (o:={ dst:=some 40,op:=Op.buildSlice 28 1 #[(0,Operand.tmp 39)],type:=28,pos := "l4_loans.go:10",after:=#[{ on:=13,ground:=Ground.data }],guard:=none }) rfl (fun K hK=>?_) AllReadyH.nil
     go_simp
     have hnw:=heap_alloc_new wd (.cells #[.int .i64 (k:Int),.bool (true),.int .i64 d.y] 32)
     have hra:=RowN.below HRW.out ((Below.refl wd.heap.size wd).alloc (Nat.le_refl _) (.cells #[.int .i64 (k:Int),.bool (true),.int .i64 d.y] 32))
     have hsz:=hHeld.size
     refine hK.out _ _ (hHeld.alloc hHeld.size (.cells #[.int .i64 (k:Int),.bool (true),.int .i64 d.y] 32)) (fun hHeld=>?_)
     have hzz:(wd.alloc (.cells #[.int .i64 (k:Int),.bool (true),.int .i64 d.y] 32)).heap.size=wd.heap.size+1:=by simp
     generalize wd.alloc (.cells #[.int .i64 (k:Int),.bool (true),.int .i64 d.y] 32)=we at *
     have HNW:=Lib.hid hnw
     have HRA:=Lib.hid hra
     have HZZ:=Lib.hid hzz
     clear hK K hnw hra hzz
     refine wpAnyH_ready (rs:=[15]) (by kernel_rfl) (by simp) ?_
     refine AllReadyH.cons (o:={ dst:=some 41,op:=Op.call { callee:=Callee.builtin Builtin.append,args:=#[Operand.tmp 26,Operand.tmp 40],argTypes:=#[28,28] },type:=28,pos := "l4_loans.go:10",after:=#[{ on:=0,ground:=Ground.data },{ on:=14,ground:=Ground.data }],guard:=none }) rfl (fun K hK=>?_) AllReadyH.nil
     refine step_append_lies _ rfl _ _ 28 rfl w.heap.size 32 i0 (.agg #[.int .i64 0,.bool false,.int .i64 0]) 3 24 Tryz.underlying28 HI.out HZ0.out HZ1.out HZ2.out rfl (by decide) _ _ _ rfl (RowN.own HRA.out) ⟨wd.heap.size,0,none⟩ 1 1 [.int .i64 (k:Int),.bool (true),.int .i64 d.y] rfl rfl (World.news_of_block HNW.out) (by intro u9 hu9;simp only [List.mem_cons,List.not_mem_nil,or_false] at hu9;rcases hu9 with rfl | rfl | rfl <;> rfl) (by decide) (by unfold maxLen;have:=hlT;omega) (by have:=hlT;omega) (by have:=HZZ.out;omega) _ rfl ?_
     intro g9 cap9 w9 hown9 hgg9 hat9 hlt9
     refine hK.out _ _ (hHeld.grown hgg9 hHeld.size (fun k9 hk9=>(RowN.lt HRA.out k9 hk9).1)) (fun hHeld=>?_)
     have HR9:=Lib.hid (RowN.snoc (d:=⟨(k:Int),true,d.y⟩) hown9)
     clear hK K hown9 hgg9 hat9 hlt9
     refine wpAnyH_take (i:=16) (oi:={ dst:=some 3,op:=Op.assign (Operand.tmp 41),type:=28,pos := "l4_loans.go:10",after:=#[{ on:=15,ground:=Ground.data },{ on:=15,ground:=Ground.chain },{ on:=0,ground:=Ground.phase },{ on:=1,ground:=Ground.phase },{ on:=2,ground:=Ground.phase },{ on:=3,ground:=Ground.phase },{ on:=4,ground:=Ground.phase },{ on:=5,ground:=Ground.phase },{ on:=6,ground:=Ground.phase },{ on:=7,ground:=Ground.phase },{ on:=8,ground:=Ground.phase },{ on:=9,ground:=Ground.phase },{ on:=10,ground:=Ground.phase },{ on:=11,ground:=Ground.phase },{ on:=12,ground:=Ground.phase },{ on:=13,ground:=Ground.phase },{ on:=14,ground:=Ground.phase },{ on:=15,ground:=Ground.phase }],guard:=none }) (v:=.slice (some ⟨g9,0,none⟩) ((loansK ns k).length+1) cap9) rfl (by kernel_rfl) (by kernel_rfl) (by kernel_rfl) (fun _ _ _ h=>h) (Or.inl ⟨by rfl,fun w hSw=>by go_simp⟩) hHeld ?_
     try simp only [Act.put,sA,sB,sC]
     refine wpAnyH_done (by kernel_rfl) ?_ _
     clear HRA HNW HZZ
     have HB9:=Lib.hid hHeld
     clear hHeld
     go_wp2_with fail
     refine ⟨⟨k+1,by simp,by omega,(by rw [HNX.out];exact HR9),HB9⟩,?_⟩
     simp only [intOf]
     omega
   ·have n4:¬ op=4:=fun h9=>h45 (.inl h9)
    have n5:¬ op=5:=fun h9=>h45 (.inr h9)
    have b4:(op==4)=false:=by simp [n4]
    have b5:(op==5)=false:=by simp [n5]
    have d4:decide (op=4)=false:=decide_eq_false n4
    have d5:decide (op=5)=false:=decide_eq_false n5
    have hno:isLoan ns k=false:=by rw [isLoan_at hd,← hop];exact decide_eq_false h45
    have e:=Lib.hid (loansK_no hno)
    clear h45 hno hd hop q0 q1 q2 q3 q4 hBg
    go_wp2_with fail
    refine ⟨⟨k+1,by simp,by omega,by rw [e.out];exact HRW,HB⟩,?_⟩
    simp only [intOf]
    omega
  ·have hke:k=ns.length:=by omega
   have kd:decide (k<ns.length)=false:=decide_eq_false hlt
   have HRF:Hid (RowN wr w.heap.size (.slice Ao (loansK ns k).length co) (loansK ns ns.length)):=by
    have h9:=HRW.out
    rw [hke] at h9 ⊢
    exact h9
   clear HRW hke hlt hk
   go_wp2_with fail
   go_ret
   exact ⟨_,rfl,HRF.out,HB.out⟩
set_option maxHeartbeats 2000000 in
theorem specLoansOf_any (ts:List Int) (s:Sts) (At As:Option Addr) (ct cs:Nat) (w:World) (hsz:s.size≤1048576) (hT:IntsV w 0 w.heap.size ts At ct) (hR:RepV w 0 w.heap.size s As cs) :
  Calls Tryz.prog 15 #[.agg #[.slice At ts.length ct,.slice As s.len cs]] w fun E w'=>∃ v l,E=.returned v∧RowN w' w.heap.size v l∧AnsLoans (validB ts s) s l∧Below w.heap.size w w':=by
 have hb0:=(Below.refl w.heap.size w).alloc (Nat.le_refl _) (.cells #[.slice At ts.length ct,.slice As s.len cs] 26)
 have hz0:(w.alloc (.cells #[.slice At ts.length ct,.slice As s.len cs] 26)).heap.size=w.heap.size+1:=by simp
 have HZ:=Lib.hid hz0
 have hp:=specPointsOf_any ts s At As ct cs _ hsz (hT.below hb0 (by simp)) (hR.below hb0 (by simp))
 have hlen:(pointsB (validB ts s) s).length≤1000000:=by
  unfold pointsB
  split
  ·rename_i h
   have:=valid_size h
   have:=s.npts_le
   rw [progPts_len]
   omega
  ·simp
 have hans:AnsLoans (validB ts s) s (loansK (pointsB (validB ts s) s) (pointsB (validB ts s) s).length):=by
  unfold pointsB
  cases validB ts s
  ·exact .inr ⟨rfl,rfl⟩
  ·exact .inl ⟨rfl,rfl⟩
 generalize pointsB (validB ts s) s=ns at *
 have HANS:=Lib.hid hans
 have HLEN:=Lib.hid hlen
 clear hz0 hT hR hans hlen
 go_enter Tryz.func15,Tryz.ntmps15
 go_wp2_with fail
 refine hp.mono ?_
 rintro E w1 ⟨v,rfl,hpr,hb1⟩
 rw [HZ.out] at hb1
 have hb:Below w.heap.size w w1:=hb0.trans (hb1.mono (by omega))
 have HB:=Lib.hid hb
 have hl:=l4Loans_any ns v _ w1 HLEN.out hpr
 have hbz:=hb.size
 clear hb1 hb hp hpr hb0
 go_wp2_with fail
 refine hl.mono ?_
 rintro E w2 ⟨v',rfl,hrw,hb2⟩
 have HRW:=Lib.hid (RowN.mono hrw hbz)
 have HB2:=Lib.hid (HB.out.trans (hb2.mono hbz))
 clear hl hrw hb2
 go_wp2_with fail
 go_ret
 exact ⟨v',_,rfl,HRW.out,HANS.out,HB2.out⟩
end Go.Proofs.YtopibompapopiaaGreatDoor
