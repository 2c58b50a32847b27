/- The accesses of a point,by the model: l4Accesses. -/
import Derived.Test.YtedkkphogeealaaGreatDoorPAnsG
import Derived.Test.YtedkkphogeealaaGreatDoorPLmoX
import Derived.Deep.AppendLies
import Derived.Deep.DeepCutAuto
import Derived.Deep.CutBlock
import Derived.Deep.LoopGhost
namespace Go.Proofs.YtedkkphogeealaaGreatDoor
open Go.RowKit Go.Deep
set_option linter.unusedVariables false
set_option maxRecDepth 100000
set_option maxHeartbeats 8000000
theorem Tryz.infoAccess:(Tryz.prog.info? 186).map (fun i=>(i.zero,i.size,i.bytes))=some (some (.agg #[.int .i64 0,.bool false]),2,16):=by kernel_rfl
def accA (ts:List Int) (d:Nd):List AccD:=if d.op=4∨d.op=6 then [⟨d.y,false⟩] else if d.op=5 then [⟨d.y,true⟩] else if d.op=7∨d.op=8 then [⟨d.x,true⟩] else if d.op=3∧(tyAt ts d.y=2∨tyAt ts d.y=4) then [⟨d.y,true⟩] else []
def accB (ts:List Int) (d:Nd) (b:Bool):List AccD:=if 1≤d.op∧d.op≤6∧tyAt ts d.x=2∧b=true then [⟨d.x,true⟩] else []
theorem accD_is (ts:List Int) (d:Nd) (b:Bool):accD ts d b=accA ts d++accB ts d b:=rfl
theorem accA_length (ts:List Int) (d:Nd):(accA ts d).length≤1:=by unfold accA;(repeat' split) <;> simp
theorem l4Accesses_any (ts:List Int) (At:Option Addr) (ct:Nat) (d:Nd) (An:Option Addr) (cn:Nat) (F c:Nat) (may:Nat→Bool) (w:World) (ht6:ts.length≤6) (hty:Typed ts d) (hT:IntsV w 0 w.heap.size ts At ct) (hF:FlW w F ts.length may) (hc1:ts.length≤c) (hc2:c≤maxLen) :
  Calls Tryz.prog 74 #[.slice At ts.length ct,.agg #[.int .i64 d.op,.int .i64 d.x,.int .i64 d.y,.int .i64 d.n,.slice An d.next.length cn],.slice (some ⟨F,0,none⟩) ts.length c] w fun E w'=>∃ v',E=.returned v'∧RowA w' w.heap.size v' (accD ts d (may d.x.toNat))∧Below w.heap.size w w':=by
 obtain ⟨i0,hi,hzz0,hzz1,hzz2⟩:=info_parts Tryz.infoAccess
 have HI:=Lib.hid hi
 have HZ0:=Lib.hid hzz0
 have HZ1:=Lib.hid hzz1
 have HZ2:=Lib.hid hzz2
 have hTl:=hT.1
 have hTm:=hT.2.1
 have HT:=Lib.hid hT
 have HF:=Lib.hid hF
 have HTY:=Lib.hid hty
 unfold maxLen at hc2 hTm
 clear hi hzz0 hzz1 hzz2 hT hF hty
 have hb1:=(Below.refl w.heap.size w).alloc (Nat.le_refl _) (.cells #[.int .i64 d.op,.int .i64 d.x,.int .i64 d.y,.int .i64 d.n,.slice An d.next.length cn] 75)
 have hx1:=heap_alloc_new w (.cells #[.int .i64 d.op,.int .i64 d.x,.int .i64 d.y,.int .i64 d.n,.slice An d.next.length cn] 75)
 have hz1:(w.alloc (.cells #[.int .i64 d.op,.int .i64 d.x,.int .i64 d.y,.int .i64 d.n,.slice An d.next.length cn] 75)).heap.size=w.heap.size+1:=by simp
 go_enter Tryz.func74,Tryz.ntmps74
 go_upto_region 1 with fail
 generalize w.alloc (.cells #[.int .i64 d.op,.int .i64 d.x,.int .i64 d.y,.int .i64 d.n,.slice An d.next.length cn] 75)=w1 at *
 have hx1':=hx1
 have HZW:=Lib.hid hz1
 clear hz1
 go_upto_region 2 with fail
 have hlit:=World.ownsRow_lit (base:=w.heap.size) (e:=186) (size:=2) w1 #[] 0 hb1.size (by simp [maxLen]) rfl
 have HRW:Hid (RowA (w1.alloc (.cells #[] 186)) w.heap.size (.slice (some ⟨w1.heap.size,0,none⟩) 0 0) []):=hlit
 have hb2:=(Below.refl w1.heap.size w1).alloc (Nat.le_refl _) (.cells #[] 186)
 have HX:=Lib.hid ((hb2.block w.heap.size (heap_lt hx1')).trans hx1')
 have HB:=Lib.hid (hb1.trans (hb2.mono hb1.size))
 have HNX:Hid (¬ some w.heap.size=(Value.slice (some ⟨w1.heap.size,0,none⟩) 0 0).ownBlock):=Lib.hid (fun e=>by
  simp only [Value.ownBlock,Option.some.injEq] at e
  have:=HZW.out
  omega)
 generalize w1.alloc (.cells #[] 186)=w2 at *
 clear hb1 hx1 hx1' hlit hb2
 obtain ⟨x0,x1,x2,x3,x4⟩:w2.cell? ⟨w.heap.size,0,none⟩=some (.int .i64 d.op)∧w2.cell? ⟨w.heap.size,1,none⟩=some (.int .i64 d.x)∧w2.cell? ⟨w.heap.size,2,none⟩=some (.int .i64 d.y)∧w2.cell? ⟨w.heap.size,3,none⟩=some (.int .i64 d.n)∧w2.cell? ⟨w.heap.size,4,none⟩=some (.slice An d.next.length cn):=⟨(cB HX.out 0).trans rfl,(cB HX.out 1).trans rfl,(cB HX.out 2).trans rfl,(cB HX.out 3).trans rfl,(cB HX.out 4).trans rfl⟩
 go_upto_block 0 with fail
 obtain ⟨op,hop⟩:∃ op,op=d.op:=⟨_,rfl⟩
 simp only [← hop]
 rw [← hop] at x0
 have HOP:=Lib.hid hop
 clear hop
 go_cut [7] (fun s7 wx=>∃ (A:Option Addr) (c7:Nat),s7=.slice A (accA ts d).length c7∧Hid (RowA wx w.heap.size (.slice A (accA ts d).length c7) (accA ts d))∧Hid (Below w.heap.size w wx)∧Hid (wx.heap[w.heap.size]?=some (.cells #[.int .i64 d.op,.int .i64 d.x,.int .i64 d.y,.int .i64 d.n,.slice An d.next.length cn] 75 (0,0)))∧Hid (¬ some w.heap.size=(Value.slice A (accA ts d).length c7).ownBlock))
 case first =>
  by_cases e4:op=4
  ·subst e4
   have HACC:Hid (accA ts d=[⟨d.y,false⟩]):=Lib.hid (by unfold accA;rw [← HOP.out];simp)
   go_wp2_with (at_builtin;refine wpList_append_lies _ rfl _ _ 136 rfl w.heap.size 186 i0 (.agg #[.int .i64 0,.bool false]) 2 16 Tryz.underlying136 HI.out HZ0.out HZ1.out HZ2.out rfl (by decide) _ _ _ rfl ((RowA.own HRW.out).alloc _) ⟨_,0,none⟩ 1 1 [.int .i64 d.y,.bool false] rfl rfl ?x11 ?x12 (by decide) ?x13 ?x14 ?x15 _ rfl ?_)
   try (case x11=>exact news_cell (by simp) rfl)
   try (case x12=>(intro u9 hu9;simp only [List.mem_cons,List.not_mem_nil,or_false] at hu9;rcases hu9 with rfl | rfl <;> rfl))
   try (case x13=>(unfold maxLen;first | omega | (simp only [List.length_nil];omega)))
   try (case x14=>(first | omega | (simp only [List.length_nil];omega)))
   try (case x15=>(have:=HB.out.size;first | omega | (simp;omega) | simp))
   intro g9 cap9 w9 hown9 hgg9 hat9 hlt9
   have HR9:=Lib.hid (RowA.snoc (l:=[]) (d:=⟨d.y,false⟩) hown9)
   have hba:=(Below.refl w2.heap.size w2).alloc (Nat.le_refl _) (.cells #[.int .i64 d.y,.bool false] 186)
   have HB9:=Lib.hid ((HB.out.trans (hba.mono HB.out.size)).grown hgg9 (Nat.le_trans HB.out.size hba.size) (fun j hj=>(RowA.lt HRW.out j hj).1))
   have HX9:=Lib.hid ((hgg9.block w.heap.size (Nat.lt_of_lt_of_le (heap_lt HX.out) hba.size) (fun e=>HNX.out e)).trans ((hba.block w.heap.size (heap_lt HX.out)).trans HX.out))
   have HN9:Hid (¬ some w.heap.size=some g9):=Lib.hid (fun e=>by
    rcases hat9 with h9 | h9
    ·exact HNX.out (e.trans h9.symm)
    ·injection e with e;have h8:=heap_lt HX.out;omega)
   clear hown9 hgg9 hat9 hlt9 hba
   go_wp2_with fail
   go_meet
   exact ⟨some ⟨g9,0,none⟩,cap9,by rw [HACC.out];rfl,by rw [HACC.out];exact HR9,HB9,HX9,HN9⟩
  by_cases e6:op=6
  ·subst e6
   have HACC:Hid (accA ts d=[⟨d.y,false⟩]):=Lib.hid (by unfold accA;rw [← HOP.out];simp)
   go_wp2_with (at_builtin;refine wpList_append_lies _ rfl _ _ 136 rfl w.heap.size 186 i0 (.agg #[.int .i64 0,.bool false]) 2 16 Tryz.underlying136 HI.out HZ0.out HZ1.out HZ2.out rfl (by decide) _ _ _ rfl ((RowA.own HRW.out).alloc _) ⟨_,0,none⟩ 1 1 [.int .i64 d.y,.bool false] rfl rfl ?x21 ?x22 (by decide) ?x23 ?x24 ?x25 _ rfl ?_)
   try (case x21=>exact news_cell (by simp) rfl)
   try (case x22=>(intro u9 hu9;simp only [List.mem_cons,List.not_mem_nil,or_false] at hu9;rcases hu9 with rfl | rfl <;> rfl))
   try (case x23=>(unfold maxLen;first | omega | (simp only [List.length_nil];omega)))
   try (case x24=>(first | omega | (simp only [List.length_nil];omega)))
   try (case x25=>(have:=HB.out.size;first | omega | (simp;omega) | simp))
   intro g9 cap9 w9 hown9 hgg9 hat9 hlt9
   have HR9:=Lib.hid (RowA.snoc (l:=[]) (d:=⟨d.y,false⟩) hown9)
   have hba:=(Below.refl w2.heap.size w2).alloc (Nat.le_refl _) (.cells #[.int .i64 d.y,.bool false] 186)
   have HB9:=Lib.hid ((HB.out.trans (hba.mono HB.out.size)).grown hgg9 (Nat.le_trans HB.out.size hba.size) (fun j hj=>(RowA.lt HRW.out j hj).1))
   have HX9:=Lib.hid ((hgg9.block w.heap.size (Nat.lt_of_lt_of_le (heap_lt HX.out) hba.size) (fun e=>HNX.out e)).trans ((hba.block w.heap.size (heap_lt HX.out)).trans HX.out))
   have HN9:Hid (¬ some w.heap.size=some g9):=Lib.hid (fun e=>by
    rcases hat9 with h9 | h9
    ·exact HNX.out (e.trans h9.symm)
    ·injection e with e;have h8:=heap_lt HX.out;omega)
   clear hown9 hgg9 hat9 hlt9 hba
   go_wp2_with fail
   go_meet
   exact ⟨some ⟨g9,0,none⟩,cap9,by rw [HACC.out];rfl,by rw [HACC.out];exact HR9,HB9,HX9,HN9⟩
  by_cases e5:op=5
  ·subst e5
   have HACC:Hid (accA ts d=[⟨d.y,true⟩]):=Lib.hid (by unfold accA;rw [← HOP.out];simp)
   go_wp2_with (at_builtin;refine wpList_append_lies _ rfl _ _ 136 rfl w.heap.size 186 i0 (.agg #[.int .i64 0,.bool false]) 2 16 Tryz.underlying136 HI.out HZ0.out HZ1.out HZ2.out rfl (by decide) _ _ _ rfl ((RowA.own HRW.out).alloc _) ⟨_,0,none⟩ 1 1 [.int .i64 d.y,.bool true] rfl rfl ?x31 ?x32 (by decide) ?x33 ?x34 ?x35 _ rfl ?_)
   try (case x31=>exact news_cell (by simp) rfl)
   try (case x32=>(intro u9 hu9;simp only [List.mem_cons,List.not_mem_nil,or_false] at hu9;rcases hu9 with rfl | rfl <;> rfl))
   try (case x33=>(unfold maxLen;first | omega | (simp only [List.length_nil];omega)))
   try (case x34=>(first | omega | (simp only [List.length_nil];omega)))
   try (case x35=>(have:=HB.out.size;first | omega | (simp;omega) | simp))
   intro g9 cap9 w9 hown9 hgg9 hat9 hlt9
   have HR9:=Lib.hid (RowA.snoc (l:=[]) (d:=⟨d.y,true⟩) hown9)
   have hba:=(Below.refl w2.heap.size w2).alloc (Nat.le_refl _) (.cells #[.int .i64 d.y,.bool true] 186)
   have HB9:=Lib.hid ((HB.out.trans (hba.mono HB.out.size)).grown hgg9 (Nat.le_trans HB.out.size hba.size) (fun j hj=>(RowA.lt HRW.out j hj).1))
   have HX9:=Lib.hid ((hgg9.block w.heap.size (Nat.lt_of_lt_of_le (heap_lt HX.out) hba.size) (fun e=>HNX.out e)).trans ((hba.block w.heap.size (heap_lt HX.out)).trans HX.out))
   have HN9:Hid (¬ some w.heap.size=some g9):=Lib.hid (fun e=>by
    rcases hat9 with h9 | h9
    ·exact HNX.out (e.trans h9.symm)
    ·injection e with e;have h8:=heap_lt HX.out;omega)
   clear hown9 hgg9 hat9 hlt9 hba
   go_wp2_with fail
   go_meet
   exact ⟨some ⟨g9,0,none⟩,cap9,by rw [HACC.out];rfl,by rw [HACC.out];exact HR9,HB9,HX9,HN9⟩
  by_cases e7:op=7
  ·subst e7
   have HACC:Hid (accA ts d=[⟨d.x,true⟩]):=Lib.hid (by unfold accA;rw [← HOP.out];simp)
   go_wp2_with (at_builtin;refine wpList_append_lies _ rfl _ _ 136 rfl w.heap.size 186 i0 (.agg #[.int .i64 0,.bool false]) 2 16 Tryz.underlying136 HI.out HZ0.out HZ1.out HZ2.out rfl (by decide) _ _ _ rfl ((RowA.own HRW.out).alloc _) ⟨_,0,none⟩ 1 1 [.int .i64 d.x,.bool true] rfl rfl ?x41 ?x42 (by decide) ?x43 ?x44 ?x45 _ rfl ?_)
   try (case x41=>exact news_cell (by simp) rfl)
   try (case x42=>(intro u9 hu9;simp only [List.mem_cons,List.not_mem_nil,or_false] at hu9;rcases hu9 with rfl | rfl <;> rfl))
   try (case x43=>(unfold maxLen;first | omega | (simp only [List.length_nil];omega)))
   try (case x44=>(first | omega | (simp only [List.length_nil];omega)))
   try (case x45=>(have:=HB.out.size;first | omega | (simp;omega) | simp))
   intro g9 cap9 w9 hown9 hgg9 hat9 hlt9
   have HR9:=Lib.hid (RowA.snoc (l:=[]) (d:=⟨d.x,true⟩) hown9)
   have hba:=(Below.refl w2.heap.size w2).alloc (Nat.le_refl _) (.cells #[.int .i64 d.x,.bool true] 186)
   have HB9:=Lib.hid ((HB.out.trans (hba.mono HB.out.size)).grown hgg9 (Nat.le_trans HB.out.size hba.size) (fun j hj=>(RowA.lt HRW.out j hj).1))
   have HX9:=Lib.hid ((hgg9.block w.heap.size (Nat.lt_of_lt_of_le (heap_lt HX.out) hba.size) (fun e=>HNX.out e)).trans ((hba.block w.heap.size (heap_lt HX.out)).trans HX.out))
   have HN9:Hid (¬ some w.heap.size=some g9):=Lib.hid (fun e=>by
    rcases hat9 with h9 | h9
    ·exact HNX.out (e.trans h9.symm)
    ·injection e with e;have h8:=heap_lt HX.out;omega)
   clear hown9 hgg9 hat9 hlt9 hba
   go_wp2_with fail
   go_meet
   exact ⟨some ⟨g9,0,none⟩,cap9,by rw [HACC.out];rfl,by rw [HACC.out];exact HR9,HB9,HX9,HN9⟩
  by_cases e8:op=8
  ·subst e8
   have HACC:Hid (accA ts d=[⟨d.x,true⟩]):=Lib.hid (by unfold accA;rw [← HOP.out];simp)
   go_wp2_with (at_builtin;refine wpList_append_lies _ rfl _ _ 136 rfl w.heap.size 186 i0 (.agg #[.int .i64 0,.bool false]) 2 16 Tryz.underlying136 HI.out HZ0.out HZ1.out HZ2.out rfl (by decide) _ _ _ rfl ((RowA.own HRW.out).alloc _) ⟨_,0,none⟩ 1 1 [.int .i64 d.x,.bool true] rfl rfl ?x51 ?x52 (by decide) ?x53 ?x54 ?x55 _ rfl ?_)
   try (case x51=>exact news_cell (by simp) rfl)
   try (case x52=>(intro u9 hu9;simp only [List.mem_cons,List.not_mem_nil,or_false] at hu9;rcases hu9 with rfl | rfl <;> rfl))
   try (case x53=>(unfold maxLen;first | omega | (simp only [List.length_nil];omega)))
   try (case x54=>(first | omega | (simp only [List.length_nil];omega)))
   try (case x55=>(have:=HB.out.size;first | omega | (simp;omega) | simp))
   intro g9 cap9 w9 hown9 hgg9 hat9 hlt9
   have HR9:=Lib.hid (RowA.snoc (l:=[]) (d:=⟨d.x,true⟩) hown9)
   have hba:=(Below.refl w2.heap.size w2).alloc (Nat.le_refl _) (.cells #[.int .i64 d.x,.bool true] 186)
   have HB9:=Lib.hid ((HB.out.trans (hba.mono HB.out.size)).grown hgg9 (Nat.le_trans HB.out.size hba.size) (fun j hj=>(RowA.lt HRW.out j hj).1))
   have HX9:=Lib.hid ((hgg9.block w.heap.size (Nat.lt_of_lt_of_le (heap_lt HX.out) hba.size) (fun e=>HNX.out e)).trans ((hba.block w.heap.size (heap_lt HX.out)).trans HX.out))
   have HN9:Hid (¬ some w.heap.size=some g9):=Lib.hid (fun e=>by
    rcases hat9 with h9 | h9
    ·exact HNX.out (e.trans h9.symm)
    ·injection e with e;have h8:=heap_lt HX.out;omega)
   clear hown9 hgg9 hat9 hlt9 hba
   go_wp2_with fail
   go_meet
   exact ⟨some ⟨g9,0,none⟩,cap9,by rw [HACC.out];rfl,by rw [HACC.out];exact HR9,HB9,HX9,HN9⟩
  have n4:(op==4)=false:=by simp [e4]
  have d4:decide (op=4)=false:=decide_eq_false e4
  have n6:(op==6)=false:=by simp [e6]
  have d6:decide (op=6)=false:=decide_eq_false e6
  have n5:(op==5)=false:=by simp [e5]
  have d5:decide (op=5)=false:=decide_eq_false e5
  have n7:(op==7)=false:=by simp [e7]
  have d7:decide (op=7)=false:=decide_eq_false e7
  have n8:(op==8)=false:=by simp [e8]
  have d8:decide (op=8)=false:=decide_eq_false e8
  by_cases e3:op=3
  ·subst e3
   obtain ⟨y,hy,hyT⟩:∃ y:Nat,d.y=(y:Int)∧y<ts.length:=by
    have h9:0≤d.y∧d.y<ts.length:=by
     rcases HTY.out with ⟨h1,h2,h3⟩ | ⟨h1,_⟩
     ·exact tyAt_lt ((simple_types h3).2 (by have:=HOP.out;omega))
     ·have:=HOP.out;omega
    exact ⟨d.y.toNat,by omega,by omega⟩
   have HXW:w.heap.size<w2.heap.size:=heap_lt HX.out
   have HYE:=Lib.hid hy
   rw [hy] at x2
   have hu:=l3Use_any ts At ct 3 d.x (y:Int) d.n d.next (.slice An d.next.length cn) y w2 hyT (HT.out.below HB.out HB.out.size)
   have hue:useI ts ⟨3,d.x,(y:Int),d.n,d.next⟩ (y:Int)=if tyAt ts (y:Int)=2∨tyAt ts (y:Int)=4 then 2 else 1:=by simp [useI]
   rw [hue] at hu
   clear hy hue
   by_cases h24:tyAt ts (y:Int)=2∨tyAt ts (y:Int)=4
   ·rw [if_pos h24] at hu
    have HACC:Hid (accA ts d=[⟨(y:Int),true⟩]):=Lib.hid (by unfold accA;rw [← HOP.out,HYE.out];simp [h24])
    clear h24
    go_wp2_with fail
    refine hu.mono ?_
    rintro E w3 ⟨rfl,hb3⟩
    replace HRW:=Lib.hid (HRW.out.below hb3)
    replace HB:=Lib.hid (HB.out.trans (hb3.mono HB.out.size))
    replace HX:=Lib.hid ((hb3.block w.heap.size (heap_lt HX.out)).trans HX.out)
    replace x2:=(hb3.cell (p:=⟨w.heap.size,2,none⟩) (show w.heap.size<w2.heap.size from HXW)).trans x2
    clear hu hb3 x0 x1 x3 x4
    go_wp2_with (at_builtin;refine wpList_append_lies _ rfl _ _ 136 rfl w.heap.size 186 i0 (.agg #[.int .i64 0,.bool false]) 2 16 Tryz.underlying136 HI.out HZ0.out HZ1.out HZ2.out rfl (by decide) _ _ _ rfl ((RowA.own HRW.out).alloc _) ⟨_,0,none⟩ 1 1 [.int .i64 (y:Int),.bool true] rfl rfl ?x61 ?x62 (by decide) ?x63 ?x64 ?x65 _ rfl ?_)
    try (case x61=>exact news_cell (by simp) rfl)
    try (case x62=>(intro u9 hu9;simp only [List.mem_cons,List.not_mem_nil,or_false] at hu9;rcases hu9 with rfl | rfl <;> rfl))
    try (case x63=>(unfold maxLen;first | omega | (simp only [List.length_nil];omega)))
    try (case x64=>(first | omega | (simp only [List.length_nil];omega)))
    try (case x65=>(have:=HB.out.size;first | omega | (simp;omega) | simp))
    intro g9 cap9 w9 hown9 hgg9 hat9 hlt9
    have HR9:=Lib.hid (RowA.snoc (l:=[]) (d:=⟨(y:Int),true⟩) hown9)
    have hba:=(Below.refl w3.heap.size w3).alloc (Nat.le_refl _) (.cells #[.int .i64 (y:Int),.bool true] 186)
    have HB9:=Lib.hid ((HB.out.trans (hba.mono HB.out.size)).grown hgg9 (Nat.le_trans HB.out.size hba.size) (fun j hj=>(RowA.lt HRW.out j hj).1))
    have HX9:=Lib.hid ((hgg9.block w.heap.size (Nat.lt_of_lt_of_le (heap_lt HX.out) hba.size) (fun e=>HNX.out e)).trans ((hba.block w.heap.size (heap_lt HX.out)).trans HX.out))
    have HN9:Hid (¬ some w.heap.size=some g9):=Lib.hid (fun e=>by
     rcases hat9 with h9 | h9
     ·exact HNX.out (e.trans h9.symm)
     ·injection e with e;have h8:=heap_lt HX.out;omega)
    clear hown9 hgg9 hat9 hlt9 hba
    go_wp2_with fail
    go_meet
    exact ⟨some ⟨g9,0,none⟩,cap9,by rw [HACC.out];rfl,by rw [HACC.out];exact HR9,HB9,HX9,HN9⟩
   ·rw [if_neg h24] at hu
    have HACC:Hid (accA ts d=[]):=Lib.hid (by unfold accA;rw [← HOP.out,HYE.out];simp [h24])
    clear h24
    go_wp2_with fail
    refine hu.mono ?_
    rintro E w3 ⟨rfl,hb3⟩
    replace HRW:=Lib.hid (HRW.out.below hb3)
    replace HB:=Lib.hid (HB.out.trans (hb3.mono HB.out.size))
    replace HX:=Lib.hid ((hb3.block w.heap.size (heap_lt HX.out)).trans HX.out)
    clear hu hb3 x0 x1 x2 x3 x4
    go_wp2_with fail
    go_meet
    exact ⟨_,_,by rw [HACC.out];rfl,by rw [HACC.out];exact HRW,HB,HX,by rw [HACC.out];exact HNX⟩
  have n3:(op==3)=false:=by simp [e3]
  have d3:decide (op=3)=false:=decide_eq_false e3
  have HACC:Hid (accA ts d=[]):=Lib.hid (by unfold accA;rw [← HOP.out];simp [e3,e4,e5,e6,e7,e8])
  go_wp2_with fail
  go_meet
  exact ⟨_,_,by rw [HACC.out];rfl,by rw [HACC.out];exact HRW,HB,HX,by rw [HACC.out];exact HNX⟩
 case rest =>
  obtain ⟨A7,c7,rfl,HR7,HB7,HX7,HN7⟩:=hcut
  clear HRW HB HX HNX x0 x1 x2 x3 x4
  have HB:=HB7
  have HX:=HX7
  have HNX:=HN7
  clear HB7 HX7 HN7
  obtain ⟨x0,x1,x2,x3,x4⟩:wc.cell? ⟨w.heap.size,0,none⟩=some (.int .i64 d.op)∧wc.cell? ⟨w.heap.size,1,none⟩=some (.int .i64 d.x)∧wc.cell? ⟨w.heap.size,2,none⟩=some (.int .i64 d.y)∧wc.cell? ⟨w.heap.size,3,none⟩=some (.int .i64 d.n)∧wc.cell? ⟨w.heap.size,4,none⟩=some (.slice An d.next.length cn):=⟨(cB HX.out 0).trans rfl,(cB HX.out 1).trans rfl,(cB HX.out 2).trans rfl,(cB HX.out 3).trans rfl,(cB HX.out 4).trans rfl⟩
  have hs:=l3Set_any d.op d.x d.y d.n d.next (.slice An d.next.length cn) wc
  obtain ⟨s,hse⟩:∃ s,setI d=s:=⟨_,rfl⟩
  rw [hse] at hs
  have HSE:=Lib.hid hse
  clear hse
  have hla:=accA_length ts d
  go_wp2_with fail
  refine hs.mono ?_
  rintro E w4 ⟨rfl,hb4⟩
  replace HR7:=Lib.hid (HR7.out.below hb4)
  replace HB:=Lib.hid (HB.out.trans (hb4.mono HB.out.size))
  replace HX:=Lib.hid ((hb4.block w.heap.size (heap_lt HX.out)).trans HX.out)
  clear hs hb4 x0 x1 x2 x3 x4
  by_cases hs0:0≤s
  ·obtain ⟨z,rfl⟩:∃ z:Nat,s=(z:Int):=⟨s.toNat,by omega⟩
   have hzT:z<ts.length:=by
    have:=typed_set HTY.out (z:Int) (by omega) HSE.out
    omega
   obtain ⟨hz0,hz1⟩:(0:Int)≤(z:Int)∧(z:Int)<(ts.length:Int):=by omega
   have HDX:Hid (d.x=(z:Int)∧1≤d.op∧d.op≤6):=by
    have h9:=HSE.out
    unfold setI at h9
    split at h9
    ·exact ⟨h9,by assumption⟩
    ·omega
   obtain ⟨A9,hA9,hbk9,he9⟩:=tyAt_elem HT.out hzT
   subst hA9
   obtain ⟨t,ht⟩:∃ t,t=tyAt ts (z:Int):=⟨_,rfl⟩
   rw [← ht] at he9
   have HTE:=Lib.hid ht
   have e9:=(HB.out.cell (p:=A9.add z) (by rw [block_add];exact hbk9)).trans he9
   have hFw:=HF.out.keep (HB.out.block F HF.out.lt)
   have f9:=hFw.cell hzT
   obtain ⟨mb,hmb⟩:∃ mb,may z=mb:=⟨_,rfl⟩
   rw [hmb] at f9
   have HMB:=Lib.hid hmb
   clear ht hmb hFw he9
   have HBB:Hid (accB ts d (may d.x.toNat)=if t=2∧mb=true then [⟨(z:Int),true⟩] else []):=Lib.hid (by
    unfold accB
    rw [HDX.out.1,Int.toNat_natCast,HMB.out,← HTE.out]
    have h1:=HDX.out.2
    by_cases h2:t=2∧mb=true
    ·rw [if_pos ⟨h1.1,h1.2,h2.1,h2.2⟩,if_pos h2]
    ·rw [if_neg (fun q=>h2 ⟨q.2.2.1,q.2.2.2⟩),if_neg h2])
   by_cases ht2:t=2
   ·subst ht2
    cases mb
    ·have HBE:Hid (accD ts d (may d.x.toNat)=accA ts d):=Lib.hid (by rw [accD_is,HBB.out];simp)
     clear HBB
     go_wp2_with fail
     go_ret
     exact ⟨_,rfl,by rw [HBE.out];exact HR7.out,HB.out⟩
    ·have HBE:Hid (accD ts d (may d.x.toNat)=accA ts d++[⟨(z:Int),true⟩]):=Lib.hid (by rw [accD_is,HBB.out];simp)
     clear HBB
     go_wp2_with (at_builtin;refine wpList_append_lies _ rfl _ _ 136 rfl w.heap.size 186 i0 (.agg #[.int .i64 0,.bool false]) 2 16 Tryz.underlying136 HI.out HZ0.out HZ1.out HZ2.out rfl (by decide) _ _ _ rfl ((RowA.own HR7.out).alloc _) ⟨_,0,none⟩ 1 1 [.int .i64 (z:Int),.bool true] rfl rfl ?x71 ?x72 (by decide) ?x73 ?x74 ?x75 _ rfl ?_)
     try (case x71=>exact news_cell (by simp) rfl)
     try (case x72=>(intro u9 hu9;simp only [List.mem_cons,List.not_mem_nil,or_false] at hu9;rcases hu9 with rfl | rfl <;> rfl))
     try (case x73=>(unfold maxLen;first | omega | (simp only [List.length_nil];omega)))
     try (case x74=>(first | omega | (simp only [List.length_nil];omega)))
     try (case x75=>(have:=HB.out.size;first | omega | (simp;omega) | simp))
     intro g9 cap9 w9 hown9 hgg9 hat9 hlt9
     have HR9:=Lib.hid (RowA.snoc (l:=accA ts d) (d:=⟨(z:Int),true⟩) hown9)
     have hba:=(Below.refl w4.heap.size w4).alloc (Nat.le_refl _) (.cells #[.int .i64 (z:Int),.bool true] 186)
     have HB9:=Lib.hid ((HB.out.trans (hba.mono HB.out.size)).grown hgg9 (Nat.le_trans HB.out.size hba.size) (fun j hj=>(RowA.lt HR7.out j hj).1))
     have HX9:=Lib.hid ((hgg9.block w.heap.size (Nat.lt_of_lt_of_le (heap_lt HX.out) hba.size) (fun e=>HNX.out e)).trans ((hba.block w.heap.size (heap_lt HX.out)).trans HX.out))
     have HN9:Hid (¬ some w.heap.size=some g9):=Lib.hid (fun e=>by
      rcases hat9 with h9 | h9
      ·exact HNX.out (e.trans h9.symm)
      ·injection e with e;have h8:=heap_lt HX.out;omega)
     clear hown9 hgg9 hat9 hlt9 hba
     go_wp2_with fail
     go_ret
     exact ⟨_,rfl,by rw [HBE.out];exact HR9.out,HB9.out⟩
   ·have n2:(t==2)=false:=by simp [ht2]
    have d2:decide (t=2)=false:=decide_eq_false ht2
    have HBE:Hid (accD ts d (may d.x.toNat)=accA ts d):=Lib.hid (by rw [accD_is,HBB.out,if_neg (fun q=>ht2 q.1)];simp)
    clear HBB
    go_wp2_with fail
    go_ret
    exact ⟨_,rfl,by rw [HBE.out];exact HR7.out,HB.out⟩
  ·have hsd:decide (0≤s)=false:=decide_eq_false hs0
   have HBE:Hid (accD ts d (may d.x.toNat)=accA ts d):=Lib.hid (by
    rw [accD_is]
    unfold accB
    rw [if_neg (fun q=>hs0 ?_)]
    ·simp
    ·have h9:=HSE.out
     unfold setI at h9
     rw [if_pos ⟨q.1,q.2.1⟩] at h9
     have h8:=tyAt_lt (ts:=ts) (v:=d.x) (by rw [q.2.2.1];decide)
     omega)
   go_wp2_with fail
   go_ret
   exact ⟨_,rfl,by rw [HBE.out];exact HR7.out,HB.out⟩
def nearB (ns:List Nd) (i:Nat) (a:AccD):Bool:=match ns[i]? with | some d=>decide (d.y=a.v) && (a.u || decide (d.op=5)) | none=>false
theorem nearB_at {ns:List Nd} {i:Nat} {d:Nd} (h:ns[i]?=some d) (a:AccD):nearB ns i a=(decide (d.y=a.v) && (a.u || decide (d.op=5))):=by unfold nearB;rw [h]
def cfJ (ns:List Nd) (acc:List AccD) (x:Nat→Bool) (i j:Nat):Bool:=x i && (acc.take j).any (nearB ns i)
theorem cfJ_zero (ns:List Nd) (acc:List AccD) (x:Nat→Bool) (i:Nat):cfJ ns acc x i 0=false:=by simp [cfJ]
theorem cfJ_next {ns:List Nd} {acc:List AccD} {x:Nat→Bool} {i j:Nat} {a:AccD} (h:acc[j]?=some a):cfJ ns acc x i (j+1)=(cfJ ns acc x i j || (x i && nearB ns i a)):=by
 unfold cfJ
 rw [List.take_add_one,h,List.any_append]
 simp only [Option.toList_some,List.any_cons,List.any_nil,Bool.or_false]
 cases x i <;> simp
theorem l4Conflicts_any (ns:List Nd) (pv av:Value) (acc:List AccD) (B B0 T:Nat) (m:M4) (S:Nat→Nat→Bool) (F c:Nat) (live:Nat→Bool) (w:World) (hle:ns.length≤61) (hn0:0<ns.length) (hac:acc.length≤2) (hP:PRow w B pv ns) (hA:RdA w av acc) (h:S4 w B0 T ns.length m S) (hF:FlW w F ns.length live) (hc1:ns.length≤c) (hc2:c≤maxLen) :
  Calls Tryz.prog 75 #[pv,av,m.val T ns.length,.slice (some ⟨F,0,none⟩) ns.length c] w fun E w'=>∃ G,E=.returned (.slice (some ⟨G,0,none⟩) ns.length ns.length)∧FlW w' G ns.length (fun i=>cfJ ns acc (fun i=>live i && S 6 i) i acc.length)∧Below w.heap.size w w':=by
 obtain ⟨g,cap,hv,hgB,hgl,hgc,hgm⟩:=hP.form hn0
 subst hv
 obtain ⟨Aa,ca,hav,haa1,haa2,haa3⟩:=id hA
 subst hav
 have HMK:Hid (∀ W:World,_):=Lib.hid (fun W=>run_make_row' (P:=Tryz.prog) 72 4 (.bool false) 1 Tryz.underlying72 Tryz.infoBool rfl .i64 .i64 ns.length (by omega) (by omega) W)
 have hb1:=(Below.refl w.heap.size w).alloc (Nat.le_refl _) (.cells #[.slice m.fa T m.cf,.slice (some ⟨m.bl 6,0,none⟩) ns.length (m.cp 6)] 81)
 have hx1:=heap_alloc_new w (.cells #[.slice m.fa T m.cf,.slice (some ⟨m.bl 6,0,none⟩) ns.length (m.cp 6)] 81)
 have hz1:(w.alloc (.cells #[.slice m.fa T m.cf,.slice (some ⟨m.bl 6,0,none⟩) ns.length (m.cp 6)] 81)).heap.size=w.heap.size+1:=by simp
 have hmk:=HMK.out (w.alloc (.cells #[.slice m.fa T m.cf,.slice (some ⟨m.bl 6,0,none⟩) ns.length (m.cp 6)] 81))
 obtain ⟨hc61,hc62⟩:=h.cp 6 (.inr rfl)
 have HP:=Lib.hid hP
 have HA:=Lib.hid hA
 have HS6:=Lib.hid (h.fl 6 (.inr rfl))
 have HF:=Lib.hid hF
 unfold maxLen at hc2 hgm haa2 hc62
 clear hP hA h hF haa3
 unfold M4.val
 go_enter Tryz.func75,Tryz.ntmps75
 go_wp2_with fail
 clear hmk
 generalize w.alloc (.cells #[.slice m.fa T m.cf,.slice (some ⟨m.bl 6,0,none⟩) ns.length (m.cp 6)] 81)=w1 at *
 have hX1:=hx1
 have hV:=(FlAt.made w1 ns.length).wide
 have hb2:=(Below.refl w1.heap.size w1).alloc (Nat.le_refl _) (.cells (madeCells #[.bool false] ns.length) 4)
 have hg2:w1.grownBy (w1.alloc (.cells (madeCells #[.bool false] ns.length) 4)) (some w1.heap.size):=World.grownBy_alloc _ _ _
 obtain ⟨V,hVe⟩:∃ V,V=w1.heap.size:=⟨_,rfl⟩
 have hzV:w1.heap.size=w.heap.size+1:=hz1
 rw [← hVe] at hV hg2
 rw [show w.heap.size+1=V from by omega]
 have HV:=Lib.hid hV
 have HG0:=Lib.hid hg2
 have HB1:=Lib.hid hb1
 have HX1:=Lib.hid hX1
 have HVG:Hid (V=w1.heap.size∧w1.heap.size=w.heap.size+1):=Lib.hid ⟨hVe,hzV⟩
 generalize w1.alloc (.cells (madeCells #[.bool false] ns.length) 4)=w2 at *
 clear hV hb2 hg2 hVe hzV hz1 hx1 hX1 hb1
 go_loopg [10] ns.length (fun gg i wr=>∃ k:Nat,i=.int .i64 k∧k≤ns.length∧gg=ns.length-k∧Hid (FlW wr V ns.length (fun i=>if i<k then cfJ ns acc (fun i=>live i && S 6 i) i acc.length else false))∧Hid (w1.grownBy wr (some V)))
 case atStart=>exact ⟨0,rfl,Nat.zero_le _,rfl,Lib.hid (HV.out.congr (fun i _=>by rw [if_neg (Nat.not_lt_zero _)])),HG0⟩
 case round =>
  clear HV HG0
  obtain ⟨k,rfl,hk,hgk,HG,HB⟩:=hrel
  have HGK:=Lib.hid hgk
  clear hgk
  by_cases hlt:k<ns.length
  ·obtain ⟨d,hd⟩:∃ d,ns[k]?=some d:=⟨ns[k],List.getElem?_eq_getElem hlt⟩
   have HDK:=Lib.hid hd
   obtain ⟨hk0,hk1⟩:(0:Int)≤(k:Int)∧(k:Int)<(ns.length:Int):=by omega
   have HST:Hid (FlW wr V ns.length (fun i=>if i=k then cfJ ns acc (fun i=>live i && S 6 i) k 0 else if i<k then cfJ ns acc (fun i=>live i && S 6 i) i acc.length else false)):=Lib.hid (HG.out.congr (fun i _=>by
    by_cases hik:i=k
    ·subst hik
     rw [if_pos rfl,if_neg (Nat.lt_irrefl _),cfJ_zero]
    ·rw [if_neg hik]))
   clear hd HG
   go_wp2_with fail
   go_loopg [11] acc.length (fun gg j wr=>∃ q:Nat,j=.int .i64 q∧q≤acc.length∧gg=acc.length-q∧Hid (FlW wr V ns.length (fun i=>if i=k then cfJ ns acc (fun i=>live i && S 6 i) k q else if i<k then cfJ ns acc (fun i=>live i && S 6 i) i acc.length else false))∧Hid (w1.grownBy wr (some V)))
   case atStart=>exact ⟨0,rfl,Nat.zero_le _,rfl,HST,HB⟩
   case round =>
    clear HST HB
    obtain ⟨q,rfl,hq,hgq,HG,HB⟩:=hrel
    have HGQ:=Lib.hid hgq
    clear hgq
    by_cases hlq:q<acc.length
    ·obtain ⟨a,ha⟩:∃ a,acc[q]?=some a:=⟨acc[q],List.getElem?_eq_getElem hlq⟩
     obtain ⟨hVe,hzV⟩:=HVG.out
     have hbw:Below w.heap.size w wr:=HB1.out.grown HB.out (by omega) (fun j hj=>by injection hj with hj;omega)
     obtain ⟨A2,c2,e2,-,-,h2⟩:=HA.out.below hbw
     injection e2 with e2 _ e3
     subst e2 e3
     obtain ⟨ga,rfl,hga,hca⟩:=h2 (by omega)
     obtain ⟨a0,a1⟩:=hca q a ha
     obtain ⟨un,⟨c0,c1,c2',c3,c4⟩,hun⟩:=(HP.out.below hbw).cells HDK.out
     have hFw:=(HF.out.keep ((HB.out.block F (by have:=HF.out.lt;omega) (fun e=>by have:=HF.out.lt;injection e with e;omega)).trans (HB1.out.block F HF.out.lt))).cell hlt
     have hSw:=(HS6.out.keep ((HB.out.block (m.bl 6) (by have:=HS6.out.lt;omega) (fun e=>by have:=HS6.out.lt;injection e with e;omega)).trans (HB1.out.block (m.bl 6) HS6.out.lt))).cell hlt
     have hbx:=(HB.out.block w.heap.size (by omega) (fun e=>by injection e with e;omega)).trans HX1.out
     have b1:wr.cell? ⟨w.heap.size,1,none⟩=some (.slice (some ⟨m.bl 6,0,none⟩) ns.length (m.cp 6)):=(cB hbx 1).trans rfl
     have HNE:Hid (F≠V∧w.heap.size≠V∧m.bl 6≠V∧g≠V∧ga≠V):=Lib.hid (by
      have h1:=HF.out.lt
      have h2:=HS6.out.lt
      refine ⟨by omega,by omega,by omega,by omega,?_⟩
      rintro rfl
      obtain ⟨A5,c5,e5,-,-,h5⟩:=id HA.out
      injection e5 with e5 _ _
      obtain ⟨g5,e6,h6,_⟩:=h5 (by omega)
      rw [← e5] at e6
      injection e6 with e6
      injection e6 with e6
      omega)
     obtain ⟨hq0,hq1⟩:(0:Int)≤(q:Int)∧(q:Int)<(acc.length:Int):=by omega
     obtain ⟨lv,hlv⟩:∃ b,live k=b:=⟨_,rfl⟩
     obtain ⟨pl,hpl⟩:∃ b,S 6 k=b:=⟨_,rfl⟩
     rw [hlv] at hFw
     rw [hpl] at hSw
     obtain ⟨av,au⟩:=a
     dsimp only at a0 a1
     obtain ⟨y,hy⟩:∃ y,d.y=y:=⟨_,rfl⟩
     obtain ⟨op,hop⟩:∃ op,d.op=op:=⟨_,rfl⟩
     rw [hy] at c2'
     rw [hop] at c0
     have HLV:=Lib.hid hlv
     have HPL:=Lib.hid hpl
     have HY:=Lib.hid hy
     have HOP:=Lib.hid hop
     have HAQ:=Lib.hid ha
     have HGD:=HG.out
     have HBD:=HB.out
     have HST0:wr.cell? ⟨F,k,none⟩=some (.bool lv)∧wr.cell? ⟨w.heap.size,1,none⟩=some (.slice (some ⟨m.bl 6,0,none⟩) ns.length (m.cp 6))∧wr.cell? ⟨m.bl 6,k,none⟩=some (.bool pl)∧wr.cell? ⟨g,k*5+2,none⟩=some (.int .i64 y)∧wr.cell? ⟨g,k*5,none⟩=some (.int .i64 op)∧wr.cell? ⟨ga,q*2,none⟩=some (.int .i64 av)∧wr.cell? ⟨ga,q*2+1,none⟩=some (.bool au):=⟨hFw,b1,hSw,c2',c0,a0,a1⟩
     clear hbw hun hca ha hbx hlv hpl hy hop c0 c1 c2' c3 c4 hVe hzV hga h2 hFw hSw b1 a0 a1 HG HB
     go_upto_region 8 with fail
     go_cut [12] (fun s12 wx=>∃ nb:Bool,s12=.bool nb∧Hid (nb=((lv && pl) && decide (y=av)))∧(wx.cell? ⟨F,k,none⟩=some (.bool lv)∧wx.cell? ⟨w.heap.size,1,none⟩=some (.slice (some ⟨m.bl 6,0,none⟩) ns.length (m.cp 6))∧wx.cell? ⟨m.bl 6,k,none⟩=some (.bool pl)∧wx.cell? ⟨g,k*5+2,none⟩=some (.int .i64 y)∧wx.cell? ⟨g,k*5,none⟩=some (.int .i64 op)∧wx.cell? ⟨ga,q*2,none⟩=some (.int .i64 av)∧wx.cell? ⟨ga,q*2+1,none⟩=some (.bool au))∧Hid (FlW wx V ns.length (fun i=>if i=k then cfJ ns acc (fun i=>live i && S 6 i) k q else if i<k then cfJ ns acc (fun i=>live i && S 6 i) i acc.length else false))∧Hid (w1.grownBy wx (some V)))
     case first =>
      cases lv
      ·refine wp_region_held_drew (S:=(fun w9=>w9.cell? ⟨F,k,none⟩=some (.bool false)∧w9.cell? ⟨w.heap.size,1,none⟩=some (.slice (some ⟨m.bl 6,0,none⟩) ns.length (m.cp 6))∧w9.cell? ⟨m.bl 6,k,none⟩=some (.bool pl)∧w9.cell? ⟨g,k*5+2,none⟩=some (.int .i64 y)∧w9.cell? ⟨g,k*5,none⟩=some (.int .i64 op)∧w9.cell? ⟨ga,q*2,none⟩=some (.int .i64 av)∧w9.cell? ⟨ga,q*2+1,none⟩=some (.bool au))) (by kernel_rfl) HST0 (fun hHeld=>?_)
       replace HGD:=HGD.drew
       replace HBD:w1.grownBy wr.drew (some V):=⟨HBD.os,HBD.tape,HBD.output,HBD.size,HBD.block⟩
       generalize wr.drew=wd at *
       refine tkd (i:=0) (v:=.slice (some ⟨F,0,none⟩) ns.length c) rfl hHeld ?_
       try simp only [Act.put,sA,sB,sC]
       refine tkd (i:=1) (v:=.int .i64 (k:Int)) rfl hHeld ?_
       try simp only [Act.put,sA,sB,sC]
       refine tkd (i:=2) (v:=.pointer (some ⟨F,k,none⟩)) rfl hHeld ?_
       try simp only [Act.put,sA,sB,sC]
       refine tk (i:=3) (v:=.bool false) rfl (Or.inl ⟨by rfl,fun w9 hSw=>by have h9:=hSw.1;go_simp⟩) hHeld ?_
       try simp only [Act.put,sA,sB,sC]
       refine tkd (i:=4) (v:=.bool false) rfl hHeld ?_
       try simp only [Act.put,sA,sB,sC]
       refine tk (i:=5) (v:=undef) rfl (Or.inr ⟨by rfl,rfl⟩) hHeld ?_
       try simp only [Act.put,sA,sB,sC]
       refine tk (i:=6) (v:=undef) rfl (Or.inr ⟨by rfl,rfl⟩) hHeld ?_
       try simp only [Act.put,sA,sB,sC]
       refine tk (i:=7) (v:=undef) rfl (Or.inr ⟨by rfl,rfl⟩) hHeld ?_
       try simp only [Act.put,sA,sB,sC]
       refine tk (i:=8) (v:=undef) rfl (Or.inr ⟨by rfl,rfl⟩) hHeld ?_
       try simp only [Act.put,sA,sB,sC]
       refine tk (i:=9) (v:=undef) rfl (Or.inr ⟨by rfl,rfl⟩) hHeld ?_
       try simp only [Act.put,sA,sB,sC]
       refine tkd (i:=10) (v:=.bool false) rfl hHeld ?_
       try simp only [Act.put,sA,sB,sC]
       refine tkd (i:=11) (v:=.bool false) rfl hHeld ?_
       try simp only [Act.put,sA,sB,sC]
       refine tk (i:=12) (v:=undef) rfl (Or.inr ⟨by rfl,rfl⟩) hHeld ?_
       try simp only [Act.put,sA,sB,sC]
       refine tk (i:=13) (v:=undef) rfl (Or.inr ⟨by rfl,rfl⟩) hHeld ?_
       try simp only [Act.put,sA,sB,sC]
       refine tk (i:=14) (v:=undef) rfl (Or.inr ⟨by rfl,rfl⟩) hHeld ?_
       try simp only [Act.put,sA,sB,sC]
       refine tk (i:=15) (v:=undef) rfl (Or.inr ⟨by rfl,rfl⟩) hHeld ?_
       try simp only [Act.put,sA,sB,sC]
       refine tk (i:=16) (v:=undef) rfl (Or.inr ⟨by rfl,rfl⟩) hHeld ?_
       try simp only [Act.put,sA,sB,sC]
       refine tk (i:=17) (v:=undef) rfl (Or.inr ⟨by rfl,rfl⟩) hHeld ?_
       try simp only [Act.put,sA,sB,sC]
       refine tk (i:=18) (v:=undef) rfl (Or.inr ⟨by rfl,rfl⟩) hHeld ?_
       try simp only [Act.put,sA,sB,sC]
       refine tk (i:=19) (v:=undef) rfl (Or.inr ⟨by rfl,rfl⟩) hHeld ?_
       try simp only [Act.put,sA,sB,sC]
       refine tk (i:=20) (v:=undef) rfl (Or.inr ⟨by rfl,rfl⟩) hHeld ?_
       try simp only [Act.put,sA,sB,sC]
       refine tk (i:=21) (v:=undef) rfl (Or.inr ⟨by rfl,rfl⟩) hHeld ?_
       try simp only [Act.put,sA,sB,sC]
       refine tk (i:=22) (v:=undef) rfl (Or.inr ⟨by rfl,rfl⟩) hHeld ?_
       try simp only [Act.put,sA,sB,sC]
       refine tkd (i:=23) (v:=.bool false) rfl hHeld ?_
       try simp only [Act.put,sA,sB,sC]
       refine tkd (i:=24) (v:=.bool false) rfl hHeld ?_
       try simp only [Act.put,sA,sB,sC]
       refine wpAnyH_done (by kernel_rfl) ?_ _
       go_wp2_with fail
       go_meet
       exact ⟨false,rfl,Lib.hid (by simp),hHeld,Lib.hid HGD,Lib.hid HBD⟩
      ·cases pl
       ·refine wp_region_held_drew (S:=(fun w9=>w9.cell? ⟨F,k,none⟩=some (.bool true)∧w9.cell? ⟨w.heap.size,1,none⟩=some (.slice (some ⟨m.bl 6,0,none⟩) ns.length (m.cp 6))∧w9.cell? ⟨m.bl 6,k,none⟩=some (.bool false)∧w9.cell? ⟨g,k*5+2,none⟩=some (.int .i64 y)∧w9.cell? ⟨g,k*5,none⟩=some (.int .i64 op)∧w9.cell? ⟨ga,q*2,none⟩=some (.int .i64 av)∧w9.cell? ⟨ga,q*2+1,none⟩=some (.bool au))) (by kernel_rfl) HST0 (fun hHeld=>?_)
        replace HGD:=HGD.drew
        replace HBD:w1.grownBy wr.drew (some V):=⟨HBD.os,HBD.tape,HBD.output,HBD.size,HBD.block⟩
        generalize wr.drew=wd at *
        refine tkd (i:=0) (v:=.slice (some ⟨F,0,none⟩) ns.length c) rfl hHeld ?_
        try simp only [Act.put,sA,sB,sC]
        refine tkd (i:=1) (v:=.int .i64 (k:Int)) rfl hHeld ?_
        try simp only [Act.put,sA,sB,sC]
        refine tkd (i:=2) (v:=.pointer (some ⟨F,k,none⟩)) rfl hHeld ?_
        try simp only [Act.put,sA,sB,sC]
        refine tk (i:=3) (v:=.bool true) rfl (Or.inl ⟨by rfl,fun w9 hSw=>by have h9:=hSw.1;go_simp⟩) hHeld ?_
        try simp only [Act.put,sA,sB,sC]
        refine tkd (i:=4) (v:=.bool true) rfl hHeld ?_
        try simp only [Act.put,sA,sB,sC]
        refine tkd (i:=5) (v:=.pointer (some ⟨w.heap.size,1,none⟩)) rfl hHeld ?_
        try simp only [Act.put,sA,sB,sC]
        refine tk (i:=6) (v:=.slice (some ⟨m.bl 6,0,none⟩) ns.length (m.cp 6)) rfl (Or.inl ⟨by rfl,fun w9 hSw=>by have h9:=hSw.2.1;go_simp⟩) hHeld ?_
        try simp only [Act.put,sA,sB,sC]
        refine tkd (i:=7) (v:=.int .i64 (k:Int)) rfl hHeld ?_
        try simp only [Act.put,sA,sB,sC]
        refine tkd (i:=8) (v:=.pointer (some ⟨m.bl 6,k,none⟩)) rfl hHeld ?_
        try simp only [Act.put,sA,sB,sC]
        refine tk (i:=9) (v:=.bool false) rfl (Or.inl ⟨by rfl,fun w9 hSw=>by have h9:=hSw.2.2.1;go_simp⟩) hHeld ?_
        try simp only [Act.put,sA,sB,sC]
        refine tkd (i:=10) (v:=.bool false) rfl hHeld ?_
        try simp only [Act.put,sA,sB,sC]
        refine tkd (i:=11) (v:=.bool false) rfl hHeld ?_
        try simp only [Act.put,sA,sB,sC]
        refine tk (i:=12) (v:=undef) rfl (Or.inr ⟨by rfl,rfl⟩) hHeld ?_
        try simp only [Act.put,sA,sB,sC]
        refine tk (i:=13) (v:=undef) rfl (Or.inr ⟨by rfl,rfl⟩) hHeld ?_
        try simp only [Act.put,sA,sB,sC]
        refine tk (i:=14) (v:=undef) rfl (Or.inr ⟨by rfl,rfl⟩) hHeld ?_
        try simp only [Act.put,sA,sB,sC]
        refine tk (i:=15) (v:=undef) rfl (Or.inr ⟨by rfl,rfl⟩) hHeld ?_
        try simp only [Act.put,sA,sB,sC]
        refine tk (i:=16) (v:=undef) rfl (Or.inr ⟨by rfl,rfl⟩) hHeld ?_
        try simp only [Act.put,sA,sB,sC]
        refine tk (i:=17) (v:=undef) rfl (Or.inr ⟨by rfl,rfl⟩) hHeld ?_
        try simp only [Act.put,sA,sB,sC]
        refine tk (i:=18) (v:=undef) rfl (Or.inr ⟨by rfl,rfl⟩) hHeld ?_
        try simp only [Act.put,sA,sB,sC]
        refine tk (i:=19) (v:=undef) rfl (Or.inr ⟨by rfl,rfl⟩) hHeld ?_
        try simp only [Act.put,sA,sB,sC]
        refine tk (i:=20) (v:=undef) rfl (Or.inr ⟨by rfl,rfl⟩) hHeld ?_
        try simp only [Act.put,sA,sB,sC]
        refine tk (i:=21) (v:=undef) rfl (Or.inr ⟨by rfl,rfl⟩) hHeld ?_
        try simp only [Act.put,sA,sB,sC]
        refine tk (i:=22) (v:=undef) rfl (Or.inr ⟨by rfl,rfl⟩) hHeld ?_
        try simp only [Act.put,sA,sB,sC]
        refine tkd (i:=23) (v:=.bool false) rfl hHeld ?_
        try simp only [Act.put,sA,sB,sC]
        refine tkd (i:=24) (v:=.bool false) rfl hHeld ?_
        try simp only [Act.put,sA,sB,sC]
        refine wpAnyH_done (by kernel_rfl) ?_ _
        go_wp2_with fail
        go_meet
        exact ⟨false,rfl,Lib.hid (by simp),hHeld,Lib.hid HGD,Lib.hid HBD⟩
       ·by_cases hya:y=av
        ·subst hya
         refine wp_region_held_drew (S:=(fun w9=>w9.cell? ⟨F,k,none⟩=some (.bool true)∧w9.cell? ⟨w.heap.size,1,none⟩=some (.slice (some ⟨m.bl 6,0,none⟩) ns.length (m.cp 6))∧w9.cell? ⟨m.bl 6,k,none⟩=some (.bool true)∧w9.cell? ⟨g,k*5+2,none⟩=some (.int .i64 y)∧w9.cell? ⟨g,k*5,none⟩=some (.int .i64 op)∧w9.cell? ⟨ga,q*2,none⟩=some (.int .i64 y)∧w9.cell? ⟨ga,q*2+1,none⟩=some (.bool au))) (by kernel_rfl) HST0 (fun hHeld=>?_)
         replace HGD:=HGD.drew
         replace HBD:w1.grownBy wr.drew (some V):=⟨HBD.os,HBD.tape,HBD.output,HBD.size,HBD.block⟩
         generalize wr.drew=wd at *
         refine tkd (i:=0) (v:=.slice (some ⟨F,0,none⟩) ns.length c) rfl hHeld ?_
         try simp only [Act.put,sA,sB,sC]
         refine tkd (i:=1) (v:=.int .i64 (k:Int)) rfl hHeld ?_
         try simp only [Act.put,sA,sB,sC]
         refine tkd (i:=2) (v:=.pointer (some ⟨F,k,none⟩)) rfl hHeld ?_
         try simp only [Act.put,sA,sB,sC]
         refine tk (i:=3) (v:=.bool true) rfl (Or.inl ⟨by rfl,fun w9 hSw=>by have h9:=hSw.1;go_simp⟩) hHeld ?_
         try simp only [Act.put,sA,sB,sC]
         refine tkd (i:=4) (v:=.bool true) rfl hHeld ?_
         try simp only [Act.put,sA,sB,sC]
         refine tkd (i:=5) (v:=.pointer (some ⟨w.heap.size,1,none⟩)) rfl hHeld ?_
         try simp only [Act.put,sA,sB,sC]
         refine tk (i:=6) (v:=.slice (some ⟨m.bl 6,0,none⟩) ns.length (m.cp 6)) rfl (Or.inl ⟨by rfl,fun w9 hSw=>by have h9:=hSw.2.1;go_simp⟩) hHeld ?_
         try simp only [Act.put,sA,sB,sC]
         refine tkd (i:=7) (v:=.int .i64 (k:Int)) rfl hHeld ?_
         try simp only [Act.put,sA,sB,sC]
         refine tkd (i:=8) (v:=.pointer (some ⟨m.bl 6,k,none⟩)) rfl hHeld ?_
         try simp only [Act.put,sA,sB,sC]
         refine tk (i:=9) (v:=.bool true) rfl (Or.inl ⟨by rfl,fun w9 hSw=>by have h9:=hSw.2.2.1;go_simp⟩) hHeld ?_
         try simp only [Act.put,sA,sB,sC]
         refine tkd (i:=10) (v:=.bool true) rfl hHeld ?_
         try simp only [Act.put,sA,sB,sC]
         refine tkd (i:=11) (v:=.bool true) rfl hHeld ?_
         try simp only [Act.put,sA,sB,sC]
         refine tkd (i:=12) (v:=.slice (some ⟨g,0,none⟩) ns.length cap) rfl hHeld ?_
         try simp only [Act.put,sA,sB,sC]
         refine tkd (i:=13) (v:=.int .i64 (k:Int)) rfl hHeld ?_
         try simp only [Act.put,sA,sB,sC]
         refine tkd (i:=14) (v:=.pointer (some ⟨g,k*5,none⟩)) rfl hHeld ?_
         try simp only [Act.put,sA,sB,sC]
         refine tkd (i:=15) (v:=.pointer (some ⟨g,k*5+2,none⟩)) rfl hHeld ?_
         try simp only [Act.put,sA,sB,sC]
         refine tk (i:=16) (v:=.int .i64 y) rfl (Or.inl ⟨by rfl,fun w9 hSw=>by have h9:=hSw.2.2.2.1;go_simp⟩) hHeld ?_
         try simp only [Act.put,sA,sB,sC]
         refine tkd (i:=17) (v:=.slice (some ⟨ga,0,none⟩) acc.length ca) rfl hHeld ?_
         try simp only [Act.put,sA,sB,sC]
         refine tkd (i:=18) (v:=.int .i64 (q:Int)) rfl hHeld ?_
         try simp only [Act.put,sA,sB,sC]
         refine tkd (i:=19) (v:=.pointer (some ⟨ga,q*2,none⟩)) rfl hHeld ?_
         try simp only [Act.put,sA,sB,sC]
         refine tkd (i:=20) (v:=.pointer (some ⟨ga,q*2,none⟩)) rfl hHeld ?_
         try simp only [Act.put,sA,sB,sC]
         refine tk (i:=21) (v:=.int .i64 y) rfl (Or.inl ⟨by rfl,fun w9 hSw=>by have h9:=hSw.2.2.2.2.2.1;go_simp⟩) hHeld ?_
         try simp only [Act.put,sA,sB,sC]
         refine tkd (i:=22) (v:=.bool true) rfl hHeld ?_
         try simp only [Act.put,sA,sB,sC]
         refine tkd (i:=23) (v:=.bool true) rfl hHeld ?_
         try simp only [Act.put,sA,sB,sC]
         refine tkd (i:=24) (v:=.bool true) rfl hHeld ?_
         try simp only [Act.put,sA,sB,sC]
         refine wpAnyH_done (by kernel_rfl) ?_ _
         go_wp2_with fail
         go_meet
         exact ⟨true,rfl,Lib.hid (by simp),hHeld,Lib.hid HGD,Lib.hid HBD⟩
        ·have hyd:decide (y=av)=false:=decide_eq_false hya
         have hyb:(y==av)=false:=by simp [hya]
         refine wp_region_held_drew (S:=(fun w9=>w9.cell? ⟨F,k,none⟩=some (.bool true)∧w9.cell? ⟨w.heap.size,1,none⟩=some (.slice (some ⟨m.bl 6,0,none⟩) ns.length (m.cp 6))∧w9.cell? ⟨m.bl 6,k,none⟩=some (.bool true)∧w9.cell? ⟨g,k*5+2,none⟩=some (.int .i64 y)∧w9.cell? ⟨g,k*5,none⟩=some (.int .i64 op)∧w9.cell? ⟨ga,q*2,none⟩=some (.int .i64 av)∧w9.cell? ⟨ga,q*2+1,none⟩=some (.bool au))) (by kernel_rfl) HST0 (fun hHeld=>?_)
         replace HGD:=HGD.drew
         replace HBD:w1.grownBy wr.drew (some V):=⟨HBD.os,HBD.tape,HBD.output,HBD.size,HBD.block⟩
         generalize wr.drew=wd at *
         refine tkd (i:=0) (v:=.slice (some ⟨F,0,none⟩) ns.length c) rfl hHeld ?_
         try simp only [Act.put,sA,sB,sC]
         refine tkd (i:=1) (v:=.int .i64 (k:Int)) rfl hHeld ?_
         try simp only [Act.put,sA,sB,sC]
         refine tkd (i:=2) (v:=.pointer (some ⟨F,k,none⟩)) rfl hHeld ?_
         try simp only [Act.put,sA,sB,sC]
         refine tk (i:=3) (v:=.bool true) rfl (Or.inl ⟨by rfl,fun w9 hSw=>by have h9:=hSw.1;go_simp⟩) hHeld ?_
         try simp only [Act.put,sA,sB,sC]
         refine tkd (i:=4) (v:=.bool true) rfl hHeld ?_
         try simp only [Act.put,sA,sB,sC]
         refine tkd (i:=5) (v:=.pointer (some ⟨w.heap.size,1,none⟩)) rfl hHeld ?_
         try simp only [Act.put,sA,sB,sC]
         refine tk (i:=6) (v:=.slice (some ⟨m.bl 6,0,none⟩) ns.length (m.cp 6)) rfl (Or.inl ⟨by rfl,fun w9 hSw=>by have h9:=hSw.2.1;go_simp⟩) hHeld ?_
         try simp only [Act.put,sA,sB,sC]
         refine tkd (i:=7) (v:=.int .i64 (k:Int)) rfl hHeld ?_
         try simp only [Act.put,sA,sB,sC]
         refine tkd (i:=8) (v:=.pointer (some ⟨m.bl 6,k,none⟩)) rfl hHeld ?_
         try simp only [Act.put,sA,sB,sC]
         refine tk (i:=9) (v:=.bool true) rfl (Or.inl ⟨by rfl,fun w9 hSw=>by have h9:=hSw.2.2.1;go_simp⟩) hHeld ?_
         try simp only [Act.put,sA,sB,sC]
         refine tkd (i:=10) (v:=.bool true) rfl hHeld ?_
         try simp only [Act.put,sA,sB,sC]
         refine tkd (i:=11) (v:=.bool true) rfl hHeld ?_
         try simp only [Act.put,sA,sB,sC]
         refine tkd (i:=12) (v:=.slice (some ⟨g,0,none⟩) ns.length cap) rfl hHeld ?_
         try simp only [Act.put,sA,sB,sC]
         refine tkd (i:=13) (v:=.int .i64 (k:Int)) rfl hHeld ?_
         try simp only [Act.put,sA,sB,sC]
         refine tkd (i:=14) (v:=.pointer (some ⟨g,k*5,none⟩)) rfl hHeld ?_
         try simp only [Act.put,sA,sB,sC]
         refine tkd (i:=15) (v:=.pointer (some ⟨g,k*5+2,none⟩)) rfl hHeld ?_
         try simp only [Act.put,sA,sB,sC]
         refine tk (i:=16) (v:=.int .i64 y) rfl (Or.inl ⟨by rfl,fun w9 hSw=>by have h9:=hSw.2.2.2.1;go_simp⟩) hHeld ?_
         try simp only [Act.put,sA,sB,sC]
         refine tkd (i:=17) (v:=.slice (some ⟨ga,0,none⟩) acc.length ca) rfl hHeld ?_
         try simp only [Act.put,sA,sB,sC]
         refine tkd (i:=18) (v:=.int .i64 (q:Int)) rfl hHeld ?_
         try simp only [Act.put,sA,sB,sC]
         refine tkd (i:=19) (v:=.pointer (some ⟨ga,q*2,none⟩)) rfl hHeld ?_
         try simp only [Act.put,sA,sB,sC]
         refine tkd (i:=20) (v:=.pointer (some ⟨ga,q*2,none⟩)) rfl hHeld ?_
         try simp only [Act.put,sA,sB,sC]
         refine tk (i:=21) (v:=.int .i64 av) rfl (Or.inl ⟨by rfl,fun w9 hSw=>by have h9:=hSw.2.2.2.2.2.1;go_simp⟩) hHeld ?_
         try simp only [Act.put,sA,sB,sC]
         refine tkd (i:=22) (v:=.bool false) rfl hHeld ?_
         try simp only [Act.put,sA,sB,sC]
         refine tkd (i:=23) (v:=.bool false) rfl hHeld ?_
         try simp only [Act.put,sA,sB,sC]
         refine tkd (i:=24) (v:=.bool false) rfl hHeld ?_
         try simp only [Act.put,sA,sB,sC]
         refine wpAnyH_done (by kernel_rfl) ?_ _
         go_wp2_with fail
         go_meet
         exact ⟨false,rfl,Lib.hid (by simp [hya]),hHeld,Lib.hid HGD,Lib.hid HBD⟩
     case rest =>
      obtain ⟨nb,rfl,HNB,HST,HG,HB⟩:=hcut
      clear HGD HBD HST0
      obtain ⟨ob,hob⟩:∃ b,cfJ ns acc (fun i=>live i && S 6 i) k q=b:=⟨_,rfl⟩
      have cG:=HG.out.cell hlt
      have sG:=HG.out.soft k
      simp only [if_true] at cG
      rw [hob] at cG
      have HNX:Hid (∀ b:Bool,b=(ob || (nb && (au || decide (op=5))))→Hid (FlW (wc.setCell ⟨V,k,none⟩ (.bool b)) V ns.length (fun i=>if i=k then cfJ ns acc (fun i=>live i && S 6 i) k (q+1) else if i<k then cfJ ns acc (fun i=>live i && S 6 i) i acc.length else false))):=Lib.hid (fun b hb=>(HG.out.put hlt b).congr (fun i _=>by
       by_cases hik:i=k
       ·subst hik
        rw [if_pos rfl,setR_at,cfJ_next HAQ.out,nearB_at HDK.out,hob,hb,HNB.out]
        simp only [HLV.out,HPL.out,HY.out,HOP.out]
        cases lv <;> cases pl <;> simp
       ·rw [if_neg hik,setR_ne _ _ _ hik,if_neg hik]))
      have HBW:Hid (∀ b:Bool,Hid (w1.grownBy (wc.setCell ⟨V,k,none⟩ (.bool b)) (some V))):=Lib.hid (fun b=>grown_set HB.out _)
      have hsame:∀ (b:Nat) (o:Nat) (v:Value),b≠V→(wc.setCell ⟨V,k,none⟩ v).cell? ⟨b,o,none⟩=wc.cell? ⟨b,o,none⟩:=fun b o v h9=>World.cell?_of_block (a:=⟨b,o,none⟩) (heap_setCell_other _ _ _ _ (fun e=>h9 e))
      have HSM:=Lib.hid hsame
      clear hob hsame HG HB HNB
      go_upto_region 9 with fail
      cases ob
      ·cases nb
       ·have HT:=HNX.out false (by simp)
        have HBN:=HBW.out false
        obtain ⟨s0,s1,s2,s3,s4,s5,s6⟩:=HST
        clear HNX HBW HSM
        go_wp2_with fail
        go_roundg (acc.length-(q+1))
        case measure=>rw [HGQ.out];omega
        case rel=>exact ⟨q+1,by go_num,by omega,rfl,HT,HBN⟩
       ·cases au
        ·by_cases h5:op=5
         ·subst h5
          have HT:=HNX.out true (by simp)
          have HBN:=HBW.out true
          obtain ⟨s0,s1,s2,s3,s4,s5,s6⟩:=HST
          clear HNX HBW HSM
          go_wp2_with fail
          go_roundg (acc.length-(q+1))
          case measure=>rw [HGQ.out];omega
          case rel=>exact ⟨q+1,by go_num,by omega,rfl,HT,HBN⟩
         ·have b5:(op==5)=false:=by simp [h5]
          have d5:decide (op=5)=false:=decide_eq_false h5
          have HT:=HNX.out false (by simp [h5])
          have HBN:=HBW.out false
          obtain ⟨s0,s1,s2,s3,s4,s5,s6⟩:=HST
          clear HNX HBW HSM
          go_wp2_with fail
          go_roundg (acc.length-(q+1))
          case measure=>rw [HGQ.out];omega
          case rel=>exact ⟨q+1,by go_num,by omega,rfl,HT,HBN⟩
        ·have HT:=HNX.out true (by simp)
         have HBN:=HBW.out true
         obtain ⟨s0,s1,s2,s3,s4,s5,s6⟩:=HST
         clear HNX HBW HSM
         go_wp2_with fail
         go_roundg (acc.length-(q+1))
         case measure=>rw [HGQ.out];omega
         case rel=>exact ⟨q+1,by go_num,by omega,rfl,HT,HBN⟩
      ·have HT:=HNX.out true (by simp)
       have HBN:=HBW.out true
       obtain ⟨s0,s1,s2,s3,s4,s5,s6⟩:=HST
       clear HNX HBW HSM
       go_wp2_with fail
       go_roundg (acc.length-(q+1))
       case measure=>rw [HGQ.out];omega
       case rel=>exact ⟨q+1,by go_num,by omega,rfl,HT,HBN⟩
    ·have hqe:q=acc.length:=by omega
     subst hqe
     have HFN:Hid (FlW wr V ns.length (fun i=>if i<k+1 then cfJ ns acc (fun i=>live i && S 6 i) i acc.length else false)):=Lib.hid (HG.out.congr (fun i _=>by
      by_cases hik:i=k
      ·subst hik
       rw [if_pos rfl,if_pos (by omega)]
      ·rw [if_neg hik]
       by_cases hlk:i<k
       ·rw [if_pos hlk,if_pos (by omega)]
       ·rw [if_neg hlk,if_neg (by omega)]))
     clear HG
     go_wp2_with fail
     go_roundg (ns.length-(k+1))
     case measure=>rw [HGK.out];omega
     case rel=>exact ⟨k+1,by go_num,by omega,rfl,HFN,HB⟩
  ·have hke:k=ns.length:=by omega
   subst hke
   have HFN:Hid (FlW wr V ns.length (fun i=>cfJ ns acc (fun i=>live i && S 6 i) i acc.length)):=Lib.hid (HG.out.congr (fun i hi=>by rw [if_pos hi]))
   have HBF:Hid (Below w.heap.size w wr):=Lib.hid (HB1.out.grown HB.out (by have:=HVG.out;omega) (fun j hj=>by have:=HVG.out;injection hj with hj;omega))
   clear HG HB
   go_wp2_with fail
   go_ret
   exact ⟨_,rfl,HFN.out,HBF.out⟩
end Go.Proofs.YtedkkphogeealaaGreatDoor
