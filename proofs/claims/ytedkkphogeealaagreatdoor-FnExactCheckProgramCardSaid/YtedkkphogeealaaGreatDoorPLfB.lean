/- The program's checkerOf. -/
import Derived.Test.YtedkkphogeealaaGreatDoorPCfA0
import Derived.Test.YtedkkphogeealaaGreatDoorPAlwaysI0
import Derived.Test.YtedkkphogeealaaGreatDoorPLimB
import Derived.Test.YtedkkphogeealaaGreatDoorPLfA
import Derived.Test.YtedkkphogeealaaGreatDoorPMem
import Derived.Test.YtedkkphogeealaaGreatDoorPBits
import Derived.Test.YtedkkphogeealaaGreatDoorPFloG
import Derived.Deep.LoopGhost
import Derived.RangeFuncNested
import Derived.RangeFuncBound
import Derived.RangeFuncCalls
import Derived.RangeFuncLeaves
import Derived.Shelf.Abstract
import Derived.Shelf.RegionOpen
import Derived.WalkKit
import Derived.OwnWalkIn
import Derived.TacticsInMore
import Derived.LoopNIn
import Derived.LoopIn
import Derived.Test.YtedkkphogeealaaGreatDoorPStmtY
import Derived.Maps.OwnIn
import Derived.Deep.AppendLies
import Derived.StillTailTactics
import Derived.Deep.MidRow
namespace Go.Proofs.YtedkkphogeealaaGreatDoor
open Go.RowKit Go.Deep
set_option linter.unusedVariables false
set_option maxRecDepth 100000
set_option maxHeartbeats 8000000
def placesK:List (Nat × Nat):=[(0,1),(1,61)]
def zeroKc:Array Value:=#[.pointer none]++Array.replicate 61 (.int .u64 0)
theorem built_ck (p x:Value):Tryz.prog.built 127 [(0,p),(1,x)]=Instr.fill (placesK.toArray[·]?) zeroKc [(0,p),(1,x)]:=by kernel_rfl
theorem zeroK_size:zeroKc.size=62:=by simp [zeroKc]
noncomputable def newK (L:Nat) (xs:Array Value):Array Value:=setN (setN zeroKc 0 [.pointer (some ⟨L,0,none⟩)]) 1 xs.toList
theorem newK_zero (L:Nat) (xs:Array Value) (hx:xs.size=61):(newK L xs)[0]?=some (.pointer (some ⟨L,0,none⟩)):=by
 unfold newK
 rw [setN_out (by rw [setN_size,zeroK_size];simp [hx]) (.inl (by omega)),setN_in (by rw [zeroK_size];simp) (by omega) (by simp)]
 rfl
theorem newK_at (L:Nat) (xs:Array Value) (hx:xs.size=61) {i:Nat} (hi:i<61):(newK L xs)[1+i]?=xs[i]?:=by
 unfold newK
 rw [setN_in (by rw [setN_size,zeroK_size];simp [hx]) (by omega) (by simp [hx];omega),show 1+i-1=i from by omega]
 simp
theorem build_ck (L:Nat) (xs:Array Value) (hx:xs.size=61) (w:World):(Instr.build 127 #[(0,.pointer (some ⟨L,0,none⟩)),(1,.agg xs)]).run Tryz.prog w=.ok (.agg (newK L xs)) w:=by
 refine run_build w 127 _ _ ?_
 show Tryz.prog.built 127 [(0,.pointer (some ⟨L,0,none⟩)),(1,.agg xs)]=_
 rw [built_ck]
 have hz:=zeroK_size
 rw [fill_one (off:=0) (v:=.pointer (some ⟨L,0,none⟩)) rfl (by rw [hz];show 0+1≤62;omega)]
 rw [fill_one (off:=1) (v:=.agg xs) (by show some (1,61)=some (1,xs.size);rw [hx]) (by rw [setN_size,hz];show 1+xs.size≤62;omega)]
 rfl
structure Ckr (ts:List Int) (ns:List Nd) (C F hi:Nat) (A:Option Addr) (c:Nat) (ah bk:Nat→Nat) (L:Nat) (mb lv:Nat→Nat) (kn:Nat→Nat→Nat) (K:Nat) (aw:Nat→Nat) (w:World):Prop where
 ld:Lend ts ns C F hi A c ah bk L mb lv kn w
 row:∃ cs,w.heap[K]?=some (.cells cs 127 (0,0))∧cs[0]?=some (.pointer (some ⟨L,0,none⟩))∧∀ i,i<61→cs[1+i]?=some (.int .u64 (aw i:Int))
 al:FloIn (fun a b=>eN ns a b) 0 (fun (_:Nat)=>True) (fun k v=>usesN ts ns k v 2∧¬ setsN ns k v) (fun k v=>setsN ns k v) ns.length true aw (fun _=>False)
theorem Ckr.keep {ts:List Int} {ns:List Nd} {C F hi:Nat} {A:Option Addr} {c:Nat} {ah bk:Nat→Nat} {L:Nat} {mb lv:Nat→Nat} {kn:Nat→Nat→Nat} {K:Nat} {aw:Nat→Nat} {a b:World} (h:Ckr ts ns C F hi A c ah bk L mb lv kn K aw a) (hb:Below a.heap.size a b):Ckr ts ns C F hi A c ah bk L mb lv kn K aw b:=by
 obtain ⟨cs,h1,h2,h3⟩:=h.row
 exact ⟨h.ld.keep hb,⟨cs,(hb.block _ (heap_lt h1)).trans h1,h2,h3⟩,h.al⟩
def CkrPost (ts:List Int) (ds:List Nd) (w:World) (E:Ending) (w':World):Prop :=
 ∃ (C F hi:Nat) (A:Option Addr) (c:Nat) (ah bk:Nat→Nat) (L:Nat) (mb lv:Nat→Nat) (kn:Nat→Nat→Nat) (K:Nat) (aw:Nat→Nat),E=.returned (.tuple #[.pointer (some ⟨K,0,none⟩),.bool true])∧Ckr ts ds C F hi A c ah bk L mb lv kn K aw w'∧w.heap.size≤K∧Below w.heap.size w w'
theorem checkerOf_yes (ts:List Int) (s:Sts) (At As:Option Addr) (ct cs:Nat) (w:World) (hok:validB ts s=true) (hT:IntsV w 0 w.heap.size ts At ct) (hR:RepV w 0 w.heap.size s As cs)
  (hTab:TabAt 0 Lib.deBruijn64tab w) (hg:0<w.heap.size) :
  Calls Tryz.prog 40 #[.agg #[.slice At ts.length ct,.slice As s.len cs]] w (CkrPost ts (progPts s) w):=by
 have hb0:=(Below.refl w.heap.size w).alloc (Nat.le_refl _) (.cells #[.slice At ts.length ct,.slice As s.len cs] 30)
 have hz0:(w.alloc (.cells #[.slice At ts.length ct,.slice As s.len cs] 30)).heap.size=w.heap.size+1:=by simp
 have HZ:=Lib.hid hz0
 have hS:=lendingOf_yes ts s At As ct cs _ hok (hT.below hb0 (by simp)) (hR.below hb0 (by simp)) (tab_below hTab hg hb0) (by rw [hz0];omega)
 have hA:=progPts_allTyped hok
 have hD:=progPts_ok s (valid_ok hok).2.1
 generalize progPts s=ds at *
 generalize s.npts=q at hD
 have HD:=Lib.hid hD
 have HA:=Lib.hid hA
 clear hz0 hok hA hD hT hR
 go_enter Tryz.func40,Tryz.ntmps40
 go_wp2_with fail
 refine hS.mono ?_
 rintro E w1 ⟨C,F,hi,A2,c2,ah,bk,L,mb,lv,kn,rfl,hl,hLb,hb1⟩
 rw [HZ.out] at hb1 hLb
 have HB1:=Lib.hid (hb0.trans (hb1.mono (by omega)))
 have HL1:=Lib.hid hl
 have hfc:=hl.ln.flCell
 have hal:=flowAll.analysis_any ts ds q C F hi A2 c2 ah bk w1 hl.ln.fl HD.out HA.out (tab_below hTab hg HB1.out) (by have:=HB1.out.size;omega)
 clear hl hLb hb1 hS hb0
 go_wp2_with fail
 refine hal.mono ?_
 rintro E w2 ⟨xs,aw,rfl,hxz,hxc,hxf,hb2⟩
 have HL2:=Lib.hid (HL1.out.keep hb2)
 have HB2:=Lib.hid (HB1.out.trans (hb2.mono HB1.out.size))
 have HXF:=Lib.hid hxf
 have HBLD:=Lib.hid (build_ck L xs hxz)
 have hba:=(Below.refl w2.heap.size w2).alloc (Nat.le_refl _) (.cells (newK L xs) 127)
 have HBA:=Lib.hid (HB2.out.trans (hba.mono HB2.out.size))
 have HCK:Hid (Ckr ts ds C F hi A2 c2 ah bk L mb lv kn w2.heap.size aw (w2.alloc (.cells (newK L xs) 127))):=Lib.hid ⟨HL2.out.keep hba,⟨_,heap_alloc_new w2 _,newK_zero L xs hxz,fun i hi=>(newK_at L xs hxz hi).trans (hxc i hi)⟩,hxf⟩
 have HWS:=Lib.hid HB2.out.size
 clear hal hfc hxc hxf hb2 hba hxz
 go_wp2_with (first | ((with_reducible show wpList _ _ _ _ _ _);refine wpList_build_as rfl 127 _ rfl #[(0,.pointer (some ⟨L,0,none⟩)),(1,.agg xs)] (by first | kernel_rfl | rfl | (simp;done)) (.agg (newK L xs)) ?_ ?_;exact HBLD.out _))
 go_ret2
 exact ⟨C,F,hi,A2,c2,ah,bk,L,mb,lv,kn,_,aw,rfl,HCK.out,HWS.out,HBA.out⟩
theorem checkerOf_no (ts:List Int) (s:Sts) (At As:Option Addr) (ct cs:Nat) (w:World) (hv:validB ts s=false) (hT:IntsV w 0 w.heap.size ts At ct) (hR:RepV w 0 w.heap.size s As cs) :
  Calls Tryz.prog 40 #[.agg #[.slice At ts.length ct,.slice As s.len cs]] w fun E w'=>E=.returned (.tuple #[.pointer none,.bool false])∧Below w.heap.size w w':=by
 have hb0:=(Below.refl w.heap.size w).alloc (Nat.le_refl _) (.cells #[.slice At ts.length ct,.slice As s.len cs] 30)
 have hz0:(w.alloc (.cells #[.slice At ts.length ct,.slice As s.len cs] 30)).heap.size=w.heap.size+1:=by simp
 have HZ:=Lib.hid hz0
 have hS:=lendingOf_no ts s At As ct cs _ hv (hT.below hb0 (by simp)) (hR.below hb0 (by simp))
 clear hz0
 go_enter Tryz.func40,Tryz.ntmps40
 go_wp2_with fail
 refine hS.mono ?_
 rintro E w1 ⟨rfl,hb1⟩
 rw [HZ.out] at hb1
 have hb:Below w.heap.size w w1:=hb0.trans (hb1.mono (by omega))
 clear hb1 hS
 go_wp2_with fail
 go_ret2
 exact ⟨rfl,hb⟩
theorem RowI.asd {w w':World} {B:Nat} {v:Value} {l:List Int} (h:RowI w B v l) (ha:Asd w w'):RowI w' B v l:=by
 refine ⟨h.1,?_⟩
 rcases h.2 with h | ⟨g,cap,cur,h1,h2,h3,h4⟩
 ·exact .inl h
 ·exact .inr ⟨g,cap,cur,h1,h2,ha.blk _ _ _ h3 (by decide),h4⟩
theorem RowI.atQ {w:World} {B n c q:Nat} {A:Option Addr} {l:List Int} {x:Int} (h:RowI w B (.slice A n c) l) (hq:l[q]?=some x):∃ g,A=some ⟨g,0,none⟩∧g<w.heap.size∧n≤c∧c≤maxLen∧w.cell? ⟨g,q,none⟩=some (.int .i64 x):=by
 rcases h.2 with ⟨h1,h2⟩ | ⟨g,cap,cur,h1,h2,h3,h4,h5,h6,h7⟩
 ·have:=(List.getElem?_eq_some_iff.mp hq).1
  omega
 ·injection h1 with e1 e2 e3
  subst e1 e3
  have hc:=World.ownsRow.cells h (g:=g) rfl q (.int .i64 x) (by rw [List.getElem?_map,hq];rfl)
  rw [add_block,Nat.zero_add] at hc
  exact ⟨g,rfl,heap_lt h3,by omega,h5,hc⟩
def issB (i:Nat) (kd:Nat→Int) (l:List Nat):List IsD:=l.map fun v=>⟨(i:Int),kd v,(v:Int)⟩
theorem issB_length (i:Nat) (kd:Nat→Int) (l:List Nat):(issB i kd l).length=l.length:=by simp [issB]
theorem issB_take {i:Nat} {kd:Nat→Int} {l:List Nat} {q v:Nat} (h:l[q]?=some v):issB i kd (l.take (q+1))=issB i kd (l.take q)++[⟨(i:Int),kd v,(v:Int)⟩]:=by
 unfold issB
 rw [List.take_add_one,h]
 simp
theorem kdF_bit (ds:List Nd) (v:Nat):kdF ds v=if (bitsK (isUniq ds) ds.length).testBit v=true then 3 else 2:=by
 rw [bitsK_bit]
 cases h:ds[v]? with
 | none=>simp [kdF,isUniq,h]
 | some d =>
  have hv:=(List.getElem?_eq_some_iff.mp h).1
  rw [kdF_at h,isUniq_at h]
  simp [hv]
theorem issuesAt_any (ts:List Int) (ds:List Nd) (q0 C F hi:Nat) (A:Option Addr) (c:Nat) (ah bk:Nat→Nat) (L:Nat) (mb lv:Nat→Nat) (kn:Nat→Nat→Nat) (K:Nat) (aw:Nat→Nat) (k:Nat) (d:Nd) (w:World) (h:Ckr ts ds C F hi A c ah bk L mb lv kn K aw w) (hD:PtsOk q0 ds) (hA:AllTyped ts ds) (hd:ds[k]?=some d) (hTab:TabAt 0 Lib.deBruijn64tab w) (hg:0<w.heap.size) :
  Calls Tryz.prog 72 #[.pointer (some ⟨K,0,none⟩),.int .i64 k] w fun E w'=>∃ v z1 z2,E=.returned v∧RowQ w' w.heap.size v (issB k (fun _=>1) (bitsOf z1)++issB k (kdF ds) (bitsOf z2))∧(∀ i,i<64→z1.testBit i=(((effD ts d).r|||(effD ts d).t|||(effD ts d).c).testBit i && !(aw k).testBit i))∧(∀ i,z2.testBit i=true↔(∃ a∈accD ts d ((mb k).testBit d.x.toNat),(toucN ds ds.length a).testBit i=true)∧(∃ v,v<6∧(lv k).testBit v=true∧¬ lostN ts ds k v∧(kn k v).testBit i=true)∧(kn k 6).testBit i=true)∧z2<2305843009213693952∧Below w.heap.size w w':=by
 obtain ⟨i0,hi0,hzz0,hzz1,hzz2⟩:=info_parts Tryz.infoIssue
 have HI:=Lib.hid hi0
 have HZ0:=Lib.hid hzz0
 have HZ1:=Lib.hid hzz1
 have HZ2:=Lib.hid hzz2
 have hkl:=(List.getElem?_eq_some_iff.mp hd).1
 have hle:=h.ld.ln.fl.gr.le
 have hk61:k<61:=by omega
 obtain ⟨hk0,hk1⟩:(0:Int)≤(k:Int)∧(k:Int)<61:=by omega
 have hef:=effD_ok hA.1 (hA.2 k d hd)
 have hul:(effD ts d).r|||(effD ts d).t|||(effD ts d).c<64:=Nat.or_lt_two_pow (n:=6) (Nat.or_lt_two_pow (n:=6) hef.rlt hef.tlt) hef.clt
 have hakl:=h.al.lt k
 obtain ⟨z1,hz,hzl,hzb⟩:=bits_andNot_u64 ((effD ts d).r|||(effD ts d).t|||(effD ts d).c) (aw k) (by omega) (by omega)
 have HUS:=Lib.hid (uses_any (effD ts d).r (effD ts d).t (effD ts d).c (effD ts d).s hef.rlt hef.tlt hef.clt)
 have HLS:Hid (∀ (z:Nat),z<18446744073709551616→∀ W:World,Below w.heap.size w W→Calls Tryz.prog 96 #[.int .u64 z] W fun E w'=>∃ v,E=.returned v∧RowI w' W.heap.size v (intsOf z)∧Below W.heap.size W w'):=Lib.hid (fun z hz W hW=>setList_any z hz W (tab_below hTab hg hW) (Nat.lt_of_lt_of_le hg hW.size))
 have HCF:Hid (∀ W:World,Ckr ts ds C F hi A c ah bk L mb lv kn K aw W→Below w.heap.size w W→Calls Tryz.prog 105 #[.pointer (some ⟨L,0,none⟩),.int .i64 k] W _):=Lib.hid (fun W hW hbW=>conflicts_any ts ds q0 C F hi A c ah bk L mb lv kn k d W hW.ld hD hA hd (tab_below hTab hg hbW) (Nat.lt_of_lt_of_le hg hbW.size))
 obtain ⟨kcs,hkc1,hkc2,hkc3⟩:=h.row
 have HKB:=Lib.hid hkc1
 have HK0:Hid (w.cell? ⟨K,0,none⟩=some (.pointer (some ⟨L,0,none⟩))):=Lib.hid ((cB hkc1 0).trans hkc2)
 have HKA:Hid (w.cell? ⟨K,1+k,none⟩=some (.int .u64 (aw k:Int))):=Lib.hid ((cB hkc1 (1+k)).trans (hkc3 k hk61))
 have HKL:=Lib.hid (heap_lt hkc1)
 have HL0:=Lib.hid h.ld.ln.flCell
 have HLL0:=Lib.hid h.ld.ln.ltW
 have HEF:=Lib.hid (h.ld.ln.fl.effCell hd)
 have HFL0:Hid (F<w.heap.size):=Lib.hid (by obtain ⟨cs,h1,_⟩:=h.ld.ln.fl.row;exact heap_lt h1)
 have HZB:=Lib.hid hz
 have HZ1L:=Lib.hid hzl
 have HZ1B:=Lib.hid hzb
 have HH:=Lib.hid h
 clear hi0 hzz0 hzz1 hzz2 hef hul hakl hz hzl hzb hkc1 hkc2 hkc3 h hA hD hTab hg hd
 go_enter Tryz.func72,Tryz.ntmps72
 go_upto_region 2 with fail
 refine wp_region_held_drew (S:=(fun w9=>Below w.heap.size w w9)) (by kernel_rfl) (Below.refl _ _).drew (fun hHeld=>?_)
 generalize hwd:w.drew=wd at *
 clear hwd
 refine tk (i:=0) (v:=.pointer (some ⟨K,0,none⟩)) rfl (Or.inl ⟨by rfl,fun w9 hSw=>by go_simp⟩) hHeld ?_
 try simp only [Act.put,sA,sB,sC]
 refine tk (i:=1) (v:=.pointer (some ⟨K,0,none⟩)) rfl (Or.inl ⟨by rfl,fun w9 hSw=>by go_simp⟩) hHeld ?_
 try simp only [Act.put,sA,sB,sC]
 refine tk (i:=2) (v:=.pointer (some ⟨K,0,none⟩)) rfl (Or.inl ⟨by rfl,fun w9 hSw=>by go_simp⟩) hHeld ?_
 try simp only [Act.put,sA,sB,sC]
 refine tk (i:=3) (v:=.pointer (some ⟨L,0,none⟩)) rfl (Or.inl ⟨by rfl,fun w9 hSw=>by have h9:=(hSw.cell (p:=⟨K,0,none⟩) HKL.out).trans HK0.out;go_simp⟩) hHeld ?_
 try simp only [Act.put,sA,sB,sC]
 refine tk (i:=4) (v:=.pointer (some ⟨L,0,none⟩)) rfl (Or.inl ⟨by rfl,fun w9 hSw=>by go_simp⟩) hHeld ?_
 try simp only [Act.put,sA,sB,sC]
 refine tk (i:=5) (v:=.pointer (some ⟨L,0,none⟩)) rfl (Or.inl ⟨by rfl,fun w9 hSw=>by go_simp⟩) hHeld ?_
 try simp only [Act.put,sA,sB,sC]
 refine tk (i:=6) (v:=.pointer (some ⟨F,0,none⟩)) rfl (Or.inl ⟨by rfl,fun w9 hSw=>by have h9:=(hSw.cell (p:=⟨L,0,none⟩) HLL0.out).trans HL0.out;go_simp⟩) hHeld ?_
 try simp only [Act.put,sA,sB,sC]
 refine tk (i:=7) (v:=.int .i64 (k:Int)) rfl (Or.inl ⟨by rfl,fun w9 hSw=>by go_simp⟩) hHeld ?_
 try simp only [Act.put,sA,sB,sC]
 refine tk (i:=8) (v:=.pointer (some ⟨F,0,none⟩)) rfl (Or.inl ⟨by rfl,fun w9 hSw=>by go_simp⟩) hHeld ?_
 try simp only [Act.put,sA,sB,sC]
 refine tk (i:=9) (v:=.pointer (some ⟨F,2,none⟩)) rfl (Or.inl ⟨by rfl,fun w9 hSw=>by go_simp⟩) hHeld ?_
 try simp only [Act.put,sA,sB,sC]
 refine tk (i:=10) (v:=.pointer (some ⟨F,2+k*4,none⟩)) rfl (Or.inl ⟨by rfl,fun w9 hSw=>by go_simp⟩) hHeld ?_
 try simp only [Act.put,sA,sB,sC]
 refine tk (i:=11) (v:=.agg #[.int .u64 ((effD ts d).r:Int),.int .u64 ((effD ts d).t:Int),.int .u64 ((effD ts d).c:Int),.int .u64 ((effD ts d).s:Int)]) rfl (Or.inl ⟨by rfl,fun w9 hSw=>by have h9:=(hSw.cell (p:=⟨F,2+k*4,none⟩) HFL0.out).trans HEF.out.1;have h8:=(hSw.cell (p:=⟨F,2+k*4+1,none⟩) HFL0.out).trans HEF.out.2.1;have h7:=(hSw.cell (p:=⟨F,2+k*4+2,none⟩) HFL0.out).trans HEF.out.2.2.1;have h6:=(hSw.cell (p:=⟨F,2+k*4+3,none⟩) HFL0.out).trans HEF.out.2.2.2;go_simp⟩) hHeld ?_
 try simp only [Act.put,sA,sB,sC]
 refine tk (i:=13) (v:=.pointer (some ⟨K,0,none⟩)) rfl (Or.inl ⟨by rfl,fun w9 hSw=>by go_simp⟩) hHeld ?_
 try simp only [Act.put,sA,sB,sC]
 refine tk (i:=14) (v:=.int .i64 (k:Int)) rfl (Or.inl ⟨by rfl,fun w9 hSw=>by go_simp⟩) hHeld ?_
 try simp only [Act.put,sA,sB,sC]
 refine tk (i:=15) (v:=.pointer (some ⟨K,0,none⟩)) rfl (Or.inl ⟨by rfl,fun w9 hSw=>by go_simp⟩) hHeld ?_
 try simp only [Act.put,sA,sB,sC]
 refine tk (i:=16) (v:=.pointer (some ⟨K,1,none⟩)) rfl (Or.inl ⟨by rfl,fun w9 hSw=>by go_simp⟩) hHeld ?_
 try simp only [Act.put,sA,sB,sC]
 refine tk (i:=17) (v:=.pointer (some ⟨K,1+k,none⟩)) rfl (Or.inl ⟨by rfl,fun w9 hSw=>by go_simp⟩) hHeld ?_
 try simp only [Act.put,sA,sB,sC]
 refine tk (i:=18) (v:=.int .u64 (aw k:Int)) rfl (Or.inl ⟨by rfl,fun w9 hSw=>by have h9:=(hSw.cell (p:=⟨K,1+k,none⟩) HKL.out).trans HKA.out;go_simp⟩) hHeld ?_
 try simp only [Act.put,sA,sB,sC]
 refine tk (i:=22) (v:=.int .i64 0) rfl (Or.inl ⟨by rfl,fun w9 hSw=>by go_simp⟩) hHeld ?_
 try simp only [Act.put,sA,sB,sC]
 refine wpAnyH_ready (rs:=[12]) (by kernel_rfl) (by simp) ?_
 refine AllReadyH.cons (o:=⟨_,_,_,_,_,_⟩) rfl (fun K hK=>?_) AllReadyH.nil
 have hc9:=HUS.out wd
 go_simp
 refine hc9.mono ?_
 rintro E wu ⟨rfl,hbn⟩
 refine hK.out _ _ (hHeld.trans (hbn.mono hHeld.size)) (fun hHeld=>?_)
 clear hK K hc9 hbn
 refine tk (i:=19) (v:=.int .u64 (z1:Int)) rfl (Or.inl ⟨by rfl,fun w9 hSw=>by have h9:=HZB.out;go_simp⟩) hHeld ?_
 try simp only [Act.put,sA,sB,sC]
 refine wpAnyH_ready (rs:=[20]) (by kernel_rfl) (by simp) ?_
 refine AllReadyH.cons (o:=⟨_,_,_,_,_,_⟩) rfl (fun K hK=>?_) AllReadyH.nil
 have hc9:=HLS.out z1 HZ1L.out wu hHeld
 go_simp
 refine hc9.mono ?_
 rintro E wl ⟨v1,rfl,hrow1,hbn⟩
 obtain ⟨A1,c1,hv1⟩:=hrow1.slice
 subst hv1
 have HR1:=Lib.hid (hrow1.mono hHeld.size)
 clear hrow1
 refine hK.out _ _ (hHeld.trans (hbn.mono hHeld.size)) (fun hHeld=>?_)
 clear hK K hc9 hbn
 refine wpAnyH_ready (rs:=[21]) (by kernel_rfl) (by simp) ?_
 refine AllReadyH.cons (o:=⟨_,_,_,_,_,_⟩) rfl (fun K hK=>?_) AllReadyH.nil
 go_simp
 refine hK.out _ _ hHeld (fun hHeld=>?_)
 clear hK K
 refine wpAnyH_done (by kernel_rfl) ?_ _
 have HRN0:Hid (RowQ wl wl.heap.size (.slice none 0 0) (issB k (fun _=>1) ((bitsOf z1).take 0))):=Lib.hid (RowQ.nil wl wl.heap.size)
 have HBL0:=Lib.hid (Below.refl wl.heap.size wl)
 have HB0:=Lib.hid hHeld
 have HHL:=Lib.hid (HH.out.keep hHeld)
 have hl64:=bitsOf_length z1
 have hil:(intsOf z1).length=(bitsOf z1).length:=by simp [intsOf]
 have HRI:Hid (RowI wl w.heap.size (.slice A1 (bitsOf z1).length c1) (intsOf z1)):=Lib.hid (by rw [← hil];exact HR1.out)
 simp only [hil]
 clear hHeld hil HR1 HUS HEF HFL0 HZB HZ1L HKA
 obtain ⟨N1,hN1⟩:∃ N1,N1=(bitsOf z1).length:=⟨_,rfl⟩
 rw [← hN1] at HRI hl64
 simp only [← hN1]
 have HN1:=Lib.hid hN1
 clear hN1
 go_wp2_with fail
 go_loopg [5,33] N1 (fun gg ov j wr=>∃ q:Nat,j=.int .i64 q∧q≤N1∧gg=N1-q∧Hid (RowQ wr wl.heap.size ov (issB k (fun _=>1) ((bitsOf z1).take q)))∧Hid (Below wl.heap.size wl wr))
 case atStart=>exact ⟨0,rfl,Nat.zero_le _,rfl,HRN0,HBL0⟩
 case round =>
  clear HRN0 HBL0
  obtain ⟨q,rfl,hq,hgq,HR,HB⟩:=hrel
  have HGQ:=Lib.hid hgq
  clear hgq
  by_cases hlq:q<N1
  ·obtain ⟨hq0,hq1⟩:(0:Int)≤(q:Int)∧(q:Int)<(N1:Int):=by omega
   obtain ⟨v,hv⟩:∃ v,(bitsOf z1)[q]?=some v:=⟨(bitsOf z1)[q]'(by have:=HN1.out;omega),List.getElem?_eq_getElem _⟩
   obtain ⟨gi,hga,hgi,hgc,hgm,hcell⟩:=(HRI.out.below HB.out).atQ (q:=q) (x:=(v:Int)) (by simp [intsOf,hv])
   subst hga
   unfold maxLen at hgm
   have HV:=Lib.hid hv
   obtain ⟨LL,hLL⟩:∃ LL,LL=issB k (fun _=>1) ((bitsOf z1).take q):=⟨_,rfl⟩
   have HLL:Hid (LL.length≤4300):=Lib.hid (by
    rw [hLL,issB_length,List.length_take]
    omega)
   have HR9:Hid (RowQ wr wl.heap.size _ LL):=Lib.hid (HR.out.cast hLL.symm)
   have HA9:=Lib.hid (Asd.refl wr)
   have HB9:=HB
   have HLE:=Lib.hid hLL
   clear hLL HR HB hv
   go_wp2_with (at_builtin;refine wpList_append_lies _ rfl _ _ 39 rfl wl.heap.size 35 i0 (.agg #[.int .i64 0,.int .i64 0,.int .i64 0]) 3 24 Tryz.underlying39 HI.out HZ0.out HZ1.out HZ2.out rfl (by decide) _ _ _ rfl ((RowQ.own HR9.out).alloc _) ⟨_,0,none⟩ 1 1 [.int .i64 (k:Int),.int .i64 1,.int .i64 (v:Int)] rfl rfl ?xa1 ?xa2 (by decide) ?xa3 ?xa4 ?xa5 _ rfl ?_)
   try (case xa1=>exact news_cell (by simp) rfl)
   try (case xa2=>(intro u9 hu9;simp only [List.mem_cons,List.not_mem_nil,or_false] at hu9;rcases hu9 with rfl | rfl | rfl <;> rfl))
   try (case xa3=>(have:=HLL.out;unfold maxLen;omega))
   try (case xa4=>(have:=HLL.out;omega))
   try (case xa5=>(have:=HB9.out.size;first | omega | (simp;omega) | simp))
   intro g9 cap9 w9 hown9 hgg9 hat9 hlt9
   have hba:=(Below.refl wr.heap.size wr).alloc (Nat.le_refl _) (.cells #[.int .i64 (k:Int),.int .i64 1,.int .i64 (v:Int)] 35)
   have HST9:Hid (Asd wr w9):=Lib.hid (((Asd.refl wr).below hba).grown (HR9.out.below hba) hgg9)
   have HRN:=Lib.hid (RowQ.snoc (d:=⟨(k:Int),1,(v:Int)⟩) hown9)
   have HAN:=Lib.hid (HA9.out.trans HST9.out)
   have HBN:=Lib.hid ((HB9.out.trans (hba.mono HB9.out.size)).grown hgg9 (Nat.le_trans HB9.out.size hba.size) (fun j hj=>(RowQ.lt HR9.out j hj).1))
   clear hown9 hgg9 hat9 hlt9 hba
   replace HRN:=Lib.hid (HRN.out.cast (show _=issB k (fun _=>1) ((bitsOf z1).take (q+1)) by rw [issB_take HV.out,HLE.out]))
   clear HR9 HA9 HB9 hcell HST9 HAN
   go_wp2_with fail
   go_roundg (N1-(q+1))
   case measure=>rw [HGQ.out];omega
   case rel=>exact ⟨q+1,by go_num,by omega,rfl,HRN,HBN⟩
  ·have hqe:q=N1:=by omega
   subst hqe
   have HR2:=Lib.hid (HR.out.cast (show _=issB k (fun _=>1) (bitsOf z1) by rw [List.take_of_length_le (by have:=HN1.out;omega)]))
   have HB2:=Lib.hid (HB0.out.trans (HB.out.mono HB0.out.size))
   have HH2:=Lib.hid (HHL.out.keep HB.out)
   have q0:wr.cell? ⟨K,0,none⟩=some (.pointer (some ⟨L,0,none⟩)):=(HB2.out.cell HKL.out).trans HK0.out
   have hcf:=HCF.out wr HH2.out HB2.out
   clear HR
   go_wp2_with fail
   refine hcf.mono ?_
   rintro E w5 ⟨z2,rfl,hz2,hzb2,hb5⟩
   have HB5:=Lib.hid (HB.out.trans (hb5.mono HB.out.size))
   have HR5:=Lib.hid (HR2.out.below hb5)
   have HZL2:=Lib.hid hz2
   have HZB2:=Lib.hid hzb2
   have HBW5:=Lib.hid (HB2.out.trans (hb5.mono HB2.out.size))
   have hls:=HLS.out z2 (by omega) w5 HBW5.out
   clear hcf q0 hz2 hzb2 hb5 HB HB2 HH2 HR2
   go_wp2_with fail
   refine hls.mono ?_
   rintro E w6 ⟨v2,rfl,hrow2,hb6⟩
   obtain ⟨A2,c2,hv2⟩:=hrow2.slice
   subst hv2
   have hil:(intsOf z2).length=(bitsOf z2).length:=by simp [intsOf]
   obtain ⟨N2,hN2⟩:∃ N2,N2=(bitsOf z2).length:=⟨_,rfl⟩
   have hl2:=bitsOf_length z2
   have hl1:=bitsOf_length z1
   rw [hil,← hN2] at hrow2
   rw [← hN2] at hl2
   simp only [hil]
   simp only [← hN2]
   have HN2:=Lib.hid hN2
   have HRI2:=Lib.hid hrow2
   have HB6:=Lib.hid (HB5.out.trans (hb6.mono HB5.out.size))
   have HR6:Hid (RowQ w6 wl.heap.size _ (issB k (fun _=>1) (bitsOf z1)++issB k (kdF ds) ((bitsOf z2).take 0))):=Lib.hid ((HR5.out.below hb6).cast (by rw [List.take_zero];exact (List.append_nil _).symm))
   have HA6:=Lib.hid (Asd.refl w6)
   have HL1:Hid ((issB k (fun _=>1) (bitsOf z1)).length≤64):=Lib.hid (by rw [issB_length];exact hl1)
   clear hls hrow2 hb6 hil hN2 HB5 HR5 hl1
   go_wp2_with fail
   go_loopg [5,52] N2 (fun gg ov j wr=>∃ q:Nat,j=.int .i64 q∧q≤N2∧gg=N2-q∧Hid (RowQ wr wl.heap.size ov (issB k (fun _=>1) (bitsOf z1)++issB k (kdF ds) ((bitsOf z2).take q)))∧Hid (Asd w6 wr)∧Hid (Below wl.heap.size wl wr))
   case atStart=>exact ⟨0,rfl,Nat.zero_le _,rfl,HR6,HA6,HB6⟩
   case round =>
    clear HR6 HA6 HB6
    obtain ⟨q,rfl,hq,hgq,HR,HA,HB⟩:=hrel
    have HGQ:=Lib.hid hgq
    clear hgq
    by_cases hlq:q<N2
    ·obtain ⟨hq0,hq1⟩:(0:Int)≤(q:Int)∧(q:Int)<(N2:Int):=by omega
     obtain ⟨v,hv⟩:∃ v,(bitsOf z2)[q]?=some v:=⟨(bitsOf z2)[q]'(by have:=HN2.out;omega),List.getElem?_eq_getElem _⟩
     obtain ⟨gi,hga,hgi,hgc,hgm,hcell⟩:=(HRI2.out.asd HA.out).atQ (q:=q) (x:=(v:Int)) (by simp [intsOf,hv])
     subst hga
     unfold maxLen at hgm
     have hv64:v<64:=by
      have h9:=List.mem_of_getElem? hv
      rw [bitsOf_filter,List.mem_filter,List.mem_range] at h9
      exact h9.1
     have HV:=Lib.hid hv
     have hBw:=HB0.out.trans (HB.out.mono HB0.out.size)
     have q0:wr.cell? ⟨K,0,none⟩=some (.pointer (some ⟨L,0,none⟩)):=(hBw.cell HKL.out).trans HK0.out
     have q1:wr.cell? ⟨L,2,none⟩=some (.int .u64 (bitsK (isUniq ds) ds.length:Nat)):=(hBw.cell HLL0.out).trans HH.out.ld.ln.uniqCell
     have hhs:=bitHas_any (bitsK (isUniq ds) ds.length) v (Nat.lt_trans (bitsK_61 (isUniq ds) hle) (by decide)) hv64 wr
     obtain ⟨ub,hub⟩:∃ ub,(bitsK (isUniq ds) ds.length).testBit v=ub:=⟨_,rfl⟩
     rw [hub] at hhs
     have HUB:=Lib.hid hub
     obtain ⟨UQ,hUQ⟩:∃ UQ:Nat,UQ=bitsK (isUniq ds) ds.length:=⟨_,rfl⟩
     rw [← hUQ] at hhs q1
     obtain ⟨LL,hLL⟩:∃ LL,LL=issB k (fun _=>1) (bitsOf z1)++issB k (kdF ds) ((bitsOf z2).take q):=⟨_,rfl⟩
     have HLL:Hid (LL.length≤4300):=Lib.hid (by
      have h9:=HL1.out
      rw [hLL,List.length_append,issB_length k (kdF ds),List.length_take]
      omega)
     have HR9:Hid (RowQ wr wl.heap.size _ LL):=Lib.hid (HR.out.cast hLL.symm)
     have HA9:=HA
     have HB9:=HB
     have HLE:=Lib.hid hLL
     clear hLL HR HA HB hv hBw hub hUQ
     go_wp2_with fail
     refine hhs.mono ?_
     rintro E w7 ⟨rfl,hw7⟩
     have HR9:Hid (RowQ w7 wl.heap.size _ LL):=Lib.hid (by rw [hw7];exact HR9.out)
     have HA9:Hid (Asd w6 w7):=Lib.hid (by rw [hw7];exact HA9.out)
     have HB9:Hid (Below wl.heap.size wl w7):=Lib.hid (by rw [hw7];exact HB9.out)
     clear hhs q0 q1 hw7 hcell
     cases ub
     ·have HKD:Hid (kdF ds v=2):=Lib.hid (by rw [kdF_bit,HUB.out];rfl)
      go_wp2_with (at_builtin;refine wpList_append_lies _ rfl _ _ 39 rfl wl.heap.size 35 i0 (.agg #[.int .i64 0,.int .i64 0,.int .i64 0]) 3 24 Tryz.underlying39 HI.out HZ0.out HZ1.out HZ2.out rfl (by decide) _ _ _ rfl ((RowQ.own HR9.out).alloc _) ⟨_,0,none⟩ 1 1 [.int .i64 (k:Int),.int .i64 2,.int .i64 (v:Int)] rfl rfl ?xb1 ?xb2 (by decide) ?xb3 ?xb4 ?xb5 _ rfl ?_)
      try (case xb1=>exact news_cell (by simp) rfl)
      try (case xb2=>(intro u9 hu9;simp only [List.mem_cons,List.not_mem_nil,or_false] at hu9;rcases hu9 with rfl | rfl | rfl <;> rfl))
      try (case xb3=>(have:=HLL.out;unfold maxLen;omega))
      try (case xb4=>(have:=HLL.out;omega))
      try (case xb5=>(have:=HB9.out.size;first | omega | (simp;omega) | simp))
      intro g9 cap9 w9 hown9 hgg9 hat9 hlt9
      have hba:=(Below.refl w7.heap.size w7).alloc (Nat.le_refl _) (.cells #[.int .i64 (k:Int),.int .i64 2,.int .i64 (v:Int)] 35)
      have HST9:Hid (Asd w7 w9):=Lib.hid (((Asd.refl w7).below hba).grown (HR9.out.below hba) hgg9)
      have HRN:=Lib.hid (RowQ.snoc (d:=⟨(k:Int),2,(v:Int)⟩) hown9)
      have HAN:=Lib.hid (HA9.out.trans HST9.out)
      have HBN:=Lib.hid ((HB9.out.trans (hba.mono HB9.out.size)).grown hgg9 (Nat.le_trans HB9.out.size hba.size) (fun j hj=>(RowQ.lt HR9.out j hj).1))
      clear hown9 hgg9 hat9 hlt9 hba
      replace HRN:=Lib.hid (HRN.out.cast (show _=issB k (fun _=>1) (bitsOf z1)++issB k (kdF ds) ((bitsOf z2).take (q+1)) by rw [issB_take HV.out,HLE.out,HKD.out,List.append_assoc]))
      clear HR9 HA9 HB9 HST9
      go_wp2_with fail
      go_roundg (N2-(q+1))
      case measure=>rw [HGQ.out];omega
      case rel=>exact ⟨q+1,by go_num,by omega,rfl,HRN,HAN,HBN⟩
     ·have HKD:Hid (kdF ds v=3):=Lib.hid (by rw [kdF_bit,HUB.out];rfl)
      go_wp2_with (at_builtin;refine wpList_append_lies _ rfl _ _ 39 rfl wl.heap.size 35 i0 (.agg #[.int .i64 0,.int .i64 0,.int .i64 0]) 3 24 Tryz.underlying39 HI.out HZ0.out HZ1.out HZ2.out rfl (by decide) _ _ _ rfl ((RowQ.own HR9.out).alloc _) ⟨_,0,none⟩ 1 1 [.int .i64 (k:Int),.int .i64 3,.int .i64 (v:Int)] rfl rfl ?xc1 ?xc2 (by decide) ?xc3 ?xc4 ?xc5 _ rfl ?_)
      try (case xc1=>exact news_cell (by simp) rfl)
      try (case xc2=>(intro u9 hu9;simp only [List.mem_cons,List.not_mem_nil,or_false] at hu9;rcases hu9 with rfl | rfl | rfl <;> rfl))
      try (case xc3=>(have:=HLL.out;unfold maxLen;omega))
      try (case xc4=>(have:=HLL.out;omega))
      try (case xc5=>(have:=HB9.out.size;first | omega | (simp;omega) | simp))
      intro g9 cap9 w9 hown9 hgg9 hat9 hlt9
      have hba:=(Below.refl w7.heap.size w7).alloc (Nat.le_refl _) (.cells #[.int .i64 (k:Int),.int .i64 3,.int .i64 (v:Int)] 35)
      have HST9:Hid (Asd w7 w9):=Lib.hid (((Asd.refl w7).below hba).grown (HR9.out.below hba) hgg9)
      have HRN:=Lib.hid (RowQ.snoc (d:=⟨(k:Int),3,(v:Int)⟩) hown9)
      have HAN:=Lib.hid (HA9.out.trans HST9.out)
      have HBN:=Lib.hid ((HB9.out.trans (hba.mono HB9.out.size)).grown hgg9 (Nat.le_trans HB9.out.size hba.size) (fun j hj=>(RowQ.lt HR9.out j hj).1))
      clear hown9 hgg9 hat9 hlt9 hba
      replace HRN:=Lib.hid (HRN.out.cast (show _=issB k (fun _=>1) (bitsOf z1)++issB k (kdF ds) ((bitsOf z2).take (q+1)) by rw [issB_take HV.out,HLE.out,HKD.out,List.append_assoc]))
      clear HR9 HA9 HB9 HST9
      go_wp2_with fail
      go_roundg (N2-(q+1))
      case measure=>rw [HGQ.out];omega
      case rel=>exact ⟨q+1,by go_num,by omega,rfl,HRN,HAN,HBN⟩
    ·have hqe:q=N2:=by omega
     subst hqe
     have HR2:=Lib.hid ((HR.out.cast (show _=issB k (fun _=>1) (bitsOf z1)++issB k (kdF ds) (bitsOf z2) by rw [List.take_of_length_le (by have:=HN2.out;omega)])).mono HB0.out.size)
     have HBF:=Lib.hid (HB0.out.trans (HB.out.mono HB0.out.size))
     clear HR HB HA
     go_wp2_with fail
     go_ret
     exact ⟨_,z1,z2,rfl,HR2.out,HZ1B.out,HZB2.out,HZL2.out,HBF.out⟩
theorem issP_filter (i:Nat) (f:Nat→Bool) (kd:Nat→Int):∀ n,issP i f kd n=issB i kd ((List.range n).filter f)
 | 0=>rfl
 | n+1=>by
  rw [issP,issP_filter i f kd n,List.range_succ,List.filter_append]
  unfold issB
  rw [List.map_append]
  congr 1
  cases h:f n <;> simp [h]
theorem filter_cut {p f:Nat→Bool} {n:Nat}:∀ m,(∀ v,v<m→(p v=true↔v<n∧f v=true))→(List.range m).filter p=(List.range (min m n)).filter f
 | 0,_=>by simp
 | m+1,h=>by
  rw [List.range_succ,List.filter_append,filter_cut m (fun v hv=>h v (by omega))]
  by_cases hm:m<n
  ·have e:p m=f m:=Bool.eq_iff_iff.mpr ((h m (by omega)).trans ⟨fun x=>x.2,fun x=>⟨hm,x⟩⟩)
   rw [show min (m+1) n=m+1 by omega,show min m n=m by omega,List.range_succ,List.filter_append]
   congr 1
   cases h9:f m <;> simp [e,h9]
  ·have e:p m=false:=by
    cases e:p m
    ·rfl
    ·exact absurd ((h m (by omega)).mp e).1 hm
   rw [show min (m+1) n=min m n by omega]
   simp [e]
theorem issB_issP {i:Nat} {kd:Nat→Int} {z n:Nat} {f:Nat→Bool} (hn:n≤64) (hz:∀ v,v<64→(z.testBit v=true↔v<n∧f v=true)):issB i kd (bitsOf z)=issP i f kd n:=by
 rw [bitsOf_filter,filter_cut 64 hz,show min 64 n=n by omega,issP_filter]
open Classical in
noncomputable def unsD (ts:List Int) (ds:List Nd) (k v:Nat):Bool:=decide (UnsB ts ds k v)
open Classical in
noncomputable def cfD (LV:Nat→Nat→Prop) (ts:List Int) (ds:List Nd) (k j:Nat):Bool:=decide (LoCfL LV ts ds k j)
theorem unsD_iff (ts:List Int) (ds:List Nd) (k v:Nat):unsD ts ds k v=true↔UnsB ts ds k v:=@decide_eq_true_iff _ (Classical.propDecidable _)
theorem cfD_iff (LV:Nat→Nat→Prop) (ts:List Int) (ds:List Nd) (k j:Nat):cfD LV ts ds k j=true↔LoCfL LV ts ds k j:=@decide_eq_true_iff _ (Classical.propDecidable _)
noncomputable def issK (LV:Nat→Nat→Prop) (ts:List Int) (ds:List Nd) (k:Nat):List IsD:=issP k (unsD ts ds k) (fun _=>1) ts.length++issP k (cfD LV ts ds k) (kdF ds) ds.length
noncomputable def issN (LV:Nat→Nat→Prop) (ts:List Int) (ds:List Nd) (n:Nat):List IsD:=issA (unsD ts ds) (cfD LV ts ds) (kdF ds) ts.length ds.length n
theorem issN_succ (LV:Nat→Nat→Prop) (ts:List Int) (ds:List Nd) (n:Nat):issN LV ts ds (n+1)=issN LV ts ds n++issK LV ts ds n:=rfl
theorem issL_all (LV:Nat→Nat→Prop) (ts:List Int) (ds:List Nd):IssL LV ts ds (issN LV ts ds ds.length):=⟨_,_,rfl,fun i v _ _=>unsD_iff ts ds i v,fun i k _ _=>cfD_iff LV ts ds i k⟩
theorem issuesAt_val (ts:List Int) (ds:List Nd) (q0 C F hi:Nat) (A:Option Addr) (c:Nat) (ah bk:Nat→Nat) (L:Nat) (mb lv:Nat→Nat) (kn:Nat→Nat→Nat) (K:Nat) (aw:Nat→Nat) (k:Nat) (w:World) (h:Ckr ts ds C F hi A c ah bk L mb lv kn K aw w) (hD:PtsOk q0 ds) (hA:AllTyped ts ds) (hL:∀ k,k<ds.length→k≠0→∃ j,j<k∧eN ds j k) (hk:k<ds.length) (hTab:TabAt 0 Lib.deBruijn64tab w) (hg:0<w.heap.size) :
  Calls Tryz.prog 72 #[.pointer (some ⟨K,0,none⟩),.int .i64 k] w fun E w'=>∃ v,E=.returned v∧RowQ w' w.heap.size v (issK (LiveB ts ds) ts ds k)∧Below w.heap.size w w':=by
 obtain ⟨d,hd⟩:∃ d,ds[k]?=some d:=⟨ds[k],List.getElem?_eq_getElem hk⟩
 refine (issuesAt_any ts ds q0 C F hi A c ah bk L mb lv kn K aw k d w h hD hA hd hTab hg).mono ?_
 rintro E w' ⟨v,z1,z2,rfl,hrow,h1,h2,h3,hb⟩
 refine ⟨v,rfl,hrow.cast ?_,hb⟩
 have hle:=h.ld.ln.fl.gr.le
 have ht6:=hA.1
 have hk61:k<61:=by omega
 have hef:=effD_ok hA.1 (hA.2 k d hd)
 unfold issK
 congr 1
 ·refine issB_issP (by omega) fun v hv=>?_
  have hrel:=flowAll.rel_bit h.al hD hA hL hk61 hk v
  rw [h1 v hv,Bool.and_eq_true,unsD_iff]
  constructor
  ·rintro ⟨h7,h8⟩
   have h9:=(hef.uses v hv).mp h7
   have h10:=typed_use (hA.2 k d hd) _ h9
   refine ⟨by omega,⟨d,hd,h9⟩,Classical.byContradiction fun h11=>?_⟩
   have h12:=(hrel).mpr ⟨by omega,h11⟩
   rw [h12.2] at h8
   simp at h8
  ·rintro ⟨hvt,⟨d',h6,h7⟩,h8⟩
   rw [hd] at h6
   injection h6 with h6
   subst h6
   refine ⟨(hef.uses v hv).mpr h7,?_⟩
   cases h9:(aw k).testBit v
   ·rfl
   ·exact absurd h8 (hrel.mp ⟨hv,h9⟩).2
 ·refine issB_issP (by omega) fun l hl=>?_
  have hrel:=fun v=>flowLive.rel_bit h.ld.lvIn hD hA hL hk61 hk v
  have hxy:=hef.xy
  have hmy:=maybe_bit (v:=d.x.toNat) h.ld.mbIn hA hk (by omega)
  have hvar:∀ a∈accD ts d ((mb k).testBit d.x.toNat),0≤a.v:=fun a ha=>by have:=accD_var ha;omega
  rw [h2 l,cfD_iff]
  constructor
  ·rintro ⟨⟨a,ha,hab⟩,⟨v,h1,h2,h3,h4⟩,h5⟩
   have h6:=(h.ld.bit hk (by omega)).mp h4
   exact ⟨(LoanB.dom hA h6).2,⟨v,h1,(hrel v).mp ⟨by omega,h2⟩,h3,h6⟩,(h.ld.bit hk (by omega)).mp h5,_,_,hd,hmy,a,ha,(touc_near ds (hvar a ha) l).mp hab⟩
  ·rintro ⟨_,⟨v,h1,h2,h3,h4⟩,h5,d',b,hd',hb,a,ha,hn⟩
   rw [hd] at hd'
   injection hd' with hd'
   subst hd'
   have hbe:b=(mb k).testBit d.x.toNat:=by rw [Bool.eq_iff_iff,hb,hmy]
   subst hbe
   exact ⟨⟨a,ha,(touc_near ds (hvar a ha) l).mpr hn⟩,⟨v,h1,((hrel v).mpr h2).2,h3,(h.ld.bit hk (by omega)).mpr h4⟩,(h.ld.bit hk (by omega)).mpr h5⟩
open Go.RowKit Go.Deep Go.Shelf
def IsD.encs (x:IsD):Array Value:=#[x.val]
def KpQ (n:Nat) (W W':World):Prop:=Below n W W'∧∀ (k:Nat) (cs:Array Value) (t:TypeId),W.heap[k]?=some (.cells cs t (0,0))→W'.heap[k]?=some (.cells cs t (0,0))
theorem RowQ.atI {w:World} {B q n c:Nat} {A:Option Addr} {d:IsD} {l:List IsD} (h:RowQ w B (.slice A n c) l) (hq:l[q]?=some d):∃ g,A=some ⟨g,0,none⟩∧g<w.heap.size∧n≤c∧c≤maxLen∧w.cell? ⟨g,q*3,none⟩=some (.int .i64 d.a)∧w.cell? ⟨g,q*3+1,none⟩=some (.int .i64 d.k)∧w.cell? ⟨g,q*3+2,none⟩=some (.int .i64 d.v):=by
 rcases h.2 with ⟨h1,h2⟩ | ⟨g,cap,cur,h1,h2,h3,h4,h5,h6,h7⟩
 ·have:=(List.getElem?_eq_some_iff.mp hq).1
  omega
 ·injection h1 with e1 e2 e3
  subst e1 e3
  have hc:∀ i u,i<3→d.cells[i]?=some u→w.cell? ⟨g,q*3+i,none⟩=some u:=fun i u hi hu=>by
   have:=World.ownsRow.cells h (g:=g) rfl (q*3+i) u (by rw [flatQ_get l q i d hq hi];exact hu)
   rwa [add_block,Nat.zero_add] at this
  exact ⟨g,rfl,heap_lt h3,by omega,h5,hc 0 _ (by omega) rfl,hc 1 _ (by omega) rfl,hc 2 _ (by omega) rfl⟩
theorem issN_mono (LV:Nat→Nat→Prop) (ts:List Int) (ds:List Nd) (k:Nat):∀ m,k≤m→issN LV ts ds k <+: issN LV ts ds m
 | 0,h=>by rw [show k=0 by omega];exact List.prefix_refl _
 | m+1,h=>by
  by_cases e:k=m+1
  ·rw [e];exact List.prefix_refl _
  ·exact (issN_mono LV ts ds k m (by omega)).trans (by rw [issN_succ];exact List.prefix_append _ _)
theorem issN_part (LV:Nat→Nat→Prop) (ts:List Int) (ds:List Nd) (k j n:Nat) (h:k<n):issN LV ts ds k++(issK LV ts ds k).take j <+: issN LV ts ds n :=
 List.IsPrefix.trans (by rw [issN_succ];exact (List.prefix_append_right_inj _).mpr (List.take_prefix _ _)) (issN_mono LV ts ds (k+1) n h)
theorem issK_length (LV:Nat→Nat→Prop) (ts:List Int) (ds:List Nd) (k:Nat):(issK LV ts ds k).length≤ts.length+ds.length:=by
 unfold issK
 have h1:=issP_length k (unsD ts ds k) (fun _=>1) ts.length
 have h2:=issP_length k (cfD LV ts ds k) (kdF ds) ds.length
 rw [List.length_append]
 omega
theorem issues_any (K:Nat) (w:World) :
  Calls Tryz.prog 41 #[.pointer (some ⟨K,0,none⟩)] w fun e w'=>e=.returned (.func (.func 71) #[] #[.pointer (some ⟨w.heap.size,0,none⟩)])∧w'=w.alloc (.cells #[.pointer (some ⟨K,0,none⟩)] 58):=by
 go_enter Tryz.func41,Tryz.ntmps41
 go_wp2_with fail
 go_ret
 exact ⟨rfl,rfl⟩
attribute [local go_sem] Oper.semAt_some
def ResQ (b:Nat) (pre:List IsD) (W:World):Prop:=W.cell? ⟨b,0,none⟩=some (.int .i64 (firQ pre).a)∧W.cell? ⟨b,1,none⟩=some (.int .i64 (firQ pre).k)∧W.cell? ⟨b,2,none⟩=some (.int .i64 (firQ pre).v)∧W.cell? ⟨b+1,0,none⟩=some (.bool true)
attribute [local go_sem] Oper.semAt_some
attribute [local go_sem] Oper.semAt_some
theorem eqIssue_same (d:IsD) (w:World):Calls Tryz.prog 16 #[d.val,d.val] w fun E w'=>E=.returned (.bool true)∧Below w.heap.size w w':=by
 have hb:=((Below.refl w.heap.size w).alloc (Nat.le_refl _) (.cells #[.int .i64 d.a,.int .i64 d.k,.int .i64 d.v] 35)).alloc (by simp) (.cells #[.int .i64 d.a,.int .i64 d.k,.int .i64 d.v] 35)
 have HB:=Lib.hid hb
 clear hb
 unfold IsD.val
 go_enter Tryz.func16,Tryz.ntmps16
 go_wp2_with fail
 go_ret
 exact ⟨rfl,HB.out⟩
noncomputable def issOf (ts:List Int) (s:Sts):List IsD:=if validB ts s=true then issN (LiveB ts (progPts s)) ts (progPts s) (progPts s).length else []
theorem issOf_is (ts:List Int) (s:Sts):IssR ts s (issOf ts s):=by
 unfold issOf
 cases h:validB ts s
 ·exact .inr ⟨h,rfl⟩
 ·exact .inl ⟨h,issL_all _ _ _⟩
noncomputable def acptB (ts:List Int) (s:Sts):Bool:=validB ts s && (issOf ts s).isEmpty
theorem RowQ.kpN {B:Nat} {W W':World} {v:Value} {l:List IsD} {P:Nat→Prop} (h:RowQ W B v l) (k:∀ (g:Nat) (cs:Array Value) (t:TypeId),v.ownBlock=some g→W.heap[g]?=some (.cells cs t (0,0))→W'.heap[g]?=some (.cells cs t (0,0))∧P g):RowQ W' B v l∧∀ g,v.ownBlock=some g→P g:=by
 have hc:∀ g,v.ownBlock=some g→∃ cs t,W.heap[g]?=some (.cells cs t (0,0)):=by
  intro g hg
  rcases h.2 with ⟨hv,_⟩ | ⟨g',cap,cur,hv,h2,h3,_⟩
  ·rw [hv] at hg
   cases hg
  ·rw [hv] at hg
   injection hg with hg
   subst hg
   exact ⟨_,_,h3⟩
 refine ⟨h.keep (fun g hg=>?_),fun g hg=>?_⟩
 ·obtain ⟨cs,t,hcs⟩:=hc g hg
  exact (k g cs t hg hcs).1.trans hcs.symm
 ·obtain ⟨cs,t,hcs⟩:=hc g hg
  exact (k g cs t hg hcs).2
attribute [local go_sem] Oper.semAt_some
theorem issues1_inN (ts:List Int) (ds:List Nd) (q0 C F hi:Nat) (A:Option Addr) (c:Nat) (ah bk:Nat→Nat) (L:Nat) (mb lv:Nat→Nat) (kn:Nat→Nat→Nat) (K:Nat) (aw:Nat→Nat) (Bn l:Nat) (W0 W:World) (h:Ckr ts ds C F hi A c ah bk L mb lv kn K aw W0) (hD:PtsOk q0 ds) (hA:AllTyped ts ds) (hL:∀ k,k<ds.length→k≠0→∃ j,j<k∧eN ds j k) (hTab:TabAt 0 Lib.deBruijn64tab W0) (hg:0<W0.heap.size)
  (hbx:W0.heap[Bn]?=some (.cells #[.pointer (some ⟨K,0,none⟩)] 58 (0,0))) (J Jx:List IsD→World→Prop) (Kp:World→World→Prop) (Sf:World→Nat→Prop) (hkb:∀ W W',Kp W W'→Below W0.heap.size W W') (hks:∀ (W W':World) (g:Nat) (cs:Array Value) (t:TypeId),Kp W W'→Sf W g→W.heap[g]?=some (.cells cs t (0,0))→W'.heap[g]?=some (.cells cs t (0,0))∧Sf W' g) (Cl:World→Prop) (hcn:∀ (W W1:World) (g:Nat),Cl W→Below W.heap.size W W1→W.heap.size≤g→Sf W1 g) (hcb:∀ (W W1:World),Cl W→Below W.heap.size W W1→Cl W1) (hck:∀ (W W':World),Kp W W'→Cl W→Cl W') (hc0:Cl W) (hsb:∀ (W W1:World) (g:Nat),Sf W g→Below W.heap.size W W1→Sf W1 g) (hJ:AbidesFrom W.heap.size J)
  (hY:∀ pre x W,J pre W→pre.length<(issN (LiveB ts ds) ts ds ds.length).length→YieldAt Fence.wide 2 Tryz.prog l (IsD.encs x) W fun e W' =>
   (e=.returned (.bool true)∧J (pre++[x]) W'∧Kp W W')∨(e=.returned (.bool false)∧Jx (pre++[x]) W'))
  (hW:Below W0.heap.size W0 W) (h0:J [] W) :
  CallsIn Fence.wide 3 Tryz.prog 71 #[.func (.yield l) #[] #[],.pointer (some ⟨Bn,0,none⟩)] W fun e W'=>(∃ v,e=.returned v) ∧
   ((∃ ys:List IsD,ys=issN (LiveB ts ds) ts ds ds.length∧J ys W')∨(∃ pre:List IsD,pre <+: issN (LiveB ts ds) ts ds ds.length∧Jx pre W')):=by
 have hle:=h.ld.ln.fl.gr.le
 have HCK:Hid (∀ wr,Below W0.heap.size W0 wr→Ckr ts ds C F hi A c ah bk L mb lv kn K aw wr):=Lib.hid (fun wr hb=>h.keep hb)
 have HIA:Hid (∀ (k:Nat),k<ds.length→∀ wr,Below W0.heap.size W0 wr→Calls Tryz.prog 72 #[.pointer (some ⟨K,0,none⟩),.int .i64 k] wr fun E w'=>∃ v,E=.returned v∧RowQ w' wr.heap.size v (issK (LiveB ts ds) ts ds k)∧Below wr.heap.size wr w'):=Lib.hid (fun k hk wr hb=>issuesAt_val ts ds q0 C F hi A c ah bk L mb lv kn K aw k wr (h.keep hb) hD hA hL hk (tab_below hTab hg hb) (Nat.lt_of_lt_of_le hg hb.size))
 have HBN:Hid (∀ wr,Below W0.heap.size W0 wr→wr.cell? ⟨Bn,0,none⟩=some (.pointer (some ⟨K,0,none⟩))):=Lib.hid (fun wr hb=>(cB ((hb.block Bn (heap_lt hbx)).trans hbx) 0).trans rfl)
 obtain ⟨kcs,hkc1,hkc2,-⟩:=(h.keep hW).row
 have q0':W.cell? ⟨K,0,none⟩=some (.pointer (some ⟨L,0,none⟩)):=(cB hkc1 0).trans hkc2
 have q1:=(h.keep hW).ld.ln.flCell
 have q2:=(h.keep hW).ld.ln.fl.grCell
 have q3:=(h.keep hW).ld.ln.fl.gr.count
 have q4:=HBN.out W hW
 have HJ:=Lib.hid hJ
 have HKB:=Lib.hid hkb
 have HKS:=Lib.hid hks
 have HCN:=Lib.hid hcn
 have HCB:=Lib.hid hcb
 have HCK2:=Lib.hid hck
 have HC0:=Lib.hid hc0
 have HSB:=Lib.hid hsb
 have HY:=Lib.hid hY
 have H0:=Lib.hid h0
 have HW:=Lib.hid hW
 have ht6:=hA.1
 clear hkb hks hcn hcb hck hc0 hsb hJ hY h0 h hD hA hL hTab hg hbx hkc1 hkc2 hW
 have HPX:Hid (∀ k j,k<ds.length→issN (LiveB ts ds) ts ds k++(issK (LiveB ts ds) ts ds k).take j <+: issN (LiveB ts ds) ts ds ds.length):=Lib.hid (fun k j hk=>issN_part _ ts ds k j _ hk)
 obtain ⟨TOT,hTOT⟩:∃ TOT,TOT=issN (LiveB ts ds) ts ds ds.length:=⟨_,rfl⟩
 rw [← hTOT] at HPX HY ⊢
 have HTOT:=Lib.hid hTOT
 clear hTOT
 refine callsIn_of_wp Tryz.func71 rfl trivial ?_ rfl
 simp only [Tryz.ntmps71,List.size_toArray,List.length_cons,List.length_nil,Nat.reduceAdd,Nat.reduceSub,Array.replicate_succ,Array.replicate_zero,List.push_toArray,List.append_toArray,List.nil_append,List.cons_append]
 gi_wp2
 gi_loopw [19] (fun i wr=>∃ k:Nat,i=.int .i64 k∧k≤ds.length∧Hid (∃ pre:List IsD,pre=issN (LiveB ts ds) ts ds k∧J pre wr)∧Below W0.heap.size W0 wr∧Hid (Cl wr)) (fun i _=>ds.length-(intOf i).toNat)
 case atStart=>exact ⟨0,rfl,Nat.zero_le _,⟨[],rfl,H0.out⟩,HW.out,HC0⟩
 case round =>
  clear q0' q1 q2 q3 q4
  obtain ⟨k,rfl,hk,HJ1,hb,HC1⟩:=hrel
  have q4:=HBN.out wr hb
  by_cases hlt:k<ds.length
  ·have hdk:decide ((k:Int)<(ds.length:Int))=true:=decide_eq_true (by omega)
   have f1:IntKind.i64.wrap ((k:Int)+1)=(k:Int)+1:=IntWalk.i64_in _ (by omega)
   have hia:=HIA.out k hlt wr hb
   obtain ⟨LK,hLK⟩:∃ LK,LK=issK (LiveB ts ds) ts ds k:=⟨_,rfl⟩
   rw [← hLK] at hia
   have hlk:=issK_length (LiveB ts ds) ts ds k
   rw [← hLK] at hlk
   have HLK:=Lib.hid hLK
   have HLKL:Hid (LK.length≤67):=Lib.hid (by omega)
   clear hLK hlk
   gi_wp2_with (refine ⟨trivial,?_⟩;gi_at_call 72;refine (callsIn_wide.2 hia).mono ?_;rintro E w2 ⟨v,rfl,hrow,hb2⟩;obtain ⟨Av,cv,hv⟩:=hrow.slice;subst hv)
   have HJ2:Hid (∃ pre:List IsD,pre=issN (LiveB ts ds) ts ds k++LK.take 0∧J pre w2):=by
    obtain ⟨pre,e,hj⟩:=HJ1.out
    exact ⟨pre,by rw [e,List.take_zero,List.append_nil],HJ.out pre wr w2 none hj (below_grown hb2) (fun r e=>by cases e)⟩
   have HSF:Hid (∀ g,(Value.slice Av LK.length cv).ownBlock=some g→Sf w2 g):=by
    intro g hg
    exact HCN.out wr w2 g HC1.out hb2 (hrow.lt g hg).1
   have HC2:=Lib.hid (HCB.out wr w2 HC1.out hb2)
   have hbB:=hb.trans (hb2.mono hb.size)
   have HRW:Hid (RowQ w2 wr.heap.size (.slice Av LK.length cv) LK):=Lib.hid hrow
   have hw9:=hb.size
   obtain ⟨N0,hN0⟩:∃ N0,N0=wr.heap.size:=⟨_,rfl⟩
   rw [← hN0] at HRW
   clear hia hb2 HJ1 hrow q4
   obtain ⟨wo,rfl⟩:∃ z,z=wr:=⟨_,rfl⟩
   gi_loopw [26] (fun i wr=>∃ j:Nat,i=.int .i64 j∧j≤LK.length∧Hid (∃ pre:List IsD,pre=issN (LiveB ts ds) ts ds k++LK.take j∧J pre wr)∧Hid (RowQ wr N0 (.slice Av LK.length cv) LK)∧Hid (∀ g,(Value.slice Av LK.length cv).ownBlock=some g→Sf wr g)∧Hid (Cl wr)∧Below W0.heap.size W0 wr) (fun i _=>LK.length-(intOf i).toNat)
   case atStart=>exact ⟨0,rfl,Nat.zero_le _,HJ2,HRW,HSF,HC2,hbB⟩
   case round =>
    clear HJ2 hbB hb HRW HSF HC1 HC2
    obtain ⟨j,rfl,hj,HJ3,HRW,HSF,HC1,hb⟩:=hrel
    by_cases hjl:j<LK.length
    ·have hdj:decide ((j:Int)<(LK.length:Int))=true:=decide_eq_true (by omega)
     have f2:IntKind.i64.wrap ((j:Int)+1)=(j:Int)+1:=IntWalk.i64_in _ (by have:=HLKL.out;omega)
     obtain ⟨d,hd⟩:∃ d,LK[j]?=some d:=⟨LK[j],List.getElem?_eq_getElem hjl⟩
     obtain ⟨g,hga,hgl,hgc,hgm,c0,c1,c2⟩:=HRW.out.atI hd
     subst hga
     unfold maxLen at hgm
     obtain ⟨hj0,hj1⟩:(0:Int)≤(j:Int)∧(j:Int)<(LK.length:Int):=by omega
     obtain ⟨pre,hpre,hJp⟩:=HJ3.out
     have hb1:=(Below.refl wr.heap.size wr).alloc (Nat.le_refl _) (.cells #[.int .i64 d.a,.int .i64 d.k,.int .i64 d.v] 35)
     have hJ1:=HJ.out pre wr _ none hJp (below_grown hb1) (fun r e=>by cases e)
     have hp1:pre++[d]=issN (LiveB ts ds) ts ds k++LK.take (j+1):=by rw [hpre,List.take_add_one,hd,List.append_assoc];rfl
     have hpx:=HPX.out k (j+1) hlt
     rw [← HLK.out,← hp1] at hpx
     have hlen:pre.length<TOT.length:=by
      have:=hpx.length_le
      simp at this
      omega
     obtain ⟨fn,tmps,assign,body,hy,hR⟩:=HY.out pre d _ hJ1 hlen
     have hex:d.encs=#[.agg #[.int .i64 d.a,.int .i64 d.k,.int .i64 d.v]]:=rfl
     rw [hex] at hy
     have HP1:=Lib.hid hp1
     have HPX1:=Lib.hid hpx
     have HB1:=Lib.hid hb1
     clear hpx hp1 hpre hJp hlen hd HJ3 hex hJ1 hb1
     gi_wp2
     refine hR.mono ?_
     rintro E w3 (⟨rfl,hJ3,hk3⟩ | ⟨rfl,hJx3⟩)
     ·have hb3:=(hb.trans (HB1.out.mono hb.size)).trans (HKB.out _ _ hk3)
      have HJ4:Hid (∃ pre:List IsD,pre=issN (LiveB ts ds) ts ds k++LK.take (j+1)∧J pre w3):=⟨_,HP1.out,hJ3⟩
      have HRS:=Lib.hid ((HRW.out.below HB1.out).kpN (fun g cs t hv hc=>HKS.out _ _ g cs t hk3 (HSB.out _ _ g (HSF.out g hv) HB1.out) hc))
      have HRW4:=Lib.hid HRS.out.1
      have HC4:=Lib.hid (HCK2.out _ _ hk3 (HCB.out _ _ HC1.out HB1.out))
      have HSF4:=Lib.hid HRS.out.2
      clear hy hR hJ3 hk3 c0 c1 c2 HRW HSF HRS
      gi_wp2
      go_roundw
      case rel=>exact ⟨j+1,by go_num,by omega,HJ4,HRW4,HSF4,HC4,hb3⟩
      case measure=>simp [intOf];omega
     ·clear hy hR
      gi_wp2
      refine bodyPost_ret (results_none rfl _ _ _) rfl ?_
      exact ⟨⟨_,rfl⟩,.inr ⟨_,HPX1.out,hJx3⟩⟩
    ·have hje:j=LK.length:=by omega
     have hdj:decide ((j:Int)<(LK.length:Int))=false:=decide_eq_false (by omega)
     have hnj:¬ j<LK.length:=hjl
     have HJ4:Hid (∃ pre:List IsD,pre=issN (LiveB ts ds) ts ds (k+1)∧J pre wr):=by
      obtain ⟨pre,e,h⟩:=HJ3.out
      exact ⟨pre,by rw [e,hje,List.take_length,issN_succ,HLK.out],h⟩
     clear HJ3 hje HRW
     gi_wp2
     go_roundw
     case rel=>exact ⟨k+1,by go_num,by omega,HJ4,hb,HC1⟩
     case measure=>simp [intOf];omega
  ·have hdk:decide ((k:Int)<(ds.length:Int))=false:=decide_eq_false (by omega)
   have HJ4:Hid (∃ pre:List IsD,pre=TOT∧J pre wr):=by
    obtain ⟨pre,e,h⟩:=HJ1.out
    exact ⟨pre,by rw [e,HTOT.out,show k=ds.length by omega],h⟩
   clear HJ1 q4
   gi_wp2
   go_end0
   obtain ⟨pre,e,h⟩:=HJ4.out
   exact ⟨⟨_,rfl⟩,.inl ⟨pre,e,h⟩⟩
def SfZ (b:Nat) (W:World) (g:Nat):Prop:=g≠b∧∃ (v:Value) (t:TypeId),W.heap[b]?=some (.cells #[v] t (0,0))∧v.ownBlock≠some g
def ClZ (b:Nat) (W:World):Prop:=∃ (v:Value) (t:TypeId),W.heap[b]?=some (.cells #[v] t (0,0))∧∀ g,v.ownBlock=some g→g<W.heap.size
def KpZ (b n:Nat) (W W':World):Prop:=Below n W W'∧(ClZ b W→ClZ b W')∧∀ (k:Nat) (cs:Array Value) (t:TypeId),SfZ b W k→W.heap[k]?=some (.cells cs t (0,0))→W'.heap[k]?=some (.cells cs t (0,0))∧SfZ b W' k
theorem KpZ.trans {b n:Nat} {A B C:World} (h:KpZ b n A B) (k:KpZ b n B C):KpZ b n A C :=
 ⟨h.1.trans k.1,fun c=>k.2.1 (h.2.1 c),fun j cs t hs hc=>by
  obtain ⟨h1,h2⟩:=h.2.2 j cs t hs hc
  exact k.2.2 j cs t h2 h1⟩
theorem kpZ_b {b n:Nat} {w:World} (hn:n≤w.heap.size) (W:World) (l:Nat) (o o':Obj) (hl:w.heap.size≤l) (h:W.heap[l]?=some o) (h1:o.isCells=false) (h2:o.isWalk=false):KpZ b n W (W.putObj l o'):=by
 have hk:∀ (k:Nat) (cs:Array Value) (t:TypeId),W.heap[k]?=some (.cells cs t (0,0))→(W.putObj l o').heap[k]?=some (.cells cs t (0,0)):=fun k cs t hc=>((grownBy_putObj' W l o').block k (heap_lt hc) (fun e=>by
  injection e with e
  subst e
  rw [h] at hc
  injection hc with hc
  subst hc
  cases h1)).trans hc
 have hz:W.heap.size≤(W.putObj l o').heap.size:=(grownBy_putObj' W l o').size
 refine ⟨belowK_b hn W l o o' hl h h1 h2,?_,?_⟩
 ·rintro ⟨v,t,hc,hg⟩
  exact ⟨v,t,hk b _ t hc,fun g hv=>Nat.lt_of_lt_of_le (hg g hv) hz⟩
 ·rintro k cs t ⟨s2,v,t',s1,s3⟩ hc
  exact ⟨hk k cs t hc,s2,v,t',hk b _ t' s1,s3⟩
theorem sfZ_new {b g:Nat} {W W1:World} (h:ClZ b W) (hb:Below W.heap.size W W1) (hg:W.heap.size≤g):SfZ b W1 g:=by
 obtain ⟨v,t,hc,ho⟩:=h
 have hl:=heap_lt hc
 refine ⟨by omega,v,t,(hb.block b hl).trans hc,fun e=>?_⟩
 have:=ho g e
 omega
theorem clZ_below {b:Nat} {W W1:World} (h:ClZ b W) (hb:Below W.heap.size W W1):ClZ b W1:=by
 obtain ⟨v,t,hc,ho⟩:=h
 exact ⟨v,t,(hb.block b (heap_lt hc)).trans hc,fun g e=>Nat.lt_of_lt_of_le (ho g e) hb.size⟩
theorem sfZ_below {b g:Nat} {W W1:World} (h:SfZ b W g) (hb:Below W.heap.size W W1):SfZ b W1 g:=by
 obtain ⟨s2,v,t,hc,ho⟩:=h
 exact ⟨s2,v,t,(hb.block b (heap_lt hc)).trans hc,ho⟩
theorem issues_stopsZ (ts:List Int) (ds:List Nd) (q0 C F hi:Nat) (A:Option Addr) (c:Nat) (ah bk:Nat→Nat) (L:Nat) (mb lv:Nat→Nat) (kn:Nat→Nat→Nat) (K:Nat) (aw:Nat→Nat) (Bn:Nat) (w W0:World) (h:Ckr ts ds C F hi A c ah bk L mb lv kn K aw w) (hD:PtsOk q0 ds) (hA:AllTyped ts ds) (hL:∀ k,k<ds.length→k≠0→∃ j,j<k∧eN ds j k) (hTab:TabAt 0 Lib.deBruijn64tab w) (hg:0<w.heap.size)
  (hbx:w.heap[Bn]?=some (.cells #[.pointer (some ⟨K,0,none⟩)] 58 (0,0))) (b:Nat) (hb0:Below w.heap.size w W0) (hc0:ClZ b W0) :
  SeqStopsK Fence.wide 3 Tryz.prog 71 #[.pointer (some ⟨Bn,0,none⟩)] IsD.encs (KpZ b w.heap.size) (fun ys=>ys=issN (LiveB ts ds) ts ds ds.length) (fun pre=>pre <+: issN (LiveB ts ds) ts ds ds.length) (issN (LiveB ts ds) ts ds ds.length).length W0:=fun l J Jx W hW hJ _ hY h0 =>
 issues1_inN ts ds q0 C F hi A c ah bk L mb lv kn K aw Bn l w W h hD hA hL hTab hg hbx J Jx (KpZ b w.heap.size) (SfZ b) (fun _ _ k=>k.1) (fun _ _ g cs t k hs hc=>k.2.2 g cs t hs hc) (ClZ b) (fun _ _ _ hc hb hg=>sfZ_new hc hb hg) (fun _ _ hc hb=>clZ_below hc hb) (fun _ _ k hc=>k.2.1 hc) (clZ_below hc0 hW) (fun _ _ _ hs hb=>sfZ_below hs hb) hJ hY (hb0.trans (hW.mono hb0.size)) h0
def CoI (w:World) (pre:List IsD) (W:World):Prop:=(∃ v,W.heap[w.heap.size]?=some (.cells #[v] 39 (0,0))∧RowQ W w.heap.size v pre)∧Below w.heap.size w W
theorem rowQ_block {W:World} {B g:Nat} {v:Value} {l:List IsD} (h:RowQ W B v l) (hg:v.ownBlock=some g):∃ cs,W.heap[g]?=some (.cells cs 35 (0,0)):=by
 rcases h.2 with ⟨hv,_⟩ | ⟨g',cap,cur,hv,h2,h3,_⟩
 ·rw [hv] at hg
  cases hg
 ·rw [hv] at hg
  injection hg with hg
  subst hg
  exact ⟨_,h3⟩
theorem coI_own (w:World) {B:Nat} (hB:w.heap.size≤B):OwnFrom B (CoI w):=by
 rintro s X Y row ⟨⟨v,hv,hr⟩,hb⟩ hg hrow
 have hne:∀ (k:Nat) (cs:Array Value) (t:TypeId),X.heap[k]?=some (.cells cs t (0,0))→Y.heap[k]?=some (.cells cs t (0,0)):=fun k cs t hc=>(hg.block k (heap_lt hc) (fun e=>by
  obtain ⟨_,o,ho,h2⟩:=hrow k e.symm
  rw [hc] at ho
  cases ho
  cases h2)).trans hc
 refine ⟨⟨v,hne _ _ _ hv,hr.keep (fun g hg2=>?_)⟩,ownFrom_below (Nat.le_refl _) hB s X Y row hb hg hrow⟩
 obtain ⟨cs,hcs⟩:=rowQ_block hr hg2
 exact (hne g cs _ hcs).trans hcs.symm
theorem box_setQ {W:World} {B:Nat} {v:Value} {t:TypeId} (v':Value) (h:W.heap[B]?=some (.cells #[v] t (0,0))):(W.setCell ⟨B,0,none⟩ v').heap[B]?=some (.cells #[v'] t (0,0)):=by
 have hlt:=heap_lt h
 have hk:=(Array.getElem?_eq_some_iff.1 h).2
 show (W.heap.modify B _)[B]?=_
 rw [Array.getElem?_eq_getElem (by rw [Array.size_modify];exact hlt),Array.getElem_modify_self,hk]
 rfl
theorem box_after {w W w3:World} {pre:List IsD} {v:Value} {cs:Array Value} (hv:W.heap[w.heap.size]?=some (.cells #[v] 39 (0,0))) (hr:RowQ W w.heap.size v pre)
  (hg:(W.alloc (.cells cs 35)).grownBy w3 v.ownBlock):w3.heap[w.heap.size]?=some (.cells #[v] 39 (0,0)):=by
 have hvl:=heap_lt hv
 have hba:=(Below.refl W.heap.size W).alloc (Nat.le_refl _) (.cells cs 35)
 have hza:(W.alloc (.cells cs 35)).heap.size=W.heap.size+1:=by simp
 refine (hg.block _ (by omega) (fun e=>?_)).trans ((hba.block _ hvl).trans hv)
 obtain ⟨cs',hcs⟩:=rowQ_block hr e.symm
 rw [hv] at hcs
 injection hcs with hcs
 injection hcs with _ hcs _
 exact absurd hcs (by decide)
theorem coI_append {w W w3:World} {pre:List IsD} {x:IsD} {v v':Value} {cs:Array Value} (hv:W.heap[w.heap.size]?=some (.cells #[v] 39 (0,0))) (hr:RowQ W w.heap.size v pre) (hb:Below w.heap.size w W)
  (hown:RowQ w3 w.heap.size v' (pre++[x])) (hg:(W.alloc (.cells cs 35)).grownBy w3 v.ownBlock) (hat:v'.ownBlock=v.ownBlock∨v'.ownBlock=some (W.alloc (.cells cs 35)).heap.size) :
  KeepsOthers W (w3.setCell ⟨w.heap.size,0,none⟩ v')∧KpZ w.heap.size w.heap.size W (w3.setCell ⟨w.heap.size,0,none⟩ v')∧CoI w (pre++[x]) (w3.setCell ⟨w.heap.size,0,none⟩ v'):=by
 have hvl:=heap_lt hv
 have hba:=(Below.refl W.heap.size W).alloc (Nat.le_refl _) (.cells cs 35)
 have hza:(W.alloc (.cells cs 35)).heap.size=W.heap.size+1:=by simp
 have hnev:v.ownBlock≠some w.heap.size:=fun e=>by
  obtain ⟨cs',hcs⟩:=rowQ_block hr e
  rw [hv] at hcs
  injection hcs with hcs
  injection hcs with _ hcs _
  exact absurd hcs (by decide)
 have hnev':v'.ownBlock≠some w.heap.size:=fun e=>by
  rcases hat with h | h
  ·exact hnev (h ▸ e)
  ·rw [h] at e
   injection e with e
   omega
 have hv3:w3.heap[w.heap.size]?=some (.cells #[v] 39 (0,0)):=(hg.block _ (by omega) (fun e=>hnev e.symm)).trans ((hba.block _ hvl).trans hv)
 have hv4:=box_setQ v' hv3
 have hz3:=hg.size
 have hz4:(w3.setCell ⟨w.heap.size,0,none⟩ v').heap.size=w3.heap.size:=by simp [World.setCell]
 have hbl3:Below w.heap.size W w3:=(hba.mono hb.size).grown hg (by omega) (fun k e=>(hr.lt k e).1)
 have hbl4:Below w.heap.size W (w3.setCell ⟨w.heap.size,0,none⟩ v'):=hbl3.setCell (Nat.le_refl _) _
 refine ⟨((KeepsOthers.alloc _ _).trans (KeepsOthers.of_grownBy hg (fun j o hj ho=>?_))).trans (KeepsOthers.setCell _ _ _),⟨hbl4,?_,?_⟩,⟨v',hv4,hown.keep (fun g hg2=>heap_setCell_other _ _ _ _ (fun e=>hnev' (by rw [hg2];exact congrArg some e)))⟩,hb.trans hbl4⟩
 ·obtain ⟨cs',hcs⟩:=rowQ_block hr hj
  rw [hba.block j (hr.lt j hj).2,hcs] at ho
  injection ho with ho
  subst ho
  rfl
 ·intro _
  refine ⟨v',_,hv4,fun g hg2=>?_⟩
  have:=(hown.lt g hg2).2
  omega
 ·rintro k cs' t ⟨s2,v2,t2,s1,s3⟩ hc
  rw [hv] at s1
  injection s1 with s1
  injection s1 with s1 _ _
  have s1:v=v2:=by simpa using s1
  subst s1
  have hkl:=heap_lt hc
  refine ⟨(heap_setCell_other _ _ _ _ s2).trans ((hg.block k (by omega) (fun e=>s3 e.symm)).trans ((hba.block k hkl).trans hc)),s2,v',_,hv4,fun e=>?_⟩
  rcases hat with h | h
  ·exact s3 (h ▸ e)
  ·rw [h] at e
   injection e with e
   omega
attribute [local go_sem] Oper.semAt_some
theorem appendSeq_any (ts:List Int) (ds:List Nd) (q0 C F hi:Nat) (A:Option Addr) (c:Nat) (ah bk:Nat→Nat) (L:Nat) (mb lv:Nat→Nat) (kn:Nat→Nat→Nat) (K:Nat) (aw:Nat→Nat) (Bn:Nat) (w:World) (h:Ckr ts ds C F hi A c ah bk L mb lv kn K aw w) (hD:PtsOk q0 ds) (hA:AllTyped ts ds) (hL:∀ k,k<ds.length→k≠0→∃ j,j<k∧eN ds j k) (hTab:TabAt 0 Lib.deBruijn64tab w) (hg:0<w.heap.size)
  (hbx:w.heap[Bn]?=some (.cells #[.pointer (some ⟨K,0,none⟩)] 58 (0,0))) (hlen:(issN (LiveB ts ds) ts ds ds.length).length≤1000000) :
  Calls Tryz.prog 78 #[.slice none 0 0,.func (.func 71) #[] #[.pointer (some ⟨Bn,0,none⟩)]] w fun e w'=>∃ v,e=.returned v∧RowQ w' w.heap.size v (issN (LiveB ts ds) ts ds ds.length)∧Below w.heap.size w w':=by
 have hb0:=(Below.refl w.heap.size w).alloc (Nat.le_refl _) (.cells #[.slice none 0 0] 39)
 have hz0:(w.alloc (.cells #[.slice none 0 0] 39)).heap.size=w.heap.size+1:=by simp
 have hB0:=heap_alloc_new w (.cells #[.slice none 0 0] 39)
 obtain ⟨i0,hi0,hzz0,hzz1,hzz2⟩:=info_parts Tryz.infoIssue
 have HI:=Lib.hid hi0
 have HZ0:=Lib.hid hzz0
 have HZ1:=Lib.hid hzz1
 have HZ2:=Lib.hid hzz2
 have HST:Hid (∀ W0:World,Below w.heap.size w W0→ClZ w.heap.size W0→SeqStopsK Fence.wide 3 Tryz.prog 71 #[.pointer (some ⟨Bn,0,none⟩)] IsD.encs (KpZ w.heap.size w.heap.size) (fun ys=>ys=issN (LiveB ts ds) ts ds ds.length) (fun pre=>pre <+: issN (LiveB ts ds) ts ds ds.length) (issN (LiveB ts ds) ts ds ds.length).length W0):=fun W0 hb0 hcl=>issues_stopsZ ts ds q0 C F hi A c ah bk L mb lv kn K aw Bn w W0 h hD hA hL hTab hg hbx w.heap.size hb0 hcl
 clear h hD hA hL hTab hg hbx hi0 hzz0 hzz1 hzz2
 generalize issN (LiveB ts ds) ts ds ds.length=TOT at HST hlen ⊢
 have HL:=Lib.hid hlen
 clear hlen
 refine (callsIn_wide (n:=4)).1 ?_
 refine callsIn_of_wp_marks Tryz.func78 rfl trivial ?_ rfl
 simp only [Tryz.ntmps78,List.size_toArray,List.length_cons,List.length_nil,Nat.reduceAdd,Nat.reduceSub,Array.replicate_succ,Array.replicate_zero,List.push_toArray,List.append_toArray,List.nil_append,List.cons_append]
 gi_wp2
 obtain ⟨W0,hW0⟩:∃ W0,w.alloc (.cells #[.slice none 0 0] 39)=W0:=⟨_,rfl⟩
 rw [hW0] at hb0 hz0 hB0 ⊢
 clear hW0
 have hcl:ClZ w.heap.size W0:=⟨_,_,hB0,fun g e=>by cases e⟩
 have HSTOPS:=HST.out W0 hb0 hcl
 clear hcl HST
 obtain ⟨tm,htm⟩:∃ tm:Nat→IsD→Array Value,tm=fun Bx x=>#[.slice none 0 0,.func (.func 71) #[] #[.pointer (some ⟨Bn,0,none⟩)],.pointer (some ⟨w.heap.size,0,none⟩),undef,.slice none 0 0,.pointer (some ⟨Bx,0,none⟩),.func (.func 71) #[] #[.pointer (some ⟨Bn,0,none⟩)],.agg #[.int .i64 x.a,.int .i64 x.k,.int .i64 x.v],undef,undef,undef,undef,undef]:=⟨_,rfl⟩
 refine wpIn_rangeFunc_ownH (F:=Fence.wide) (n:=4) rfl (by decide) (gf:=71) (lb:=#[.pointer (some ⟨Bn,0,none⟩)]) rfl trivial (enters_of Tryz.func71 (by kernel_rfl) rfl)
  HSTOPS KpZ.trans (kpZ_b hb0.size) (Below.refl _ _) (fun _=>rfl)
  (CoI w)
  (fun c pre W=>False)
  (coI_own w hb0.size)
  (fun c _ _ _ _ h _ _=>h.elim)
  ⟨⟨_,hB0,RowQ.nil _ _⟩,hb0⟩
  (fun x a' W=>∃ Bx,w.heap.size<Bx∧W.heap[Bx]?=some (.cells #[.int .i64 x.a,.int .i64 x.k,.int .i64 x.v] 35 (0,0))∧a'={ tmps:=tm Bx x,defers:=[] })
  (fun x a' _ X Y row hs hg hr=>by
   obtain ⟨Bx,e1,e2,e3⟩:=hs
   refine ⟨Bx,e1,(hg.block Bx (Array.getElem?_eq_some_iff.1 e2).1 (fun e=>?_)).trans e2,e3⟩
   obtain ⟨_,o,ho,hc⟩:=hr Bx e.symm
   rw [e2] at ho
   cases ho
   cases hc)
  ?assign ?body ?done ?stop
 case assign =>
  rintro l pre x W K' ⟨⟨v,hv,hr⟩,hB1⟩ hK'
  have hex:x.encs=#[.agg #[.int .i64 x.a,.int .i64 x.k,.int .i64 x.v]]:=rfl
  rw [hex]
  have hWz:=hB1.size
  have hvl:=heap_lt hv
  gi_wp2
  subst htm
  have hbl:=(Below.refl W.heap.size W).alloc (Nat.le_refl _) (.cells #[.int .i64 x.a,.int .i64 x.k,.int .i64 x.v] 35)
  exact hK' _ _ ((KeepsOthers.alloc _ _).from _) ⟨(Below.refl _ W).alloc hWz _,fun hc=>clZ_below hc hbl,fun k cs t hs hc=>⟨(hbl.block k (heap_lt hc)).trans hc,sfZ_below hs hbl⟩⟩ ⟨⟨v,(hbl.block _ hvl).trans hv,hr.below hbl⟩,hB1.alloc hWz _⟩ ⟨W.heap.size,by omega,World.alloc_heap_new W _,rfl⟩
 case body =>
  rintro l pre x a' W hl ⟨r,hr0⟩ ⟨⟨v,hv,hr⟩,hB1⟩ ⟨Bx,hBx,bX,rfl⟩ hlt
  subst htm
  have hWz:=hB1.size
  have hvl:=heap_lt hv
  have c0:W.cell? ⟨Bx,0,none⟩=some (.int .i64 x.a):=(cB bX 0).trans rfl
  have c1:W.cell? ⟨Bx,1,none⟩=some (.int .i64 x.k):=(cB bX 1).trans rfl
  have c2:W.cell? ⟨Bx,2,none⟩=some (.int .i64 x.v):=(cB bX 2).trans rfl
  obtain ⟨Ao,co,ho⟩:=hr.slice
  obtain ⟨n,hn⟩:∃ n,pre.length=n:=⟨_,rfl⟩
  rw [hn] at ho
  subst ho
  have x0:W.cell? ⟨w.heap.size,0,none⟩=some (.slice Ao n co):=(cB hv 0).trans rfl
  have f0:W.frozen? ⟨w.heap.size,0,none⟩=false:=fB hv 0
  have HR:=Lib.hid hr
  have HV:=Lib.hid hv
  have HB1:=Lib.hid hB1
  have hl1:=HL.out
  clear hr hv hB1
  gi_wp2_with (gi_at_builtin;refine wpListIn_append_own_at _ rfl _ _ 39 rfl w.heap.size 35 i0 (.agg #[.int .i64 0,.int .i64 0,.int .i64 0]) 3 24 Tryz.underlying39 HI.out HZ0.out HZ1.out HZ2.out rfl (by decide) _ _ _ rfl ((RowQ.own HR.out).alloc _) ⟨_,0,none⟩ 1 1 [.int .i64 x.a,.int .i64 x.k,.int .i64 x.v] rfl rfl (news_cell (by simp) rfl) (by intro u9 hu9;simp only [List.mem_cons,List.not_mem_nil,or_false] at hu9;rcases hu9 with rfl | rfl | rfl <;> rfl) (by unfold maxLen;omega) (by omega) (by simp;omega) ?_;intro v' w3 hown hg3 hnil3 hat;have hrw3:=RowQ.snoc (d:=x) hown;obtain ⟨A3,c3,hv3e⟩:=hrw3.slice;rw [List.length_append,hn] at hv3e;subst hv3e;have hv3:=box_after HV.out HR.out hg3;have x3:w3.cell? ⟨w.heap.size,0,none⟩=some (.slice Ao n co):=(cB hv3 0).trans rfl;have f3:w3.frozen? ⟨w.heap.size,0,none⟩=false:=fB hv3 0;have HFIN:=Lib.hid (coI_append HV.out HR.out HB1.out hrw3 hg3 hat);clear hown hg3 hnil3 hat hrw3 hv3)
  exact ⟨HFIN.out.1.from _,HFIN.out.2.1,HFIN.out.2.2⟩
 case done =>
  rintro D ys W hD2 hys ⟨⟨v,hv,hr⟩,hB1⟩ hK'
  subst hys
  obtain ⟨Ao,co,ho⟩:=hr.slice
  obtain ⟨n,hn⟩:∃ n,ys.length=n:=⟨_,rfl⟩
  rw [hn] at ho
  subst ho
  have x0:W.cell? ⟨w.heap.size,0,none⟩=some (.slice Ao n co):=(cB hv 0).trans rfl
  have HR:=Lib.hid hr
  have HB1:=Lib.hid hB1
  clear hr hv hB1
  gi_wp2
  refine ⟨by simp,.inl ⟨_,_,rfl,run_takeDeferred hK',?_⟩⟩
  refine ⟨_,results_tmp rfl _ _ _,_,rfl,HR.out.keep (fun g hg=>?_),HB1.out.trans (belowK_b (w:=w) (Nat.le_refl _) W D _ _ (by omega) hK' rfl rfl)⟩
  obtain ⟨cs,hcs⟩:=rowQ_block HR.out hg
  exact (grownBy_putObj' W D _).block g (heap_lt hcs) (fun e=>by
   injection e with e
   subst e
   rw [hcs] at hK'
   injection hK' with hK'
   cases hK')
 case stop =>
  rintro D c pre W hD2 hpre h hK'
  exact h.elim
theorem issN_length (LV:Nat→Nat→Prop) (ts:List Int) (ds:List Nd):∀ k,(issN LV ts ds k).length≤k*(ts.length+ds.length)
 | 0=>by
  have:issN LV ts ds 0=[]:=rfl
  rw [this]
  simp
 | k+1=>by
  rw [issN_succ,List.length_append,Nat.succ_mul]
  have h1:=issN_length LV ts ds k
  have h2:=issK_length LV ts ds k
  omega
theorem collect_any (l:List IsD) (g:Value) (w:World) (h:Calls Tryz.prog 78 #[.slice none 0 0,g] w fun e w'=>∃ v,e=.returned v∧RowQ w' w.heap.size v l∧Below w.heap.size w w') :
  Calls Tryz.prog 44 #[g] w fun e w'=>∃ v,e=.returned v∧RowQ w' w.heap.size v l∧Below w.heap.size w w':=by
 go_enter Tryz.func44,Tryz.ntmps44
 go_wp2_with fail
 refine h.mono ?_
 rintro E w1 ⟨v,rfl,hrow,hb⟩
 have HR:=Lib.hid hrow
 clear h hrow
 go_wp2_with fail
 go_ret
 exact ⟨v,rfl,HR.out,hb⟩
theorem implCheckProgram_any (ts:List Int) (s:Sts) (At As:Option Addr) (ct cs:Nat) (w:World) (hT:IntsV w 0 w.heap.size ts At ct) (hR:RepV w 0 w.heap.size s As cs) (hTab:TabAt 0 Lib.deBruijn64tab w) (hg:0<w.heap.size) :
  Calls Tryz.prog 18 #[.agg #[.slice At ts.length ct,.slice As s.len cs]] w fun E w'=>∃ v l,IssR ts s l∧E=.returned v∧RowQ w' w.heap.size v l∧Below w.heap.size w w':=by
 have hb0:=(Below.refl w.heap.size w).alloc (Nat.le_refl _) (.cells #[.slice At ts.length ct,.slice As s.len cs] 30)
 have hz0:(w.alloc (.cells #[.slice At ts.length ct,.slice As s.len cs] 30)).heap.size=w.heap.size+1:=by simp
 have HZ:=Lib.hid hz0
 cases hv:validB ts s
 ·have hS:=checkerOf_no ts s At As ct cs _ hv (hT.below hb0 (by simp)) (hR.below hb0 (by simp))
  have HI:Hid (IssR ts s []):=Lib.hid (.inr ⟨hv,rfl⟩)
  clear hz0 hT hR hv
  go_enter Tryz.func18,Tryz.ntmps18
  go_wp2_with fail
  refine hS.mono ?_
  rintro E w1 ⟨rfl,hb1⟩
  rw [HZ.out] at hb1
  have hb:Below w.heap.size w w1:=hb0.trans (hb1.mono (by omega))
  clear hS hb1
  go_wp2_with fail
  go_ret
  exact ⟨_,[],HI.out,rfl,RowQ.nil _ _,hb⟩
 ·have hS:=checkerOf_yes ts s At As ct cs _ hv (hT.below hb0 (by simp)) (hR.below hb0 (by simp)) (tab_below hTab hg hb0) (by omega)
  have hD:=progPts_ok s (valid_ok hv).2.1
  have hA:=progPts_allTyped hv
  have hL:=progPts_leads hv
  have HF1:Hid (∀ l,IssL (LiveB ts (progPts s)) ts (progPts s) l→IssR ts s l):=Lib.hid (fun l h=>.inl ⟨hv,h⟩)
  generalize progPts s=ds at hS hD hA hL HF1
  generalize s.npts=q at hD
  have HD:=Lib.hid hD
  have HA:=Lib.hid hA
  have HL:=Lib.hid hL
  have ht6:=hA.1
  clear hz0 hT hR hv hD hA hL
  go_enter Tryz.func18,Tryz.ntmps18
  go_wp2_with fail
  refine hS.mono ?_
  rintro E w1 ⟨C,F,hi,A,c,ah,bk,L,mb,lv,kn,K,aw,rfl,hK,hKb,hb1⟩
  rw [HZ.out] at hKb hb1
  have hbw:Below w.heap.size w w1:=hb0.trans (hb1.mono (by omega))
  have hs1:=hbw.size
  have hbc:=(Below.refl w1.heap.size w1).alloc (Nat.le_refl _) (.cells #[.pointer (some ⟨K,0,none⟩)] 58)
  have bG1:=heap_alloc_new w1 (.cells #[.pointer (some ⟨K,0,none⟩)] 58)
  have hB0:Below w.heap.size w (w1.alloc (.cells #[.pointer (some ⟨K,0,none⟩)] 58)):=hbw.alloc (by omega) _
  have hle:=hK.ld.ln.fl.gr.le
  have hlen:=issN_length (LiveB ts ds) ts ds ds.length
  have hmul:ds.length*(ts.length+ds.length)≤61*67:=Nat.mul_le_mul (by omega) (by omega)
  have hap:=collect_any _ _ _ (appendSeq_any ts ds q C F hi A c ah bk L mb lv kn K aw w1.heap.size _ (hK.keep hbc) HD.out HA.out HL.out (tab_below hTab hg hB0) (Nat.lt_of_lt_of_le hg hB0.size) bG1 (by omega))
  have hANS:Hid (IssR ts s (issN (LiveB ts ds) ts ds ds.length)):=HF1.out _ (issL_all _ ts ds)
  have his:=issues_any K w1
  generalize issN (LiveB ts ds) ts ds ds.length=TOT at hap hANS hlen
  clear hS hb1 hK hbc bG1 hmul hlen
  go_wp2_with fail
  refine his.mono ?_
  rintro E w2 ⟨rfl,rfl⟩
  clear his
  have hz2:=hB0.size
  go_wp2_with fail
  refine hap.mono ?_
  rintro E w3 ⟨v,rfl,hrow,hb3⟩
  have HR:=Lib.hid (hrow.mono (B':=w.heap.size) hz2)
  have HB3:=Lib.hid (hB0.trans (hb3.mono hz2))
  clear hap hrow hb3
  go_wp2_with fail
  go_ret
  exact ⟨v,TOT,hANS.out,rfl,HR.out,HB3.out⟩
theorem eqIssueS_any (ns:List IsD) (B B':Nat) (v v':Value) (w:World) (hn:ns.length≤10000000) (h:RowQ w B v ns) (h':RowQ w B' v' ns) :
  Calls Tryz.prog 19 #[v,v'] w fun e w'=>e=.returned (.bool true)∧Below w.heap.size w w':=by
 obtain ⟨A,c,hv⟩:=h.slice
 obtain ⟨A',c',hv'⟩:=h'.slice
 obtain ⟨q,hq⟩:∃ q,q=ns.length:=⟨_,rfl⟩
 rw [← hq] at hv hv' hn
 subst hv hv'
 have HN:=Lib.hid hq
 have H:=Lib.hid h
 have H':=Lib.hid h'
 clear hq h h'
 go_enter Tryz.func19,Tryz.ntmps19
 go_wp2_with fail
 go_loopw [5] (fun i wr=>∃ k:Nat,k≤q∧i=.int .i64 k∧Below w.heap.size w wr) (fun i _=>q-(intOf i).toNat)
 case atStart=>exact ⟨0,Nat.zero_le _,rfl,Below.refl _ _⟩
 case round =>
  obtain ⟨k,hk,rfl,hb⟩:=hrel
  by_cases hlt:k<q
  ·have hkd:k<ns.length:=by rw [← HN.out];exact hlt
   obtain ⟨d,hd⟩:∃ d,ns[k]?=some d:=⟨ns[k],List.getElem?_eq_getElem hkd⟩
   obtain ⟨g,e1,hgl,hgc,hgm,a0,a1,a2⟩:=(H.out.below hb).atI hd
   obtain ⟨g',e2,hgl',hgc',hgm',b0,b1,b2⟩:=(H'.out.below hb).atI hd
   subst e1 e2
   unfold maxLen at hgm hgm'
   clear hd
   obtain ⟨x0,x1,x2⟩:=d
   dsimp only at a0 b0 a1 b1 a2 b2
   go_wp2_with fail
   go_still_tail 8,(by kernel_rfl)
   change wpList _ _ _ _ _ wr.drew
   have hbd:Below w.heap.size w wr.drew:=hb.drew
   have hE:=eqIssue_same ⟨x0,x1,x2⟩ wr.drew
   unfold IsD.val at hE
   dsimp only at hE
   have hbz:=hbd.size
   clear hb a0 b0 a1 b1 a2 b2
   generalize wr.drew=w2 at *
   go_wp2_with fail
   refine hE.mono ?_
   rintro E w3 ⟨rfl,hb3⟩
   go_wp2_with fail
   go_roundw
   case rel=>exact ⟨k+1,by omega,by go_num,hbd.trans (hb3.mono hbz)⟩
   case measure=>simp [intOf];omega
  ·have hk':k=q:=by omega
   subst hk'
   go_wp2_with fail
   go_ret
   exact ⟨rfl,hb⟩
def MkQ (w:World) (g n:Nat) (k:Int):Prop:=∀ j:Nat,j<n→w.cell? ⟨g,j*3,none⟩=some (.int .i64 (k+3*j))∧w.cell? ⟨g,j*3+1,none⟩=some (.int .i64 (k+3*j+1))∧w.cell? ⟨g,j*3+2,none⟩=some (.int .i64 (k+3*j+1+1))
theorem markIssueS_nil (A:Option Addr) (c:Nat) (k:Int) (w:World):Calls Tryz.prog 21 #[.slice A 0 c,.int .i64 k] w fun E w'=>E=.returned (.int .i64 k)∧w=w':=by
 go_enter Tryz.func21,Tryz.ntmps21
 go_wp2_with fail
 go_loop [1,5] (fun q i=>q=.int .i64 k∧i=.int .i64 0) (fun _ _=>0)
 case atStart=>exact ⟨rfl,rfl⟩
 case round =>
  obtain ⟨rfl,rfl⟩:=hrel
  go_wp2_with fail
  go_ret
  exact ⟨rfl,rfl⟩
theorem heldIssueS_nil (A:Option Addr) (c:Nat) (k:Int) (w:World):Calls Tryz.prog 22 #[.slice A 0 c,.int .i64 k] w fun E w'=>E=.returned (.int .i64 k)∧w=w':=by
 go_enter Tryz.func22,Tryz.ntmps22
 go_wp2_with fail
 go_loop [1,5] (fun q i=>q=.int .i64 k∧i=.int .i64 0) (fun _ _=>0)
 case atStart=>exact ⟨rfl,rfl⟩
 case round =>
  obtain ⟨rfl,rfl⟩:=hrel
  go_wp2_with fail
  go_ret
  exact ⟨rfl,rfl⟩
theorem isSome_setQ (a:World) (g o o':Nat) (x:Value) (h:(a.cell? ⟨g,o',none⟩).isSome=true):((a.setCell ⟨g,o,none⟩ x).cell? ⟨g,o',none⟩).isSome=true :=
 World.isSome_setCells g [x] o a ⟨g,o',none⟩ h
structure OneQ (g:Nat) (w w':World):Prop where
 os:w'.os=w.os
 tape:w'.tape=w.tape
 output:w'.output=w.output
 size:w'.heap.size=w.heap.size
 block:∀ k,k≠g→w'.heap[k]?=w.heap[k]?
 frozen:∀ p:Addr,w'.frozen? p=w.frozen? p
theorem OneQ.refl (g:Nat) (w:World):OneQ g w w:=⟨rfl,rfl,rfl,rfl,fun _ _=>rfl,fun _=>rfl⟩
theorem OneQ.set {g:Nat} {a b:World} (h:OneQ g a b) (o:Nat) (x:Value):OneQ g a (b.setCell ⟨g,o,none⟩ x) :=
 ⟨h.os,h.tape,h.output,by rw [← h.size];simp [World.setCell],fun k hk=>(heap_setCell_other _ _ _ _ (fun e=>hk e)).trans (h.block k hk),fun p=>by rw [World.frozen?_setCell];exact h.frozen p⟩
theorem markIssueS_row (n c g:Nat) (k:Int) (w:World) (hn:n≤c) (hn2:n≤5000) (hc:c≤maxLen) (hk:0≤k) (hk2:k≤1000) (hcell:∀ o,o<n*3→∃ v,w.cell? ⟨g,o,none⟩=some v) (hf:∀ o,w.frozen? ⟨g,o,none⟩=false) :
  Calls Tryz.prog 21 #[.slice (some ⟨g,0,none⟩) n c,.int .i64 k] w fun E w'=>E=.returned (.int .i64 (k+3*n))∧OneQ g w w'∧MkQ w' g n k:=by
 unfold maxLen at hc
 have HC:=Lib.hid hcell
 clear hcell
 go_enter Tryz.func21,Tryz.ntmps21
 go_wp2_with fail
 go_loopw [1,5] (fun q i wr=>∃ j:Nat,j≤n∧i=.int .i64 j∧q=.int .i64 (k+3*j)∧Hid (OneQ g w wr)∧Hid (∀ o,o<n*3→∃ v,wr.cell? ⟨g,o,none⟩=some v)∧Hid (MkQ wr g j k)) (fun _ i _=>n-(intOf i).toNat)
 case atStart=>exact ⟨0,Nat.zero_le _,rfl,by simp,OneQ.refl _ _,HC,fun i hi=>absurd hi (by omega)⟩
 case round =>
  clear HC
  obtain ⟨j,hj,rfl,rfl,hO,HC,hmk⟩:=hrel
  by_cases hlt:j<n
  ·obtain ⟨v0,h0⟩:=HC.out (j*3) (by omega)
   obtain ⟨v1,h1⟩:=HC.out (j*3+1) (by omega)
   obtain ⟨v2,h2⟩:=HC.out (j*3+2) (by omega)
   have hfr:∀ o,wr.frozen? ⟨g,o,none⟩=false:=fun o=>(hO.out.frozen _).trans (hf o)
   have hfr0:=hfr (j*3)
   have hfr1:=hfr (j*3+1)
   have hfr2:=hfr (j*3+2)
   have hz:∀ x:Int,k+3*((j:Nat):Int)=x→x<20000∧0≤x:=fun x hx=>by omega
   have hO2:Hid (OneQ g w (((wr.setCell ⟨g,j*3,none⟩ (.int .i64 (k+3*j))).setCell ⟨g,j*3+1,none⟩ (.int .i64 (k+3*j+1))).setCell ⟨g,j*3+2,none⟩ (.int .i64 (k+3*j+1+1)))):=((hO.out.set (j*3) (.int .i64 (k+3*j))).set (j*3+1) (.int .i64 (k+3*j+1))).set (j*3+2) (.int .i64 (k+3*j+1+1))
   have HC2:Hid (∀ o,o<n*3→∃ v,(((wr.setCell ⟨g,j*3,none⟩ (.int .i64 (k+3*j))).setCell ⟨g,j*3+1,none⟩ (.int .i64 (k+3*j+1))).setCell ⟨g,j*3+2,none⟩ (.int .i64 (k+3*j+1+1))).cell? ⟨g,o,none⟩=some v):=fun o ho=>by
    obtain ⟨v,hv⟩:=HC.out o ho
    have i0:(wr.cell? ⟨g,o,none⟩).isSome=true:=by rw [hv];rfl
    have i1:=isSome_setQ wr g (j*3) o (.int .i64 (k+3*j)) i0
    have i2:=isSome_setQ (wr.setCell ⟨g,j*3,none⟩ (.int .i64 (k+3*j))) g (j*3+1) o (.int .i64 (k+3*j+1)) i1
    have i3:=isSome_setQ ((wr.setCell ⟨g,j*3,none⟩ (.int .i64 (k+3*j))).setCell ⟨g,j*3+1,none⟩ (.int .i64 (k+3*j+1))) g (j*3+2) o (.int .i64 (k+3*j+1+1)) i2
    exact Option.isSome_iff_exists.mp i3
   have hmk2:Hid (MkQ (((wr.setCell ⟨g,j*3,none⟩ (.int .i64 (k+3*j))).setCell ⟨g,j*3+1,none⟩ (.int .i64 (k+3*j+1))).setCell ⟨g,j*3+2,none⟩ (.int .i64 (k+3*j+1+1))) g (j+1) k):=by
    intro i hi
    have e:∀ (o o':Nat) (x:Value) (a:World),o≠o'→(a.setCell ⟨g,o,none⟩ x).cell? ⟨g,o',none⟩=a.cell? ⟨g,o',none⟩:=fun o o' x a h=>World.cell?_setCell_other _ _ _ _ (fun e=>by injection e with _ e;exact h e)
    by_cases hij:i=j
    ·subst hij
     refine ⟨?_,?_,?_⟩
     ·rw [e _ _ _ _ (by omega),e _ _ _ _ (by omega)];rw [World.cell?_setCell_same _ _ _ (u:=v0) (by exact h0)]
     ·rw [e _ _ _ _ (by omega)];rw [World.cell?_setCell_same _ _ _ (u:=v1) (by rw [e _ _ _ _ (by omega)];exact h1)]
     ·rw [World.cell?_setCell_same _ _ _ (u:=v2) (by rw [e _ _ _ _ (by omega),e _ _ _ _ (by omega)];exact h2)]
    ·have hm:=hmk.out i (by omega)
     refine ⟨?_,?_,?_⟩
     ·rw [e _ _ _ _ (by omega),e _ _ _ _ (by omega),e _ _ _ _ (by omega)];exact hm.1
     ·rw [e _ _ _ _ (by omega),e _ _ _ _ (by omega),e _ _ _ _ (by omega)];exact hm.2.1
     ·rw [e _ _ _ _ (by omega),e _ _ _ _ (by omega),e _ _ _ _ (by omega)];exact hm.2.2
   have y1:IntKind.i64.wrap (k+3*(j:Int)+1)=k+3*j+1:=IntWalk.i64_in _ (by omega)
   have y2:IntKind.i64.wrap (k+3*(j:Int)+1+1)=k+3*j+1+1:=IntWalk.i64_in _ (by omega)
   have y3:IntKind.i64.wrap (k+3*(j:Int)+1+1+1)=k+3*((j+1:Nat):Int):=by rw [IntWalk.i64_in _ (by omega)];omega
   clear hmk HC hf hfr hO
   go_wp2_with fail
   go_roundw
   case rel=>exact ⟨j+1,by omega,by go_num,by first | go_num | (congr 1;omega),hO2,HC2,hmk2⟩
   case measure=>simp [intOf];omega
  ·have hjn:j=n:=by omega
   subst hjn
   go_wp2_with fail
   go_ret
   exact ⟨rfl,hO.out,hmk.out⟩
theorem heldIssueS_row (n c g:Nat) (k:Int) (w:World) (hn:n≤c) (hn2:n≤5000) (hc:c≤maxLen) (hk:0≤k) (hk2:k≤1000) (hgl:g<w.heap.size) (hcell:MkQ w g n k) :
  Calls Tryz.prog 22 #[.slice (some ⟨g,0,none⟩) n c,.int .i64 k] w fun E w'=>E=.returned (.int .i64 (k+3*n))∧Below w.heap.size w w':=by
 unfold maxLen at hc
 have HC:=Lib.hid hcell
 clear hcell
 go_enter Tryz.func22,Tryz.ntmps22
 go_wp2_with fail
 go_loopw [1,5] (fun q i wr=>∃ j:Nat,j≤n∧i=.int .i64 j∧q=.int .i64 (k+3*j)∧Hid (Below w.heap.size w wr)) (fun _ i _=>n-(intOf i).toNat)
 case atStart=>exact ⟨0,Nat.zero_le _,rfl,by simp,Below.refl _ _⟩
 case round =>
  obtain ⟨j,hj,rfl,rfl,HB⟩:=hrel
  by_cases hlt:j<n
  ·have hm:=HC.out j hlt
   obtain ⟨h0,h1,h2⟩:=hm
   have h0:=(HB.out.cell (p:=⟨g,j*3,none⟩) hgl).trans h0
   have h1:=(HB.out.cell (p:=⟨g,j*3+1,none⟩) hgl).trans h1
   have h2:=(HB.out.cell (p:=⟨g,j*3+2,none⟩) hgl).trans h2
   have y1:IntKind.i64.wrap (k+3*(j:Int)+1)=k+3*j+1:=IntWalk.i64_in _ (by omega)
   have y2:IntKind.i64.wrap (k+3*(j:Int)+1+1)=k+3*j+1+1:=IntWalk.i64_in _ (by omega)
   have y3:IntKind.i64.wrap (k+3*(j:Int)+1+1+1)=k+3*((j+1:Nat):Int):=by rw [IntWalk.i64_in _ (by omega)];omega
   go_wp2_with fail
   go_roundw
   case rel=>exact ⟨j+1,by omega,by go_num,by first | go_num | (congr 1;omega),HB⟩
   case measure=>simp [intOf];omega
  ·have hjn:j=n:=by omega
   subst hjn
   go_wp2_with fail
   go_ret
   exact ⟨rfl,HB.out⟩
def MarkedQ (w:World) (v:Value) (n:Nat) (k:Int):Prop :=
 (n=0∧∃ A c,v=.slice A 0 c)∨∃ g c,v=.slice (some ⟨g,0,none⟩) n c∧n≤c∧c≤maxLen∧g<w.heap.size∧MkQ w g n k
theorem MarkedQ.below {w w':World} {v:Value} {n:Nat} {k:Int} (h:MarkedQ w v n k) (hb:Below w.heap.size w w'):MarkedQ w' v n k:=by
 rcases h with h | ⟨g,c,h1,h2,h3,h4,h5⟩
 ·exact .inl h
 ·refine .inr ⟨g,c,h1,h2,h3,Nat.lt_of_lt_of_le h4 hb.size,fun j hj=>?_⟩
  have hc:=h5 j hj
  exact ⟨(hb.cell h4).trans hc.1,(hb.cell h4).trans hc.2.1,(hb.cell h4).trans hc.2.2⟩
theorem markIssueS_val (B:Nat) (v:Value) (l:List IsD) (k:Int) (w:World) (h:RowQ w B v l) (hn:l.length≤5000) (hk:0≤k) (hk2:k≤1000) :
  Calls Tryz.prog 21 #[v,.int .i64 k] w fun E w'=>E=.returned (.int .i64 (k+3*l.length))∧MarkedQ w' v l.length k∧Below B w w':=by
 rcases h.2 with ⟨hv,h0⟩ | ⟨g,cap,cur,hv,h2,h3,h4,h5,h6,h7⟩
 ·subst hv
  refine (markIssueS_nil none 0 k w).mono ?_
  rintro E w' ⟨rfl,rfl⟩
  exact ⟨by rw [h0];simp,.inl ⟨h0,none,0,rfl⟩,Below.refl _ _⟩
 ·have hcell:∀ o,o<l.length*3→∃ z,w.cell? ⟨g,o,none⟩=some z:=fun o ho=>⟨_,by
   rw [cB h3,Array.getElem?_eq_getElem (by rw [h6];have:=Nat.mul_le_mul_right 3 h4;omega)]⟩
  subst hv
  refine (markIssueS_row l.length cap g k w h4 hn h5 hk hk2 hcell (fun o=>fB h3 o)).mono ?_
  rintro E w' ⟨rfl,hM,hc⟩
  exact ⟨rfl,.inr ⟨g,cap,rfl,h4,h5,by rw [hM.size];exact heap_lt h3,hc⟩,⟨hM.os,hM.tape,hM.output,Nat.le_of_eq hM.size.symm,fun k hk=>hM.block k (by omega)⟩⟩
theorem heldIssueS_val (v:Value) (n:Nat) (k:Int) (w:World) (h:MarkedQ w v n k) (hn:n≤5000) (hk:0≤k) (hk2:k≤1000) :
  Calls Tryz.prog 22 #[v,.int .i64 k] w fun E w'=>E=.returned (.int .i64 (k+3*n))∧Below w.heap.size w w':=by
 rcases h with ⟨h0,A,c,hv⟩ | ⟨g,c,hv,h2,h3,h4,h5⟩
 ·subst hv h0
  refine (heldIssueS_nil A c k w).mono ?_
  rintro E w' ⟨rfl,rfl⟩
  exact ⟨by simp,Below.refl _ _⟩
 ·subst hv
  exact heldIssueS_row n c g k w h2 hn h3 hk hk2 h4 h5
end Go.Proofs.YtedkkphogeealaaGreatDoor
