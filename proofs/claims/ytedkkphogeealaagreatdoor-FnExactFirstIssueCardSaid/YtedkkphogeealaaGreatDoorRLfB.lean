/- The program's checkerOf. -/
import Derived.Test.YtedkkphogeealaaGreatDoorRCfA0
import Derived.Test.YtedkkphogeealaaGreatDoorRAlwaysI0
import Derived.Test.YtedkkphogeealaaGreatDoorRLimB
import Derived.Test.YtedkkphogeealaaGreatDoorRLfA
import Derived.Test.YtedkkphogeealaaGreatDoorRMem
import Derived.Test.YtedkkphogeealaaGreatDoorRBits
import Derived.Test.YtedkkphogeealaaGreatDoorRFloG
import Derived.Deep.LoopGhost
import Derived.RangeFuncNested
import Derived.RangeFuncBound
import Derived.RangeFuncCalls
import Derived.RangeFuncLeaves
import Derived.Shelf.Abstract
import Derived.Shelf.RegionOpen
import Derived.WalkKit
import Derived.OwnWalkIn
import Derived.TacticsInMore
import Derived.LoopNIn
import Derived.LoopIn
import Derived.Test.YtedkkphogeealaaGreatDoorRStmtY
namespace Go.Proofs.YtedkkphogeealaaGreatDoor
open Go.RowKit Go.Deep
set_option linter.unusedVariables false
set_option maxRecDepth 100000
set_option maxHeartbeats 8000000
def placesK:List (Nat × Nat):=[(0,1),(1,61)]
def zeroKc:Array Value:=#[.pointer none]++Array.replicate 61 (.int .u64 0)
theorem built_ck (p x:Value):Tryz.prog.built 127 [(0,p),(1,x)]=Instr.fill (placesK.toArray[·]?) zeroKc [(0,p),(1,x)]:=by kernel_rfl
theorem zeroK_size:zeroKc.size=62:=by simp [zeroKc]
noncomputable def newK (L:Nat) (xs:Array Value):Array Value:=setN (setN zeroKc 0 [.pointer (some ⟨L,0,none⟩)]) 1 xs.toList
theorem newK_zero (L:Nat) (xs:Array Value) (hx:xs.size=61):(newK L xs)[0]?=some (.pointer (some ⟨L,0,none⟩)):=by
 unfold newK
 rw [setN_out (by rw [setN_size,zeroK_size];simp [hx]) (.inl (by omega)),setN_in (by rw [zeroK_size];simp) (by omega) (by simp)]
 rfl
theorem newK_at (L:Nat) (xs:Array Value) (hx:xs.size=61) {i:Nat} (hi:i<61):(newK L xs)[1+i]?=xs[i]?:=by
 unfold newK
 rw [setN_in (by rw [setN_size,zeroK_size];simp [hx]) (by omega) (by simp [hx];omega),show 1+i-1=i from by omega]
 simp
theorem build_ck (L:Nat) (xs:Array Value) (hx:xs.size=61) (w:World):(Instr.build 127 #[(0,.pointer (some ⟨L,0,none⟩)),(1,.agg xs)]).run Tryz.prog w=.ok (.agg (newK L xs)) w:=by
 refine run_build w 127 _ _ ?_
 show Tryz.prog.built 127 [(0,.pointer (some ⟨L,0,none⟩)),(1,.agg xs)]=_
 rw [built_ck]
 have hz:=zeroK_size
 rw [fill_one (off:=0) (v:=.pointer (some ⟨L,0,none⟩)) rfl (by rw [hz];show 0+1≤62;omega)]
 rw [fill_one (off:=1) (v:=.agg xs) (by show some (1,61)=some (1,xs.size);rw [hx]) (by rw [setN_size,hz];show 1+xs.size≤62;omega)]
 rfl
structure Ckr (ts:List Int) (ns:List Nd) (C F hi:Nat) (A:Option Addr) (c:Nat) (ah bk:Nat→Nat) (L:Nat) (mb lv:Nat→Nat) (kn:Nat→Nat→Nat) (K:Nat) (aw:Nat→Nat) (w:World):Prop where
 ld:Lend ts ns C F hi A c ah bk L mb lv kn w
 row:∃ cs,w.heap[K]?=some (.cells cs 127 (0,0))∧cs[0]?=some (.pointer (some ⟨L,0,none⟩))∧∀ i,i<61→cs[1+i]?=some (.int .u64 (aw i:Int))
 al:FloIn (fun a b=>eN ns a b) 0 (fun (_:Nat)=>True) (fun k v=>usesN ts ns k v 2∧¬ setsN ns k v) (fun k v=>setsN ns k v) ns.length true aw (fun _=>False)
theorem Ckr.keep {ts:List Int} {ns:List Nd} {C F hi:Nat} {A:Option Addr} {c:Nat} {ah bk:Nat→Nat} {L:Nat} {mb lv:Nat→Nat} {kn:Nat→Nat→Nat} {K:Nat} {aw:Nat→Nat} {a b:World} (h:Ckr ts ns C F hi A c ah bk L mb lv kn K aw a) (hb:Below a.heap.size a b):Ckr ts ns C F hi A c ah bk L mb lv kn K aw b:=by
 obtain ⟨cs,h1,h2,h3⟩:=h.row
 exact ⟨h.ld.keep hb,⟨cs,(hb.block _ (heap_lt h1)).trans h1,h2,h3⟩,h.al⟩
def CkrPost (ts:List Int) (ds:List Nd) (w:World) (E:Ending) (w':World):Prop :=
 ∃ (C F hi:Nat) (A:Option Addr) (c:Nat) (ah bk:Nat→Nat) (L:Nat) (mb lv:Nat→Nat) (kn:Nat→Nat→Nat) (K:Nat) (aw:Nat→Nat),E=.returned (.tuple #[.pointer (some ⟨K,0,none⟩),.bool true])∧Ckr ts ds C F hi A c ah bk L mb lv kn K aw w'∧w.heap.size≤K∧Below w.heap.size w w'
theorem checkerOf_yes (ts:List Int) (s:Sts) (At As:Option Addr) (ct cs:Nat) (w:World) (hok:validB ts s=true) (hT:IntsV w 0 w.heap.size ts At ct) (hR:RepV w 0 w.heap.size s As cs)
  (hTab:TabAt 0 Lib.deBruijn64tab w) (hg:0<w.heap.size) :
  Calls Tryz.prog 40 #[.agg #[.slice At ts.length ct,.slice As s.len cs]] w (CkrPost ts (progPts s) w):=by
 have hb0:=(Below.refl w.heap.size w).alloc (Nat.le_refl _) (.cells #[.slice At ts.length ct,.slice As s.len cs] 30)
 have hz0:(w.alloc (.cells #[.slice At ts.length ct,.slice As s.len cs] 30)).heap.size=w.heap.size+1:=by simp
 have HZ:=Lib.hid hz0
 have hS:=lendingOf_yes ts s At As ct cs _ hok (hT.below hb0 (by simp)) (hR.below hb0 (by simp)) (tab_below hTab hg hb0) (by rw [hz0];omega)
 have hA:=progPts_allTyped hok
 have hD:=progPts_ok s (valid_ok hok).2.1
 generalize progPts s=ds at *
 generalize s.npts=q at hD
 have HD:=Lib.hid hD
 have HA:=Lib.hid hA
 clear hz0 hok hA hD hT hR
 go_enter Tryz.func40,Tryz.ntmps40
 go_wp2_with fail
 refine hS.mono ?_
 rintro E w1 ⟨C,F,hi,A2,c2,ah,bk,L,mb,lv,kn,rfl,hl,hLb,hb1⟩
 rw [HZ.out] at hb1 hLb
 have HB1:=Lib.hid (hb0.trans (hb1.mono (by omega)))
 have HL1:=Lib.hid hl
 have hfc:=hl.ln.flCell
 have hal:=flowAll.analysis_any ts ds q C F hi A2 c2 ah bk w1 hl.ln.fl HD.out HA.out (tab_below hTab hg HB1.out) (by have:=HB1.out.size;omega)
 clear hl hLb hb1 hS hb0
 go_wp2_with fail
 refine hal.mono ?_
 rintro E w2 ⟨xs,aw,rfl,hxz,hxc,hxf,hb2⟩
 have HL2:=Lib.hid (HL1.out.keep hb2)
 have HB2:=Lib.hid (HB1.out.trans (hb2.mono HB1.out.size))
 have HXF:=Lib.hid hxf
 have HBLD:=Lib.hid (build_ck L xs hxz)
 have hba:=(Below.refl w2.heap.size w2).alloc (Nat.le_refl _) (.cells (newK L xs) 127)
 have HBA:=Lib.hid (HB2.out.trans (hba.mono HB2.out.size))
 have HCK:Hid (Ckr ts ds C F hi A2 c2 ah bk L mb lv kn w2.heap.size aw (w2.alloc (.cells (newK L xs) 127))):=Lib.hid ⟨HL2.out.keep hba,⟨_,heap_alloc_new w2 _,newK_zero L xs hxz,fun i hi=>(newK_at L xs hxz hi).trans (hxc i hi)⟩,hxf⟩
 have HWS:=Lib.hid HB2.out.size
 clear hal hfc hxc hxf hb2 hba hxz
 go_wp2_with (first | ((with_reducible show wpList _ _ _ _ _ _);refine wpList_build_as rfl 127 _ rfl #[(0,.pointer (some ⟨L,0,none⟩)),(1,.agg xs)] (by first | kernel_rfl | rfl | (simp;done)) (.agg (newK L xs)) ?_ ?_;exact HBLD.out _))
 go_ret2
 exact ⟨C,F,hi,A2,c2,ah,bk,L,mb,lv,kn,_,aw,rfl,HCK.out,HWS.out,HBA.out⟩
theorem checkerOf_no (ts:List Int) (s:Sts) (At As:Option Addr) (ct cs:Nat) (w:World) (hv:validB ts s=false) (hT:IntsV w 0 w.heap.size ts At ct) (hR:RepV w 0 w.heap.size s As cs) :
  Calls Tryz.prog 40 #[.agg #[.slice At ts.length ct,.slice As s.len cs]] w fun E w'=>E=.returned (.tuple #[.pointer none,.bool false])∧Below w.heap.size w w':=by
 have hb0:=(Below.refl w.heap.size w).alloc (Nat.le_refl _) (.cells #[.slice At ts.length ct,.slice As s.len cs] 30)
 have hz0:(w.alloc (.cells #[.slice At ts.length ct,.slice As s.len cs] 30)).heap.size=w.heap.size+1:=by simp
 have HZ:=Lib.hid hz0
 have hS:=lendingOf_no ts s At As ct cs _ hv (hT.below hb0 (by simp)) (hR.below hb0 (by simp))
 clear hz0
 go_enter Tryz.func40,Tryz.ntmps40
 go_wp2_with fail
 refine hS.mono ?_
 rintro E w1 ⟨rfl,hb1⟩
 rw [HZ.out] at hb1
 have hb:Below w.heap.size w w1:=hb0.trans (hb1.mono (by omega))
 clear hb1 hS
 go_wp2_with fail
 go_ret2
 exact ⟨rfl,hb⟩
theorem RowI.asd {w w':World} {B:Nat} {v:Value} {l:List Int} (h:RowI w B v l) (ha:Asd w w'):RowI w' B v l:=by
 refine ⟨h.1,?_⟩
 rcases h.2 with h | ⟨g,cap,cur,h1,h2,h3,h4⟩
 ·exact .inl h
 ·exact .inr ⟨g,cap,cur,h1,h2,ha.blk _ _ _ h3 (by decide),h4⟩
theorem RowI.atQ {w:World} {B n c q:Nat} {A:Option Addr} {l:List Int} {x:Int} (h:RowI w B (.slice A n c) l) (hq:l[q]?=some x):∃ g,A=some ⟨g,0,none⟩∧g<w.heap.size∧n≤c∧c≤maxLen∧w.cell? ⟨g,q,none⟩=some (.int .i64 x):=by
 rcases h.2 with ⟨h1,h2⟩ | ⟨g,cap,cur,h1,h2,h3,h4,h5,h6,h7⟩
 ·have:=(List.getElem?_eq_some_iff.mp hq).1
  omega
 ·injection h1 with e1 e2 e3
  subst e1 e3
  have hc:=World.ownsRow.cells h (g:=g) rfl q (.int .i64 x) (by rw [List.getElem?_map,hq];rfl)
  rw [add_block,Nat.zero_add] at hc
  exact ⟨g,rfl,heap_lt h3,by omega,h5,hc⟩
def issB (i:Nat) (kd:Nat→Int) (l:List Nat):List IsD:=l.map fun v=>⟨(i:Int),kd v,(v:Int)⟩
theorem issB_length (i:Nat) (kd:Nat→Int) (l:List Nat):(issB i kd l).length=l.length:=by simp [issB]
theorem issB_take {i:Nat} {kd:Nat→Int} {l:List Nat} {q v:Nat} (h:l[q]?=some v):issB i kd (l.take (q+1))=issB i kd (l.take q)++[⟨(i:Int),kd v,(v:Int)⟩]:=by
 unfold issB
 rw [List.take_add_one,h]
 simp
theorem kdF_bit (ds:List Nd) (v:Nat):kdF ds v=if (bitsK (isUniq ds) ds.length).testBit v=true then 3 else 2:=by
 rw [bitsK_bit]
 cases h:ds[v]? with
 | none=>simp [kdF,isUniq,h]
 | some d =>
  have hv:=(List.getElem?_eq_some_iff.mp h).1
  rw [kdF_at h,isUniq_at h]
  simp [hv]
theorem issuesAt_any (ts:List Int) (ds:List Nd) (q0 C F hi:Nat) (A:Option Addr) (c:Nat) (ah bk:Nat→Nat) (L:Nat) (mb lv:Nat→Nat) (kn:Nat→Nat→Nat) (K:Nat) (aw:Nat→Nat) (k:Nat) (d:Nd) (w:World) (h:Ckr ts ds C F hi A c ah bk L mb lv kn K aw w) (hD:PtsOk q0 ds) (hA:AllTyped ts ds) (hd:ds[k]?=some d) (hTab:TabAt 0 Lib.deBruijn64tab w) (hg:0<w.heap.size) :
  Calls Tryz.prog 72 #[.pointer (some ⟨K,0,none⟩),.int .i64 k] w fun E w'=>∃ v z1 z2,E=.returned v∧RowQ w' w.heap.size v (issB k (fun _=>1) (bitsOf z1)++issB k (kdF ds) (bitsOf z2))∧(∀ i,i<64→z1.testBit i=(((effD ts d).r|||(effD ts d).t|||(effD ts d).c).testBit i && !(aw k).testBit i))∧(∀ i,z2.testBit i=true↔(∃ a∈accD ts d ((mb k).testBit d.x.toNat),(toucN ds ds.length a).testBit i=true)∧(∃ v,v<6∧(lv k).testBit v=true∧¬ lostN ts ds k v∧(kn k v).testBit i=true)∧(kn k 6).testBit i=true)∧z2<2305843009213693952∧Below w.heap.size w w':=by
 obtain ⟨i0,hi0,hzz0,hzz1,hzz2⟩:=info_parts Tryz.infoIssue
 have HI:=Lib.hid hi0
 have HZ0:=Lib.hid hzz0
 have HZ1:=Lib.hid hzz1
 have HZ2:=Lib.hid hzz2
 have hkl:=(List.getElem?_eq_some_iff.mp hd).1
 have hle:=h.ld.ln.fl.gr.le
 have hk61:k<61:=by omega
 obtain ⟨hk0,hk1⟩:(0:Int)≤(k:Int)∧(k:Int)<61:=by omega
 have hef:=effD_ok hA.1 (hA.2 k d hd)
 have hul:(effD ts d).r|||(effD ts d).t|||(effD ts d).c<64:=Nat.or_lt_two_pow (n:=6) (Nat.or_lt_two_pow (n:=6) hef.rlt hef.tlt) hef.clt
 have hakl:=h.al.lt k
 obtain ⟨z1,hz,hzl,hzb⟩:=bits_andNot_u64 ((effD ts d).r|||(effD ts d).t|||(effD ts d).c) (aw k) (by omega) (by omega)
 have HUS:=Lib.hid (uses_any (effD ts d).r (effD ts d).t (effD ts d).c (effD ts d).s hef.rlt hef.tlt hef.clt)
 have HLS:Hid (∀ (z:Nat),z<18446744073709551616→∀ W:World,Below w.heap.size w W→Calls Tryz.prog 96 #[.int .u64 z] W fun E w'=>∃ v,E=.returned v∧RowI w' W.heap.size v (intsOf z)∧Below W.heap.size W w'):=Lib.hid (fun z hz W hW=>setList_any z hz W (tab_below hTab hg hW) (Nat.lt_of_lt_of_le hg hW.size))
 have HCF:Hid (∀ W:World,Ckr ts ds C F hi A c ah bk L mb lv kn K aw W→Below w.heap.size w W→Calls Tryz.prog 105 #[.pointer (some ⟨L,0,none⟩),.int .i64 k] W _):=Lib.hid (fun W hW hbW=>conflicts_any ts ds q0 C F hi A c ah bk L mb lv kn k d W hW.ld hD hA hd (tab_below hTab hg hbW) (Nat.lt_of_lt_of_le hg hbW.size))
 obtain ⟨kcs,hkc1,hkc2,hkc3⟩:=h.row
 have HKB:=Lib.hid hkc1
 have HK0:Hid (w.cell? ⟨K,0,none⟩=some (.pointer (some ⟨L,0,none⟩))):=Lib.hid ((cB hkc1 0).trans hkc2)
 have HKA:Hid (w.cell? ⟨K,1+k,none⟩=some (.int .u64 (aw k:Int))):=Lib.hid ((cB hkc1 (1+k)).trans (hkc3 k hk61))
 have HKL:=Lib.hid (heap_lt hkc1)
 have HL0:=Lib.hid h.ld.ln.flCell
 have HLL0:=Lib.hid h.ld.ln.ltW
 have HEF:=Lib.hid (h.ld.ln.fl.effCell hd)
 have HFL0:Hid (F<w.heap.size):=Lib.hid (by obtain ⟨cs,h1,_⟩:=h.ld.ln.fl.row;exact heap_lt h1)
 have HZB:=Lib.hid hz
 have HZ1L:=Lib.hid hzl
 have HZ1B:=Lib.hid hzb
 have HH:=Lib.hid h
 clear hi0 hzz0 hzz1 hzz2 hef hul hakl hz hzl hzb hkc1 hkc2 hkc3 h hA hD hTab hg hd
 go_enter Tryz.func72,Tryz.ntmps72
 go_upto_region 2 with fail
 refine wp_region_held_drew (S:=(fun w9=>Below w.heap.size w w9)) (by kernel_rfl) (Below.refl _ _).drew (fun hHeld=>?_)
 generalize hwd:w.drew=wd at *
 clear hwd
 refine tk (i:=0) (v:=.pointer (some ⟨K,0,none⟩)) rfl (Or.inl ⟨by rfl,fun w9 hSw=>by go_simp⟩) hHeld ?_
 try simp only [Act.put,sA,sB,sC]
 refine tk (i:=1) (v:=.pointer (some ⟨K,0,none⟩)) rfl (Or.inl ⟨by rfl,fun w9 hSw=>by go_simp⟩) hHeld ?_
 try simp only [Act.put,sA,sB,sC]
 refine tk (i:=2) (v:=.pointer (some ⟨K,0,none⟩)) rfl (Or.inl ⟨by rfl,fun w9 hSw=>by go_simp⟩) hHeld ?_
 try simp only [Act.put,sA,sB,sC]
 refine tk (i:=3) (v:=.pointer (some ⟨L,0,none⟩)) rfl (Or.inl ⟨by rfl,fun w9 hSw=>by have h9:=(hSw.cell (p:=⟨K,0,none⟩) HKL.out).trans HK0.out;go_simp⟩) hHeld ?_
 try simp only [Act.put,sA,sB,sC]
 refine tk (i:=4) (v:=.pointer (some ⟨L,0,none⟩)) rfl (Or.inl ⟨by rfl,fun w9 hSw=>by go_simp⟩) hHeld ?_
 try simp only [Act.put,sA,sB,sC]
 refine tk (i:=5) (v:=.pointer (some ⟨L,0,none⟩)) rfl (Or.inl ⟨by rfl,fun w9 hSw=>by go_simp⟩) hHeld ?_
 try simp only [Act.put,sA,sB,sC]
 refine tk (i:=6) (v:=.pointer (some ⟨F,0,none⟩)) rfl (Or.inl ⟨by rfl,fun w9 hSw=>by have h9:=(hSw.cell (p:=⟨L,0,none⟩) HLL0.out).trans HL0.out;go_simp⟩) hHeld ?_
 try simp only [Act.put,sA,sB,sC]
 refine tk (i:=7) (v:=.int .i64 (k:Int)) rfl (Or.inl ⟨by rfl,fun w9 hSw=>by go_simp⟩) hHeld ?_
 try simp only [Act.put,sA,sB,sC]
 refine tk (i:=8) (v:=.pointer (some ⟨F,0,none⟩)) rfl (Or.inl ⟨by rfl,fun w9 hSw=>by go_simp⟩) hHeld ?_
 try simp only [Act.put,sA,sB,sC]
 refine tk (i:=9) (v:=.pointer (some ⟨F,2,none⟩)) rfl (Or.inl ⟨by rfl,fun w9 hSw=>by go_simp⟩) hHeld ?_
 try simp only [Act.put,sA,sB,sC]
 refine tk (i:=10) (v:=.pointer (some ⟨F,2+k*4,none⟩)) rfl (Or.inl ⟨by rfl,fun w9 hSw=>by go_simp⟩) hHeld ?_
 try simp only [Act.put,sA,sB,sC]
 refine tk (i:=11) (v:=.agg #[.int .u64 ((effD ts d).r:Int),.int .u64 ((effD ts d).t:Int),.int .u64 ((effD ts d).c:Int),.int .u64 ((effD ts d).s:Int)]) rfl (Or.inl ⟨by rfl,fun w9 hSw=>by have h9:=(hSw.cell (p:=⟨F,2+k*4,none⟩) HFL0.out).trans HEF.out.1;have h8:=(hSw.cell (p:=⟨F,2+k*4+1,none⟩) HFL0.out).trans HEF.out.2.1;have h7:=(hSw.cell (p:=⟨F,2+k*4+2,none⟩) HFL0.out).trans HEF.out.2.2.1;have h6:=(hSw.cell (p:=⟨F,2+k*4+3,none⟩) HFL0.out).trans HEF.out.2.2.2;go_simp⟩) hHeld ?_
 try simp only [Act.put,sA,sB,sC]
 refine tk (i:=13) (v:=.pointer (some ⟨K,0,none⟩)) rfl (Or.inl ⟨by rfl,fun w9 hSw=>by go_simp⟩) hHeld ?_
 try simp only [Act.put,sA,sB,sC]
 refine tk (i:=14) (v:=.int .i64 (k:Int)) rfl (Or.inl ⟨by rfl,fun w9 hSw=>by go_simp⟩) hHeld ?_
 try simp only [Act.put,sA,sB,sC]
 refine tk (i:=15) (v:=.pointer (some ⟨K,0,none⟩)) rfl (Or.inl ⟨by rfl,fun w9 hSw=>by go_simp⟩) hHeld ?_
 try simp only [Act.put,sA,sB,sC]
 refine tk (i:=16) (v:=.pointer (some ⟨K,1,none⟩)) rfl (Or.inl ⟨by rfl,fun w9 hSw=>by go_simp⟩) hHeld ?_
 try simp only [Act.put,sA,sB,sC]
 refine tk (i:=17) (v:=.pointer (some ⟨K,1+k,none⟩)) rfl (Or.inl ⟨by rfl,fun w9 hSw=>by go_simp⟩) hHeld ?_
 try simp only [Act.put,sA,sB,sC]
 refine tk (i:=18) (v:=.int .u64 (aw k:Int)) rfl (Or.inl ⟨by rfl,fun w9 hSw=>by have h9:=(hSw.cell (p:=⟨K,1+k,none⟩) HKL.out).trans HKA.out;go_simp⟩) hHeld ?_
 try simp only [Act.put,sA,sB,sC]
 refine tk (i:=22) (v:=.int .i64 0) rfl (Or.inl ⟨by rfl,fun w9 hSw=>by go_simp⟩) hHeld ?_
 try simp only [Act.put,sA,sB,sC]
 refine wpAnyH_ready (rs:=[12]) (by kernel_rfl) (by simp) ?_
 refine AllReadyH.cons (o:=⟨_,_,_,_,_,_⟩) rfl (fun K hK=>?_) AllReadyH.nil
 have hc9:=HUS.out wd
 go_simp
 refine hc9.mono ?_
 rintro E wu ⟨rfl,hbn⟩
 refine hK.out _ _ (hHeld.trans (hbn.mono hHeld.size)) (fun hHeld=>?_)
 clear hK K hc9 hbn
 refine tk (i:=19) (v:=.int .u64 (z1:Int)) rfl (Or.inl ⟨by rfl,fun w9 hSw=>by have h9:=HZB.out;go_simp⟩) hHeld ?_
 try simp only [Act.put,sA,sB,sC]
 refine wpAnyH_ready (rs:=[20]) (by kernel_rfl) (by simp) ?_
 refine AllReadyH.cons (o:=⟨_,_,_,_,_,_⟩) rfl (fun K hK=>?_) AllReadyH.nil
 have hc9:=HLS.out z1 HZ1L.out wu hHeld
 go_simp
 refine hc9.mono ?_
 rintro E wl ⟨v1,rfl,hrow1,hbn⟩
 obtain ⟨A1,c1,hv1⟩:=hrow1.slice
 subst hv1
 have HR1:=Lib.hid (hrow1.mono hHeld.size)
 clear hrow1
 refine hK.out _ _ (hHeld.trans (hbn.mono hHeld.size)) (fun hHeld=>?_)
 clear hK K hc9 hbn
 refine wpAnyH_ready (rs:=[21]) (by kernel_rfl) (by simp) ?_
 refine AllReadyH.cons (o:=⟨_,_,_,_,_,_⟩) rfl (fun K hK=>?_) AllReadyH.nil
 go_simp
 refine hK.out _ _ hHeld (fun hHeld=>?_)
 clear hK K
 refine wpAnyH_done (by kernel_rfl) ?_ _
 have HRN0:Hid (RowQ wl wl.heap.size (.slice none 0 0) (issB k (fun _=>1) ((bitsOf z1).take 0))):=Lib.hid (RowQ.nil wl wl.heap.size)
 have HBL0:=Lib.hid (Below.refl wl.heap.size wl)
 have HB0:=Lib.hid hHeld
 have HHL:=Lib.hid (HH.out.keep hHeld)
 have hl64:=bitsOf_length z1
 have hil:(intsOf z1).length=(bitsOf z1).length:=by simp [intsOf]
 have HRI:Hid (RowI wl w.heap.size (.slice A1 (bitsOf z1).length c1) (intsOf z1)):=Lib.hid (by rw [← hil];exact HR1.out)
 simp only [hil]
 clear hHeld hil HR1 HUS HEF HFL0 HZB HZ1L HKA
 obtain ⟨N1,hN1⟩:∃ N1,N1=(bitsOf z1).length:=⟨_,rfl⟩
 rw [← hN1] at HRI hl64
 simp only [← hN1]
 have HN1:=Lib.hid hN1
 clear hN1
 go_wp2_with fail
 go_loopg [5,33] N1 (fun gg ov j wr=>∃ q:Nat,j=.int .i64 q∧q≤N1∧gg=N1-q∧Hid (RowQ wr wl.heap.size ov (issB k (fun _=>1) ((bitsOf z1).take q)))∧Hid (Below wl.heap.size wl wr))
 case atStart=>exact ⟨0,rfl,Nat.zero_le _,rfl,HRN0,HBL0⟩
 case round =>
  clear HRN0 HBL0
  obtain ⟨q,rfl,hq,hgq,HR,HB⟩:=hrel
  have HGQ:=Lib.hid hgq
  clear hgq
  by_cases hlq:q<N1
  ·obtain ⟨hq0,hq1⟩:(0:Int)≤(q:Int)∧(q:Int)<(N1:Int):=by omega
   obtain ⟨v,hv⟩:∃ v,(bitsOf z1)[q]?=some v:=⟨(bitsOf z1)[q]'(by have:=HN1.out;omega),List.getElem?_eq_getElem _⟩
   obtain ⟨gi,hga,hgi,hgc,hgm,hcell⟩:=(HRI.out.below HB.out).atQ (q:=q) (x:=(v:Int)) (by simp [intsOf,hv])
   subst hga
   unfold maxLen at hgm
   have HV:=Lib.hid hv
   obtain ⟨LL,hLL⟩:∃ LL,LL=issB k (fun _=>1) ((bitsOf z1).take q):=⟨_,rfl⟩
   have HLL:Hid (LL.length≤4300):=Lib.hid (by
    rw [hLL,issB_length,List.length_take]
    omega)
   have HR9:Hid (RowQ wr wl.heap.size _ LL):=Lib.hid (HR.out.cast hLL.symm)
   have HA9:=Lib.hid (Asd.refl wr)
   have HB9:=HB
   have HLE:=Lib.hid hLL
   clear hLL HR HB hv
   go_wp2_with (at_builtin;refine wpList_append_lies _ rfl _ _ 39 rfl wl.heap.size 35 i0 (.agg #[.int .i64 0,.int .i64 0,.int .i64 0]) 3 24 Tryz.underlying39 HI.out HZ0.out HZ1.out HZ2.out rfl (by decide) _ _ _ rfl ((RowQ.own HR9.out).alloc _) ⟨_,0,none⟩ 1 1 [.int .i64 (k:Int),.int .i64 1,.int .i64 (v:Int)] rfl rfl ?xa1 ?xa2 (by decide) ?xa3 ?xa4 ?xa5 _ rfl ?_)
   try (case xa1=>exact news_cell (by simp) rfl)
   try (case xa2=>(intro u9 hu9;simp only [List.mem_cons,List.not_mem_nil,or_false] at hu9;rcases hu9 with rfl | rfl | rfl <;> rfl))
   try (case xa3=>(have:=HLL.out;unfold maxLen;omega))
   try (case xa4=>(have:=HLL.out;omega))
   try (case xa5=>(have:=HB9.out.size;first | omega | (simp;omega) | simp))
   intro g9 cap9 w9 hown9 hgg9 hat9 hlt9
   have hba:=(Below.refl wr.heap.size wr).alloc (Nat.le_refl _) (.cells #[.int .i64 (k:Int),.int .i64 1,.int .i64 (v:Int)] 35)
   have HST9:Hid (Asd wr w9):=Lib.hid (((Asd.refl wr).below hba).grown (HR9.out.below hba) hgg9)
   have HRN:=Lib.hid (RowQ.snoc (d:=⟨(k:Int),1,(v:Int)⟩) hown9)
   have HAN:=Lib.hid (HA9.out.trans HST9.out)
   have HBN:=Lib.hid ((HB9.out.trans (hba.mono HB9.out.size)).grown hgg9 (Nat.le_trans HB9.out.size hba.size) (fun j hj=>(RowQ.lt HR9.out j hj).1))
   clear hown9 hgg9 hat9 hlt9 hba
   replace HRN:=Lib.hid (HRN.out.cast (show _=issB k (fun _=>1) ((bitsOf z1).take (q+1)) by rw [issB_take HV.out,HLE.out]))
   clear HR9 HA9 HB9 hcell HST9 HAN
   go_wp2_with fail
   go_roundg (N1-(q+1))
   case measure=>rw [HGQ.out];omega
   case rel=>exact ⟨q+1,by go_num,by omega,rfl,HRN,HBN⟩
  ·have hqe:q=N1:=by omega
   subst hqe
   have HR2:=Lib.hid (HR.out.cast (show _=issB k (fun _=>1) (bitsOf z1) by rw [List.take_of_length_le (by have:=HN1.out;omega)]))
   have HB2:=Lib.hid (HB0.out.trans (HB.out.mono HB0.out.size))
   have HH2:=Lib.hid (HHL.out.keep HB.out)
   have q0:wr.cell? ⟨K,0,none⟩=some (.pointer (some ⟨L,0,none⟩)):=(HB2.out.cell HKL.out).trans HK0.out
   have hcf:=HCF.out wr HH2.out HB2.out
   clear HR
   go_wp2_with fail
   refine hcf.mono ?_
   rintro E w5 ⟨z2,rfl,hz2,hzb2,hb5⟩
   have HB5:=Lib.hid (HB.out.trans (hb5.mono HB.out.size))
   have HR5:=Lib.hid (HR2.out.below hb5)
   have HZL2:=Lib.hid hz2
   have HZB2:=Lib.hid hzb2
   have HBW5:=Lib.hid (HB2.out.trans (hb5.mono HB2.out.size))
   have hls:=HLS.out z2 (by omega) w5 HBW5.out
   clear hcf q0 hz2 hzb2 hb5 HB HB2 HH2 HR2
   go_wp2_with fail
   refine hls.mono ?_
   rintro E w6 ⟨v2,rfl,hrow2,hb6⟩
   obtain ⟨A2,c2,hv2⟩:=hrow2.slice
   subst hv2
   have hil:(intsOf z2).length=(bitsOf z2).length:=by simp [intsOf]
   obtain ⟨N2,hN2⟩:∃ N2,N2=(bitsOf z2).length:=⟨_,rfl⟩
   have hl2:=bitsOf_length z2
   have hl1:=bitsOf_length z1
   rw [hil,← hN2] at hrow2
   rw [← hN2] at hl2
   simp only [hil]
   simp only [← hN2]
   have HN2:=Lib.hid hN2
   have HRI2:=Lib.hid hrow2
   have HB6:=Lib.hid (HB5.out.trans (hb6.mono HB5.out.size))
   have HR6:Hid (RowQ w6 wl.heap.size _ (issB k (fun _=>1) (bitsOf z1)++issB k (kdF ds) ((bitsOf z2).take 0))):=Lib.hid ((HR5.out.below hb6).cast (by rw [List.take_zero];exact (List.append_nil _).symm))
   have HA6:=Lib.hid (Asd.refl w6)
   have HL1:Hid ((issB k (fun _=>1) (bitsOf z1)).length≤64):=Lib.hid (by rw [issB_length];exact hl1)
   clear hls hrow2 hb6 hil hN2 HB5 HR5 hl1
   go_wp2_with fail
   go_loopg [5,52] N2 (fun gg ov j wr=>∃ q:Nat,j=.int .i64 q∧q≤N2∧gg=N2-q∧Hid (RowQ wr wl.heap.size ov (issB k (fun _=>1) (bitsOf z1)++issB k (kdF ds) ((bitsOf z2).take q)))∧Hid (Asd w6 wr)∧Hid (Below wl.heap.size wl wr))
   case atStart=>exact ⟨0,rfl,Nat.zero_le _,rfl,HR6,HA6,HB6⟩
   case round =>
    clear HR6 HA6 HB6
    obtain ⟨q,rfl,hq,hgq,HR,HA,HB⟩:=hrel
    have HGQ:=Lib.hid hgq
    clear hgq
    by_cases hlq:q<N2
    ·obtain ⟨hq0,hq1⟩:(0:Int)≤(q:Int)∧(q:Int)<(N2:Int):=by omega
     obtain ⟨v,hv⟩:∃ v,(bitsOf z2)[q]?=some v:=⟨(bitsOf z2)[q]'(by have:=HN2.out;omega),List.getElem?_eq_getElem _⟩
     obtain ⟨gi,hga,hgi,hgc,hgm,hcell⟩:=(HRI2.out.asd HA.out).atQ (q:=q) (x:=(v:Int)) (by simp [intsOf,hv])
     subst hga
     unfold maxLen at hgm
     have hv64:v<64:=by
      have h9:=List.mem_of_getElem? hv
      rw [bitsOf_filter,List.mem_filter,List.mem_range] at h9
      exact h9.1
     have HV:=Lib.hid hv
     have hBw:=HB0.out.trans (HB.out.mono HB0.out.size)
     have q0:wr.cell? ⟨K,0,none⟩=some (.pointer (some ⟨L,0,none⟩)):=(hBw.cell HKL.out).trans HK0.out
     have q1:wr.cell? ⟨L,2,none⟩=some (.int .u64 (bitsK (isUniq ds) ds.length:Nat)):=(hBw.cell HLL0.out).trans HH.out.ld.ln.uniqCell
     have hhs:=bitHas_any (bitsK (isUniq ds) ds.length) v (Nat.lt_trans (bitsK_61 (isUniq ds) hle) (by decide)) hv64 wr
     obtain ⟨ub,hub⟩:∃ ub,(bitsK (isUniq ds) ds.length).testBit v=ub:=⟨_,rfl⟩
     rw [hub] at hhs
     have HUB:=Lib.hid hub
     obtain ⟨UQ,hUQ⟩:∃ UQ:Nat,UQ=bitsK (isUniq ds) ds.length:=⟨_,rfl⟩
     rw [← hUQ] at hhs q1
     obtain ⟨LL,hLL⟩:∃ LL,LL=issB k (fun _=>1) (bitsOf z1)++issB k (kdF ds) ((bitsOf z2).take q):=⟨_,rfl⟩
     have HLL:Hid (LL.length≤4300):=Lib.hid (by
      have h9:=HL1.out
      rw [hLL,List.length_append,issB_length k (kdF ds),List.length_take]
      omega)
     have HR9:Hid (RowQ wr wl.heap.size _ LL):=Lib.hid (HR.out.cast hLL.symm)
     have HA9:=HA
     have HB9:=HB
     have HLE:=Lib.hid hLL
     clear hLL HR HA HB hv hBw hub hUQ
     go_wp2_with fail
     refine hhs.mono ?_
     rintro E w7 ⟨rfl,hw7⟩
     have HR9:Hid (RowQ w7 wl.heap.size _ LL):=Lib.hid (by rw [hw7];exact HR9.out)
     have HA9:Hid (Asd w6 w7):=Lib.hid (by rw [hw7];exact HA9.out)
     have HB9:Hid (Below wl.heap.size wl w7):=Lib.hid (by rw [hw7];exact HB9.out)
     clear hhs q0 q1 hw7 hcell
     cases ub
     ·have HKD:Hid (kdF ds v=2):=Lib.hid (by rw [kdF_bit,HUB.out];rfl)
      go_wp2_with (at_builtin;refine wpList_append_lies _ rfl _ _ 39 rfl wl.heap.size 35 i0 (.agg #[.int .i64 0,.int .i64 0,.int .i64 0]) 3 24 Tryz.underlying39 HI.out HZ0.out HZ1.out HZ2.out rfl (by decide) _ _ _ rfl ((RowQ.own HR9.out).alloc _) ⟨_,0,none⟩ 1 1 [.int .i64 (k:Int),.int .i64 2,.int .i64 (v:Int)] rfl rfl ?xb1 ?xb2 (by decide) ?xb3 ?xb4 ?xb5 _ rfl ?_)
      try (case xb1=>exact news_cell (by simp) rfl)
      try (case xb2=>(intro u9 hu9;simp only [List.mem_cons,List.not_mem_nil,or_false] at hu9;rcases hu9 with rfl | rfl | rfl <;> rfl))
      try (case xb3=>(have:=HLL.out;unfold maxLen;omega))
      try (case xb4=>(have:=HLL.out;omega))
      try (case xb5=>(have:=HB9.out.size;first | omega | (simp;omega) | simp))
      intro g9 cap9 w9 hown9 hgg9 hat9 hlt9
      have hba:=(Below.refl w7.heap.size w7).alloc (Nat.le_refl _) (.cells #[.int .i64 (k:Int),.int .i64 2,.int .i64 (v:Int)] 35)
      have HST9:Hid (Asd w7 w9):=Lib.hid (((Asd.refl w7).below hba).grown (HR9.out.below hba) hgg9)
      have HRN:=Lib.hid (RowQ.snoc (d:=⟨(k:Int),2,(v:Int)⟩) hown9)
      have HAN:=Lib.hid (HA9.out.trans HST9.out)
      have HBN:=Lib.hid ((HB9.out.trans (hba.mono HB9.out.size)).grown hgg9 (Nat.le_trans HB9.out.size hba.size) (fun j hj=>(RowQ.lt HR9.out j hj).1))
      clear hown9 hgg9 hat9 hlt9 hba
      replace HRN:=Lib.hid (HRN.out.cast (show _=issB k (fun _=>1) (bitsOf z1)++issB k (kdF ds) ((bitsOf z2).take (q+1)) by rw [issB_take HV.out,HLE.out,HKD.out,List.append_assoc]))
      clear HR9 HA9 HB9 HST9
      go_wp2_with fail
      go_roundg (N2-(q+1))
      case measure=>rw [HGQ.out];omega
      case rel=>exact ⟨q+1,by go_num,by omega,rfl,HRN,HAN,HBN⟩
     ·have HKD:Hid (kdF ds v=3):=Lib.hid (by rw [kdF_bit,HUB.out];rfl)
      go_wp2_with (at_builtin;refine wpList_append_lies _ rfl _ _ 39 rfl wl.heap.size 35 i0 (.agg #[.int .i64 0,.int .i64 0,.int .i64 0]) 3 24 Tryz.underlying39 HI.out HZ0.out HZ1.out HZ2.out rfl (by decide) _ _ _ rfl ((RowQ.own HR9.out).alloc _) ⟨_,0,none⟩ 1 1 [.int .i64 (k:Int),.int .i64 3,.int .i64 (v:Int)] rfl rfl ?xc1 ?xc2 (by decide) ?xc3 ?xc4 ?xc5 _ rfl ?_)
      try (case xc1=>exact news_cell (by simp) rfl)
      try (case xc2=>(intro u9 hu9;simp only [List.mem_cons,List.not_mem_nil,or_false] at hu9;rcases hu9 with rfl | rfl | rfl <;> rfl))
      try (case xc3=>(have:=HLL.out;unfold maxLen;omega))
      try (case xc4=>(have:=HLL.out;omega))
      try (case xc5=>(have:=HB9.out.size;first | omega | (simp;omega) | simp))
      intro g9 cap9 w9 hown9 hgg9 hat9 hlt9
      have hba:=(Below.refl w7.heap.size w7).alloc (Nat.le_refl _) (.cells #[.int .i64 (k:Int),.int .i64 3,.int .i64 (v:Int)] 35)
      have HST9:Hid (Asd w7 w9):=Lib.hid (((Asd.refl w7).below hba).grown (HR9.out.below hba) hgg9)
      have HRN:=Lib.hid (RowQ.snoc (d:=⟨(k:Int),3,(v:Int)⟩) hown9)
      have HAN:=Lib.hid (HA9.out.trans HST9.out)
      have HBN:=Lib.hid ((HB9.out.trans (hba.mono HB9.out.size)).grown hgg9 (Nat.le_trans HB9.out.size hba.size) (fun j hj=>(RowQ.lt HR9.out j hj).1))
      clear hown9 hgg9 hat9 hlt9 hba
      replace HRN:=Lib.hid (HRN.out.cast (show _=issB k (fun _=>1) (bitsOf z1)++issB k (kdF ds) ((bitsOf z2).take (q+1)) by rw [issB_take HV.out,HLE.out,HKD.out,List.append_assoc]))
      clear HR9 HA9 HB9 HST9
      go_wp2_with fail
      go_roundg (N2-(q+1))
      case measure=>rw [HGQ.out];omega
      case rel=>exact ⟨q+1,by go_num,by omega,rfl,HRN,HAN,HBN⟩
    ·have hqe:q=N2:=by omega
     subst hqe
     have HR2:=Lib.hid ((HR.out.cast (show _=issB k (fun _=>1) (bitsOf z1)++issB k (kdF ds) (bitsOf z2) by rw [List.take_of_length_le (by have:=HN2.out;omega)])).mono HB0.out.size)
     have HBF:=Lib.hid (HB0.out.trans (HB.out.mono HB0.out.size))
     clear HR HB HA
     go_wp2_with fail
     go_ret
     exact ⟨_,z1,z2,rfl,HR2.out,HZ1B.out,HZB2.out,HZL2.out,HBF.out⟩
theorem issP_filter (i:Nat) (f:Nat→Bool) (kd:Nat→Int):∀ n,issP i f kd n=issB i kd ((List.range n).filter f)
 | 0=>rfl
 | n+1=>by
  rw [issP,issP_filter i f kd n,List.range_succ,List.filter_append]
  unfold issB
  rw [List.map_append]
  congr 1
  cases h:f n <;> simp [h]
theorem filter_cut {p f:Nat→Bool} {n:Nat}:∀ m,(∀ v,v<m→(p v=true↔v<n∧f v=true))→(List.range m).filter p=(List.range (min m n)).filter f
 | 0,_=>by simp
 | m+1,h=>by
  rw [List.range_succ,List.filter_append,filter_cut m (fun v hv=>h v (by omega))]
  by_cases hm:m<n
  ·have e:p m=f m:=Bool.eq_iff_iff.mpr ((h m (by omega)).trans ⟨fun x=>x.2,fun x=>⟨hm,x⟩⟩)
   rw [show min (m+1) n=m+1 by omega,show min m n=m by omega,List.range_succ,List.filter_append]
   congr 1
   cases h9:f m <;> simp [e,h9]
  ·have e:p m=false:=by
    cases e:p m
    ·rfl
    ·exact absurd ((h m (by omega)).mp e).1 hm
   rw [show min (m+1) n=min m n by omega]
   simp [e]
theorem issB_issP {i:Nat} {kd:Nat→Int} {z n:Nat} {f:Nat→Bool} (hn:n≤64) (hz:∀ v,v<64→(z.testBit v=true↔v<n∧f v=true)):issB i kd (bitsOf z)=issP i f kd n:=by
 rw [bitsOf_filter,filter_cut 64 hz,show min 64 n=n by omega,issP_filter]
open Classical in
noncomputable def unsD (ts:List Int) (ds:List Nd) (k v:Nat):Bool:=decide (UnsB ts ds k v)
open Classical in
noncomputable def cfD (LV:Nat→Nat→Prop) (ts:List Int) (ds:List Nd) (k j:Nat):Bool:=decide (LoCfL LV ts ds k j)
theorem unsD_iff (ts:List Int) (ds:List Nd) (k v:Nat):unsD ts ds k v=true↔UnsB ts ds k v:=@decide_eq_true_iff _ (Classical.propDecidable _)
theorem cfD_iff (LV:Nat→Nat→Prop) (ts:List Int) (ds:List Nd) (k j:Nat):cfD LV ts ds k j=true↔LoCfL LV ts ds k j:=@decide_eq_true_iff _ (Classical.propDecidable _)
noncomputable def issK (LV:Nat→Nat→Prop) (ts:List Int) (ds:List Nd) (k:Nat):List IsD:=issP k (unsD ts ds k) (fun _=>1) ts.length++issP k (cfD LV ts ds k) (kdF ds) ds.length
noncomputable def issN (LV:Nat→Nat→Prop) (ts:List Int) (ds:List Nd) (n:Nat):List IsD:=issA (unsD ts ds) (cfD LV ts ds) (kdF ds) ts.length ds.length n
theorem issN_succ (LV:Nat→Nat→Prop) (ts:List Int) (ds:List Nd) (n:Nat):issN LV ts ds (n+1)=issN LV ts ds n++issK LV ts ds n:=rfl
theorem issL_all (LV:Nat→Nat→Prop) (ts:List Int) (ds:List Nd):IssL LV ts ds (issN LV ts ds ds.length):=⟨_,_,rfl,fun i v _ _=>unsD_iff ts ds i v,fun i k _ _=>cfD_iff LV ts ds i k⟩
theorem issuesAt_val (ts:List Int) (ds:List Nd) (q0 C F hi:Nat) (A:Option Addr) (c:Nat) (ah bk:Nat→Nat) (L:Nat) (mb lv:Nat→Nat) (kn:Nat→Nat→Nat) (K:Nat) (aw:Nat→Nat) (k:Nat) (w:World) (h:Ckr ts ds C F hi A c ah bk L mb lv kn K aw w) (hD:PtsOk q0 ds) (hA:AllTyped ts ds) (hL:∀ k,k<ds.length→k≠0→∃ j,j<k∧eN ds j k) (hk:k<ds.length) (hTab:TabAt 0 Lib.deBruijn64tab w) (hg:0<w.heap.size) :
  Calls Tryz.prog 72 #[.pointer (some ⟨K,0,none⟩),.int .i64 k] w fun E w'=>∃ v,E=.returned v∧RowQ w' w.heap.size v (issK (LiveB ts ds) ts ds k)∧Below w.heap.size w w':=by
 obtain ⟨d,hd⟩:∃ d,ds[k]?=some d:=⟨ds[k],List.getElem?_eq_getElem hk⟩
 refine (issuesAt_any ts ds q0 C F hi A c ah bk L mb lv kn K aw k d w h hD hA hd hTab hg).mono ?_
 rintro E w' ⟨v,z1,z2,rfl,hrow,h1,h2,h3,hb⟩
 refine ⟨v,rfl,hrow.cast ?_,hb⟩
 have hle:=h.ld.ln.fl.gr.le
 have ht6:=hA.1
 have hk61:k<61:=by omega
 have hef:=effD_ok hA.1 (hA.2 k d hd)
 unfold issK
 congr 1
 ·refine issB_issP (by omega) fun v hv=>?_
  have hrel:=flowAll.rel_bit h.al hD hA hL hk61 hk v
  rw [h1 v hv,Bool.and_eq_true,unsD_iff]
  constructor
  ·rintro ⟨h7,h8⟩
   have h9:=(hef.uses v hv).mp h7
   have h10:=typed_use (hA.2 k d hd) _ h9
   refine ⟨by omega,⟨d,hd,h9⟩,Classical.byContradiction fun h11=>?_⟩
   have h12:=(hrel).mpr ⟨by omega,h11⟩
   rw [h12.2] at h8
   simp at h8
  ·rintro ⟨hvt,⟨d',h6,h7⟩,h8⟩
   rw [hd] at h6
   injection h6 with h6
   subst h6
   refine ⟨(hef.uses v hv).mpr h7,?_⟩
   cases h9:(aw k).testBit v
   ·rfl
   ·exact absurd h8 (hrel.mp ⟨hv,h9⟩).2
 ·refine issB_issP (by omega) fun l hl=>?_
  have hrel:=fun v=>flowLive.rel_bit h.ld.lvIn hD hA hL hk61 hk v
  have hxy:=hef.xy
  have hmy:=maybe_bit (v:=d.x.toNat) h.ld.mbIn hA hk (by omega)
  have hvar:∀ a∈accD ts d ((mb k).testBit d.x.toNat),0≤a.v:=fun a ha=>by have:=accD_var ha;omega
  rw [h2 l,cfD_iff]
  constructor
  ·rintro ⟨⟨a,ha,hab⟩,⟨v,h1,h2,h3,h4⟩,h5⟩
   have h6:=(h.ld.bit hk (by omega)).mp h4
   exact ⟨(LoanB.dom hA h6).2,⟨v,h1,(hrel v).mp ⟨by omega,h2⟩,h3,h6⟩,(h.ld.bit hk (by omega)).mp h5,_,_,hd,hmy,a,ha,(touc_near ds (hvar a ha) l).mp hab⟩
  ·rintro ⟨_,⟨v,h1,h2,h3,h4⟩,h5,d',b,hd',hb,a,ha,hn⟩
   rw [hd] at hd'
   injection hd' with hd'
   subst hd'
   have hbe:b=(mb k).testBit d.x.toNat:=by rw [Bool.eq_iff_iff,hb,hmy]
   subst hbe
   exact ⟨⟨a,ha,(touc_near ds (hvar a ha) l).mpr hn⟩,⟨v,h1,((hrel v).mpr h2).2,h3,(h.ld.bit hk (by omega)).mpr h4⟩,(h.ld.bit hk (by omega)).mpr h5⟩
open Go.RowKit Go.Deep Go.Shelf
def IsD.encs (x:IsD):Array Value:=#[x.val]
def KpQ (n:Nat) (W W':World):Prop:=Below n W W'∧∀ (k:Nat) (cs:Array Value) (t:TypeId),W.heap[k]?=some (.cells cs t (0,0))→W'.heap[k]?=some (.cells cs t (0,0))
theorem KpQ.trans {n:Nat} {A B C:World} (h:KpQ n A B) (k:KpQ n B C):KpQ n A C:=⟨h.1.trans k.1,fun j cs t h0=>k.2 j cs t (h.2 j cs t h0)⟩
theorem RowQ.kp {n B:Nat} {W W':World} {v:Value} {l:List IsD} (h:RowQ W B v l) (k:KpQ n W W'):RowQ W' B v l:=by
 refine ⟨h.1,?_⟩
 rcases h.2 with h | ⟨g,cap,cur,h1,h2,h3,h4⟩
 ·exact .inl h
 ·exact .inr ⟨g,cap,cur,h1,h2,k.2 _ _ _ h3,h4⟩
theorem RowQ.atI {w:World} {B q n c:Nat} {A:Option Addr} {d:IsD} {l:List IsD} (h:RowQ w B (.slice A n c) l) (hq:l[q]?=some d):∃ g,A=some ⟨g,0,none⟩∧g<w.heap.size∧n≤c∧c≤maxLen∧w.cell? ⟨g,q*3,none⟩=some (.int .i64 d.a)∧w.cell? ⟨g,q*3+1,none⟩=some (.int .i64 d.k)∧w.cell? ⟨g,q*3+2,none⟩=some (.int .i64 d.v):=by
 rcases h.2 with ⟨h1,h2⟩ | ⟨g,cap,cur,h1,h2,h3,h4,h5,h6,h7⟩
 ·have:=(List.getElem?_eq_some_iff.mp hq).1
  omega
 ·injection h1 with e1 e2 e3
  subst e1 e3
  have hc:∀ i u,i<3→d.cells[i]?=some u→w.cell? ⟨g,q*3+i,none⟩=some u:=fun i u hi hu=>by
   have:=World.ownsRow.cells h (g:=g) rfl (q*3+i) u (by rw [flatQ_get l q i d hq hi];exact hu)
   rwa [add_block,Nat.zero_add] at this
  exact ⟨g,rfl,heap_lt h3,by omega,h5,hc 0 _ (by omega) rfl,hc 1 _ (by omega) rfl,hc 2 _ (by omega) rfl⟩
theorem issN_mono (LV:Nat→Nat→Prop) (ts:List Int) (ds:List Nd) (k:Nat):∀ m,k≤m→issN LV ts ds k <+: issN LV ts ds m
 | 0,h=>by rw [show k=0 by omega];exact List.prefix_refl _
 | m+1,h=>by
  by_cases e:k=m+1
  ·rw [e];exact List.prefix_refl _
  ·exact (issN_mono LV ts ds k m (by omega)).trans (by rw [issN_succ];exact List.prefix_append _ _)
theorem issN_part (LV:Nat→Nat→Prop) (ts:List Int) (ds:List Nd) (k j n:Nat) (h:k<n):issN LV ts ds k++(issK LV ts ds k).take j <+: issN LV ts ds n :=
 List.IsPrefix.trans (by rw [issN_succ];exact (List.prefix_append_right_inj _).mpr (List.take_prefix _ _)) (issN_mono LV ts ds (k+1) n h)
theorem issK_length (LV:Nat→Nat→Prop) (ts:List Int) (ds:List Nd) (k:Nat):(issK LV ts ds k).length≤ts.length+ds.length:=by
 unfold issK
 have h1:=issP_length k (unsD ts ds k) (fun _=>1) ts.length
 have h2:=issP_length k (cfD LV ts ds k) (kdF ds) ds.length
 rw [List.length_append]
 omega
theorem issues_any (K:Nat) (w:World) :
  Calls Tryz.prog 41 #[.pointer (some ⟨K,0,none⟩)] w fun e w'=>e=.returned (.func (.func 71) #[] #[.pointer (some ⟨w.heap.size,0,none⟩)])∧w'=w.alloc (.cells #[.pointer (some ⟨K,0,none⟩)] 58):=by
 go_enter Tryz.func41,Tryz.ntmps41
 go_wp2_with fail
 go_ret
 exact ⟨rfl,rfl⟩
attribute [local go_sem] Oper.semAt_some
theorem issues1_in (ts:List Int) (ds:List Nd) (q0 C F hi:Nat) (A:Option Addr) (c:Nat) (ah bk:Nat→Nat) (L:Nat) (mb lv:Nat→Nat) (kn:Nat→Nat→Nat) (K:Nat) (aw:Nat→Nat) (Bn l:Nat) (W0 W:World) (h:Ckr ts ds C F hi A c ah bk L mb lv kn K aw W0) (hD:PtsOk q0 ds) (hA:AllTyped ts ds) (hL:∀ k,k<ds.length→k≠0→∃ j,j<k∧eN ds j k) (hTab:TabAt 0 Lib.deBruijn64tab W0) (hg:0<W0.heap.size)
  (hbx:W0.heap[Bn]?=some (.cells #[.pointer (some ⟨K,0,none⟩)] 58 (0,0))) (J Jx:List IsD→World→Prop) (hJ:AbidesFrom W.heap.size J)
  (hY:∀ pre x W,J pre W→pre.length<(issN (LiveB ts ds) ts ds ds.length).length→YieldAt Fence.wide 2 Tryz.prog l (IsD.encs x) W fun e W' =>
   (e=.returned (.bool true)∧J (pre++[x]) W'∧KpQ W0.heap.size W W')∨(e=.returned (.bool false)∧Jx (pre++[x]) W'))
  (hW:Below W0.heap.size W0 W) (h0:J [] W) :
  CallsIn Fence.wide 3 Tryz.prog 71 #[.func (.yield l) #[] #[],.pointer (some ⟨Bn,0,none⟩)] W fun e W'=>(∃ v,e=.returned v) ∧
   ((∃ ys:List IsD,ys=issN (LiveB ts ds) ts ds ds.length∧J ys W')∨(∃ pre:List IsD,pre <+: issN (LiveB ts ds) ts ds ds.length∧Jx pre W')):=by
 have hle:=h.ld.ln.fl.gr.le
 have HCK:Hid (∀ wr,Below W0.heap.size W0 wr→Ckr ts ds C F hi A c ah bk L mb lv kn K aw wr):=Lib.hid (fun wr hb=>h.keep hb)
 have HIA:Hid (∀ (k:Nat),k<ds.length→∀ wr,Below W0.heap.size W0 wr→Calls Tryz.prog 72 #[.pointer (some ⟨K,0,none⟩),.int .i64 k] wr fun E w'=>∃ v,E=.returned v∧RowQ w' wr.heap.size v (issK (LiveB ts ds) ts ds k)∧Below wr.heap.size wr w'):=Lib.hid (fun k hk wr hb=>issuesAt_val ts ds q0 C F hi A c ah bk L mb lv kn K aw k wr (h.keep hb) hD hA hL hk (tab_below hTab hg hb) (Nat.lt_of_lt_of_le hg hb.size))
 have HBN:Hid (∀ wr,Below W0.heap.size W0 wr→wr.cell? ⟨Bn,0,none⟩=some (.pointer (some ⟨K,0,none⟩))):=Lib.hid (fun wr hb=>(cB ((hb.block Bn (heap_lt hbx)).trans hbx) 0).trans rfl)
 obtain ⟨kcs,hkc1,hkc2,-⟩:=(h.keep hW).row
 have q0':W.cell? ⟨K,0,none⟩=some (.pointer (some ⟨L,0,none⟩)):=(cB hkc1 0).trans hkc2
 have q1:=(h.keep hW).ld.ln.flCell
 have q2:=(h.keep hW).ld.ln.fl.grCell
 have q3:=(h.keep hW).ld.ln.fl.gr.count
 have q4:=HBN.out W hW
 have HJ:=Lib.hid hJ
 have HY:=Lib.hid hY
 have H0:=Lib.hid h0
 have HW:=Lib.hid hW
 have ht6:=hA.1
 clear hJ hY h0 h hD hA hL hTab hg hbx hkc1 hkc2 hW
 have HPX:Hid (∀ k j,k<ds.length→issN (LiveB ts ds) ts ds k++(issK (LiveB ts ds) ts ds k).take j <+: issN (LiveB ts ds) ts ds ds.length):=Lib.hid (fun k j hk=>issN_part _ ts ds k j _ hk)
 obtain ⟨TOT,hTOT⟩:∃ TOT,TOT=issN (LiveB ts ds) ts ds ds.length:=⟨_,rfl⟩
 rw [← hTOT] at HPX HY ⊢
 have HTOT:=Lib.hid hTOT
 clear hTOT
 refine callsIn_of_wp Tryz.func71 rfl trivial ?_ rfl
 simp only [Tryz.ntmps71,List.size_toArray,List.length_cons,List.length_nil,Nat.reduceAdd,Nat.reduceSub,Array.replicate_succ,Array.replicate_zero,List.push_toArray,List.append_toArray,List.nil_append,List.cons_append]
 gi_wp2
 gi_loopw [19] (fun i wr=>∃ k:Nat,i=.int .i64 k∧k≤ds.length∧Hid (∃ pre:List IsD,pre=issN (LiveB ts ds) ts ds k∧J pre wr)∧Below W0.heap.size W0 wr) (fun i _=>ds.length-(intOf i).toNat)
 case atStart=>exact ⟨0,rfl,Nat.zero_le _,⟨[],rfl,H0.out⟩,HW.out⟩
 case round =>
  clear q0' q1 q2 q3 q4
  obtain ⟨k,rfl,hk,HJ1,hb⟩:=hrel
  have q4:=HBN.out wr hb
  by_cases hlt:k<ds.length
  ·have hdk:decide ((k:Int)<(ds.length:Int))=true:=decide_eq_true (by omega)
   have f1:IntKind.i64.wrap ((k:Int)+1)=(k:Int)+1:=IntWalk.i64_in _ (by omega)
   have hia:=HIA.out k hlt wr hb
   obtain ⟨LK,hLK⟩:∃ LK,LK=issK (LiveB ts ds) ts ds k:=⟨_,rfl⟩
   rw [← hLK] at hia
   have hlk:=issK_length (LiveB ts ds) ts ds k
   rw [← hLK] at hlk
   have HLK:=Lib.hid hLK
   have HLKL:Hid (LK.length≤67):=Lib.hid (by omega)
   clear hLK hlk
   gi_wp2_with (refine ⟨trivial,?_⟩;gi_at_call 72;refine (callsIn_wide.2 hia).mono ?_;rintro E w2 ⟨v,rfl,hrow,hb2⟩;obtain ⟨Av,cv,hv⟩:=hrow.slice;subst hv)
   have HJ2:Hid (∃ pre:List IsD,pre=issN (LiveB ts ds) ts ds k++LK.take 0∧J pre w2):=by
    obtain ⟨pre,e,hj⟩:=HJ1.out
    exact ⟨pre,by rw [e,List.take_zero,List.append_nil],HJ.out pre wr w2 none hj (below_grown hb2) (fun r e=>by cases e)⟩
   have hbB:=hb.trans (hb2.mono hb.size)
   have HRW:Hid (RowQ w2 wr.heap.size (.slice Av LK.length cv) LK):=Lib.hid hrow
   have hw9:=hb.size
   obtain ⟨N0,hN0⟩:∃ N0,N0=wr.heap.size:=⟨_,rfl⟩
   rw [← hN0] at HRW
   clear hia hb2 HJ1 hrow q4
   obtain ⟨wo,rfl⟩:∃ z,z=wr:=⟨_,rfl⟩
   gi_loopw [26] (fun i wr=>∃ j:Nat,i=.int .i64 j∧j≤LK.length∧Hid (∃ pre:List IsD,pre=issN (LiveB ts ds) ts ds k++LK.take j∧J pre wr)∧Hid (RowQ wr N0 (.slice Av LK.length cv) LK)∧Below W0.heap.size W0 wr) (fun i _=>LK.length-(intOf i).toNat)
   case atStart=>exact ⟨0,rfl,Nat.zero_le _,HJ2,HRW,hbB⟩
   case round =>
    clear HJ2 hbB hb HRW
    obtain ⟨j,rfl,hj,HJ3,HRW,hb⟩:=hrel
    by_cases hjl:j<LK.length
    ·have hdj:decide ((j:Int)<(LK.length:Int))=true:=decide_eq_true (by omega)
     have f2:IntKind.i64.wrap ((j:Int)+1)=(j:Int)+1:=IntWalk.i64_in _ (by have:=HLKL.out;omega)
     obtain ⟨d,hd⟩:∃ d,LK[j]?=some d:=⟨LK[j],List.getElem?_eq_getElem hjl⟩
     obtain ⟨g,hga,hgl,hgc,hgm,c0,c1,c2⟩:=HRW.out.atI hd
     subst hga
     unfold maxLen at hgm
     obtain ⟨hj0,hj1⟩:(0:Int)≤(j:Int)∧(j:Int)<(LK.length:Int):=by omega
     obtain ⟨pre,hpre,hJp⟩:=HJ3.out
     have hb1:=(Below.refl wr.heap.size wr).alloc (Nat.le_refl _) (.cells #[.int .i64 d.a,.int .i64 d.k,.int .i64 d.v] 35)
     have hJ1:=HJ.out pre wr _ none hJp (below_grown hb1) (fun r e=>by cases e)
     have hp1:pre++[d]=issN (LiveB ts ds) ts ds k++LK.take (j+1):=by rw [hpre,List.take_add_one,hd,List.append_assoc];rfl
     have hpx:=HPX.out k (j+1) hlt
     rw [← HLK.out,← hp1] at hpx
     have hlen:pre.length<TOT.length:=by
      have:=hpx.length_le
      simp at this
      omega
     obtain ⟨fn,tmps,assign,body,hy,hR⟩:=HY.out pre d _ hJ1 hlen
     have hex:d.encs=#[.agg #[.int .i64 d.a,.int .i64 d.k,.int .i64 d.v]]:=rfl
     rw [hex] at hy
     have HP1:=Lib.hid hp1
     have HPX1:=Lib.hid hpx
     have HB1:=Lib.hid hb1
     clear hpx hp1 hpre hJp hlen hd HJ3 hex hJ1 hb1
     gi_wp2
     refine hR.mono ?_
     rintro E w3 (⟨rfl,hJ3,hk3⟩ | ⟨rfl,hJx3⟩)
     ·have hb3:=(hb.trans (HB1.out.mono hb.size)).trans hk3.1
      have HJ4:Hid (∃ pre:List IsD,pre=issN (LiveB ts ds) ts ds k++LK.take (j+1)∧J pre w3):=⟨_,HP1.out,hJ3⟩
      have HRW4:=Lib.hid ((HRW.out.below HB1.out).kp hk3)
      clear hy hR hJ3 hk3 c0 c1 c2 HRW
      gi_wp2
      go_roundw
      case rel=>exact ⟨j+1,by go_num,by omega,HJ4,HRW4,hb3⟩
      case measure=>simp [intOf];omega
     ·clear hy hR
      gi_wp2
      refine bodyPost_ret (results_none rfl _ _ _) rfl ?_
      exact ⟨⟨_,rfl⟩,.inr ⟨_,HPX1.out,hJx3⟩⟩
    ·have hje:j=LK.length:=by omega
     have hdj:decide ((j:Int)<(LK.length:Int))=false:=decide_eq_false (by omega)
     have hnj:¬ j<LK.length:=hjl
     have HJ4:Hid (∃ pre:List IsD,pre=issN (LiveB ts ds) ts ds (k+1)∧J pre wr):=by
      obtain ⟨pre,e,h⟩:=HJ3.out
      exact ⟨pre,by rw [e,hje,List.take_length,issN_succ,HLK.out],h⟩
     clear HJ3 hje HRW
     gi_wp2
     go_roundw
     case rel=>exact ⟨k+1,by go_num,by omega,HJ4,hb⟩
     case measure=>simp [intOf];omega
  ·have hdk:decide ((k:Int)<(ds.length:Int))=false:=decide_eq_false (by omega)
   have HJ4:Hid (∃ pre:List IsD,pre=TOT∧J pre wr):=by
    obtain ⟨pre,e,h⟩:=HJ1.out
    exact ⟨pre,by rw [e,HTOT.out,show k=ds.length by omega],h⟩
   clear HJ1 q4
   gi_wp2
   go_end0
   obtain ⟨pre,e,h⟩:=HJ4.out
   exact ⟨⟨_,rfl⟩,.inl ⟨pre,e,h⟩⟩
theorem issues_stops (ts:List Int) (ds:List Nd) (q0 C F hi:Nat) (A:Option Addr) (c:Nat) (ah bk:Nat→Nat) (L:Nat) (mb lv:Nat→Nat) (kn:Nat→Nat→Nat) (K:Nat) (aw:Nat→Nat) (Bn:Nat) (W0:World) (h:Ckr ts ds C F hi A c ah bk L mb lv kn K aw W0) (hD:PtsOk q0 ds) (hA:AllTyped ts ds) (hL:∀ k,k<ds.length→k≠0→∃ j,j<k∧eN ds j k) (hTab:TabAt 0 Lib.deBruijn64tab W0) (hg:0<W0.heap.size)
  (hbx:W0.heap[Bn]?=some (.cells #[.pointer (some ⟨K,0,none⟩)] 58 (0,0))) :
  SeqStopsK Fence.wide 3 Tryz.prog 71 #[.pointer (some ⟨Bn,0,none⟩)] IsD.encs (KpQ W0.heap.size) (fun ys=>ys=issN (LiveB ts ds) ts ds ds.length) (fun pre=>pre <+: issN (LiveB ts ds) ts ds ds.length) (issN (LiveB ts ds) ts ds ds.length).length W0:=fun l J Jx W hW hJ _ hY h0 =>
 issues1_in ts ds q0 C F hi A c ah bk L mb lv kn K aw Bn l W0 W h hD hA hL hTab hg hbx J Jx hJ hY hW h0
theorem kpQ_b {n₀:Nat} {w:World} (hn:n₀≤w.heap.size) (W:World) (l:Nat) (o o':Obj) (hl:w.heap.size≤l) (h:W.heap[l]?=some o) (h1:o.isCells=false) (h2:o.isWalk=false):KpQ n₀ W (W.putObj l o') :=
 ⟨belowK_b hn W l o o' hl h h1 h2,fun k cs t hc=>((grownBy_putObj' W l o').block k (heap_lt hc) (fun e=>by
  injection e with e
  subst e
  rw [h] at hc
  injection hc with hc
  subst hc
  cases h1)).trans hc⟩
def ResQ (b:Nat) (pre:List IsD) (W:World):Prop:=W.cell? ⟨b,0,none⟩=some (.int .i64 (firQ pre).a)∧W.cell? ⟨b,1,none⟩=some (.int .i64 (firQ pre).k)∧W.cell? ⟨b,2,none⟩=some (.int .i64 (firQ pre).v)∧W.cell? ⟨b+1,0,none⟩=some (.bool true)
theorem resQ_own (B b:Nat):OwnFrom B (ResQ b):=fun s X Y row hs hg hr=>⟨cell_kept hs.1 hg (fun r e=>(hr r e).2),cell_kept hs.2.1 hg (fun r e=>(hr r e).2),cell_kept hs.2.2.1 hg (fun r e=>(hr r e).2),cell_kept hs.2.2.2 hg (fun r e=>(hr r e).2)⟩
attribute [local go_sem] Oper.semAt_some
theorem implFirstIssue_yes (ts:List Int) (s:Sts) (At As:Option Addr) (ct cs:Nat) (w:World) (hv:validB ts s=true) (hT:IntsV w 0 w.heap.size ts At ct) (hR:RepV w 0 w.heap.size s As cs) (hTab:TabAt 0 Lib.deBruijn64tab w) (hg:0<w.heap.size) :
  Calls Tryz.prog 15 #[.agg #[.slice At ts.length ct,.slice As s.len cs]] w fun E w'=>∃ l,IssR ts s l∧E=.returned (.tuple #[(firQ l).val,.bool (!l.isEmpty)])∧Below w.heap.size w w':=by
 have hb0:=((((Below.refl w.heap.size w).alloc (Nat.le_refl _) (.cells #[.slice At ts.length ct,.slice As s.len cs] 30)).alloc (by simp) (.cells #[.int .i64 0,.int .i64 0,.int .i64 0] 35))).alloc (by simp;omega) (.cells #[.bool false] 4)
 have hz0:(((w.alloc (.cells #[.slice At ts.length ct,.slice As s.len cs] 30)).alloc (.cells #[.int .i64 0,.int .i64 0,.int .i64 0] 35)).alloc (.cells #[.bool false] 4)).heap.size=w.heap.size+3:=by simp
 have bA:=heap_alloc_new (w.alloc (.cells #[.slice At ts.length ct,.slice As s.len cs] 30)) (.cells #[.int .i64 0,.int .i64 0,.int .i64 0] 35)
 have bR:=heap_alloc_new ((w.alloc (.cells #[.slice At ts.length ct,.slice As s.len cs] 30)).alloc (.cells #[.int .i64 0,.int .i64 0,.int .i64 0] 35)) (.cells #[.bool false] 4)
 have hzA:(w.alloc (.cells #[.slice At ts.length ct,.slice As s.len cs] 30)).heap.size=w.heap.size+1:=by simp
 have hzB:((w.alloc (.cells #[.slice At ts.length ct,.slice As s.len cs] 30)).alloc (.cells #[.int .i64 0,.int .i64 0,.int .i64 0] 35)).heap.size=w.heap.size+2:=by simp
 have bA':=(((Below.refl ((w.alloc (.cells #[.slice At ts.length ct,.slice As s.len cs] 30)).alloc (.cells #[.int .i64 0,.int .i64 0,.int .i64 0] 35)).heap.size ((w.alloc (.cells #[.slice At ts.length ct,.slice As s.len cs] 30)).alloc (.cells #[.int .i64 0,.int .i64 0,.int .i64 0] 35))).alloc (Nat.le_refl _) (.cells #[.bool false] 4)).block (w.heap.size+1) (by omega))
 rw [hzA] at bA
 rw [hzB] at bR
 have bA2:=bA'.trans bA
 have hS:=checkerOf_yes ts s At As ct cs (((w.alloc (.cells #[.slice At ts.length ct,.slice As s.len cs] 30)).alloc (.cells #[.int .i64 0,.int .i64 0,.int .i64 0] 35)).alloc (.cells #[.bool false] 4)) hv (hT.below hb0 (by simp;omega)) (hR.below hb0 (by simp;omega)) (tab_below hTab hg hb0) (by omega)
 have hD:=progPts_ok s (valid_ok hv).2.1
 have hA:=progPts_allTyped hv
 have hL:=progPts_leads hv
 have HF1:Hid (∀ l,IssL (LiveB ts (progPts s)) ts (progPts s) l→IssR ts s l):=Lib.hid (fun l h=>.inl ⟨hv,h⟩)
 generalize progPts s=ds at hS hD hA hL HF1
 generalize s.npts=q at hD
 have HD:=Lib.hid hD
 have HA:=Lib.hid hA
 have HL:=Lib.hid hL
 have HBA:=Lib.hid bA2
 have HBR:=Lib.hid bR
 have HZ:=Lib.hid hz0
 clear hT hR hv hD hA hL bA bA2 bA' bR hzA hzB hz0
 refine (callsIn_wide (n:=4)).1 ?_
 refine callsIn_of_wp_marks Tryz.func15 rfl trivial ?_ rfl
 simp only [Tryz.ntmps15,List.size_toArray,List.length_cons,List.length_nil,Nat.reduceAdd,Nat.reduceSub,Array.replicate_succ,Array.replicate_zero,List.push_toArray,List.append_toArray,List.nil_append,List.cons_append]
 gi_wp2_with (refine ⟨trivial,?_⟩;gi_at_call 40;refine (callsIn_wide.2 hS).mono ?_;rintro E w1 ⟨C,F,hi,A,c,ah,bk,L,mb,lv,kn,K,aw,rfl,hK,hKb,hb1⟩)
 rw [HZ.out] at hKb hb1
 have hbw:Below w.heap.size w w1:=hb0.trans (hb1.mono (by omega))
 have hs1:w.heap.size+3≤w1.heap.size:=by have:=hb1.size;rw [HZ.out] at this;exact this
 have hbc:=(Below.refl w1.heap.size w1).alloc (Nat.le_refl _) (.cells #[.pointer (some ⟨K,0,none⟩)] 58)
 have bA1:=(hbc.block _ (by omega)).trans ((hb1.block (w.heap.size+1) (by omega)).trans HBA.out)
 have bR1:=(hbc.block _ (by omega)).trans ((hb1.block (w.heap.size+2) (by omega)).trans HBR.out)
 have bG1:=heap_alloc_new w1 (.cells #[.pointer (some ⟨K,0,none⟩)] 58)
 have hB0:Below w.heap.size w (w1.alloc (.cells #[.pointer (some ⟨K,0,none⟩)] 58)):=hbw.alloc (by omega) _
 have hK0:=hK.keep hbc
 have hsz:(w1.alloc (.cells #[.pointer (some ⟨K,0,none⟩)] 58)).heap.size=w1.heap.size+1:=by simp
 refine ⟨trivial,(callsIn_wide.2 (issues_any K w1)).mono ?_⟩
 rintro e w2 ⟨rfl,rfl⟩
 clear hS hb1 hb0 hK hbc
 gi_wp2
 obtain ⟨W0,hW0⟩:∃ W0,w1.alloc (.cells #[.pointer (some ⟨K,0,none⟩)] 58)=W0:=⟨_,rfl⟩
 rw [hW0] at bA1 bR1 bG1 hB0 hK0 hsz ⊢
 clear hW0
 have HSTOPS:=issues_stops ts ds q C F hi A c ah bk L mb lv kn K aw w1.heap.size W0 hK0 HD.out HA.out HL.out (tab_below hTab hg hB0) (Nat.lt_of_lt_of_le hg hB0.size) bG1
 obtain ⟨tm,htm⟩:∃ tm:Nat→IsD→Array Value,tm=fun Bx x=>#[.agg #[.slice At ts.length ct,.slice As s.len cs],.pointer (some ⟨w.heap.size,0,none⟩),.pointer (some ⟨w.heap.size+1,0,none⟩),.pointer (some ⟨w.heap.size+1+1,0,none⟩),.pointer (some ⟨K,0,none⟩),.bool true,.pointer (some ⟨Bx,0,none⟩),.tuple #[.pointer (some ⟨K,0,none⟩),.bool true],.agg #[.slice At ts.length ct,.slice As s.len cs],.tuple #[.pointer (some ⟨K,0,none⟩),.bool true],.pointer (some ⟨K,0,none⟩),.bool true,.bool true,.bool false,undef,.pointer (some ⟨K,0,none⟩),.func (.func 71) #[] #[.pointer (some ⟨w1.heap.size,0,none⟩)],.agg #[.int .i64 x.a,.int .i64 x.k,.int .i64 x.v],undef,undef]:=⟨_,rfl⟩
 refine wpIn_rangeFunc_ownH (F:=Fence.wide) (n:=4) rfl (by decide) (gf:=71) (lb:=#[.pointer (some ⟨w1.heap.size,0,none⟩)]) rfl trivial (enters_of Tryz.func71 (by kernel_rfl) rfl)
  HSTOPS KpQ.trans (kpQ_b (Nat.le_refl _)) (Below.refl _ _) (fun _=>rfl)
  (fun pre W=>pre=[]∧Below W0.heap.size W0 W)
  (fun c pre W=>((c=.ret∧∃ d,pre=[d])∧ResQ (w.heap.size+1) pre W)∧Below w.heap.size w W)
  (OwnFrom.and (ownFrom_pure _ _) (ownFrom_below (Nat.le_refl _) (Nat.le_refl _)))
  (fun c=>OwnFrom.and (OwnFrom.and (ownFrom_pure _ _) (resQ_own _ _)) (ownFrom_below (Nat.le_refl _) (by omega)))
  ⟨rfl,Below.refl _ _⟩
  (fun x a' W=>∃ Bx,w.heap.size+2<Bx∧W.heap[Bx]?=some (.cells #[.int .i64 x.a,.int .i64 x.k,.int .i64 x.v] 35 (0,0))∧a'={ tmps:=tm Bx x,defers:=[] })
  (fun x a' _ X Y row hs hg hr=>by
   obtain ⟨Bx,e1,e2,e3⟩:=hs
   refine ⟨Bx,e1,(hg.block Bx (Array.getElem?_eq_some_iff.1 e2).1 (fun e=>?_)).trans e2,e3⟩
   obtain ⟨_,o,ho,hc⟩:=hr Bx e.symm
   rw [e2] at ho
   cases ho
   cases hc)
  ?assign ?body ?done ?stop
 case assign =>
  rintro l pre x W K' ⟨hp,hB1⟩ hK'
  have hex:x.encs=#[.agg #[.int .i64 x.a,.int .i64 x.k,.int .i64 x.v]]:=rfl
  rw [hex]
  have hWz:=hB1.size
  gi_wp2
  subst htm
  have hbl:=(Below.refl W.heap.size W).alloc (Nat.le_refl _) (.cells #[.int .i64 x.a,.int .i64 x.k,.int .i64 x.v] 35)
  exact hK' _ _ ((KeepsOthers.alloc _ _).from _) ⟨(Below.refl _ W).alloc hWz _,fun k cs t hc=>(hbl.block k (heap_lt hc)).trans hc⟩ ⟨hp,hB1.alloc hWz _⟩ ⟨W.heap.size,by omega,World.alloc_heap_new W _,rfl⟩
 case body =>
  rintro l pre x a' W hl ⟨r,hr⟩ ⟨hp,hB1⟩ ⟨Bx,hBx,bX,rfl⟩ hlt
  subst htm hp
  have hWz:=hB1.size
  have c0:W.cell? ⟨Bx,0,none⟩=some (.int .i64 x.a):=(cB bX 0).trans rfl
  have c1:W.cell? ⟨Bx,1,none⟩=some (.int .i64 x.k):=(cB bX 1).trans rfl
  have c2:W.cell? ⟨Bx,2,none⟩=some (.int .i64 x.v):=(cB bX 2).trans rfl
  have bA3:=(hB1.block (w.heap.size+1) (by omega)).trans bA1
  have bR3:=(hB1.block (w.heap.size+2) (by omega)).trans bR1
  have x0:W.cell? ⟨w.heap.size+1,0,none⟩=some (.int .i64 0):=(cB bA3 0).trans rfl
  have x1:W.cell? ⟨w.heap.size+1,1,none⟩=some (.int .i64 0):=(cB bA3 1).trans rfl
  have x2:W.cell? ⟨w.heap.size+1,2,none⟩=some (.int .i64 0):=(cB bA3 2).trans rfl
  have x3:W.cell? ⟨w.heap.size+1+1,0,none⟩=some (.bool false):=(cB bR3 0).trans rfl
  have f0:=fB bA3 0
  have f1:=fB bA3 1
  have f2:=fB bA3 2
  have f3:W.frozen? ⟨w.heap.size+1+1,0,none⟩=false:=fB bR3 0
  have hBw:=hB0.trans (hB1.mono hB0.size)
  gi_wp2
  refine ⟨((((KeepsOthers.setCell _ _ _).trans (KeepsOthers.setCell _ _ _)).trans (KeepsOthers.setCell _ _ _)).trans (KeepsOthers.setCell _ _ _)).from _,⟨⟨rfl,x,rfl⟩,?_⟩,(((hBw.setCell (by simp) _).setCell (by simp) _).setCell (by simp) _).setCell (by simp;omega) _⟩
  refine ⟨?_,?_,?_,?_⟩ <;> simp [go_sem,x0,x1,x2,x3,firQ]
 case done =>
  rintro D ys W hD2 hys ⟨hp,hB1⟩ hK'
  have hnil:issN (LiveB ts ds) ts ds ds.length=[]:=by rw [← hys];exact hp
  have bA3:=(hB1.block (w.heap.size+1) (by omega)).trans bA1
  have bR3:=(hB1.block (w.heap.size+2) (by omega)).trans bR1
  have x0:W.cell? ⟨w.heap.size+1,0,none⟩=some (.int .i64 0):=(cB bA3 0).trans rfl
  have x1:W.cell? ⟨w.heap.size+1,1,none⟩=some (.int .i64 0):=(cB bA3 1).trans rfl
  have x2:W.cell? ⟨w.heap.size+1,2,none⟩=some (.int .i64 0):=(cB bA3 2).trans rfl
  have x3:W.cell? ⟨w.heap.size+1+1,0,none⟩=some (.bool false):=(cB bR3 0).trans rfl
  have f0:=fB bA3 0
  have f1:=fB bA3 1
  have f2:=fB bA3 2
  have f3:W.frozen? ⟨w.heap.size+1+1,0,none⟩=false:=fB bR3 0
  have hBw:=hB0.trans (hB1.mono hB0.size)
  have HNIL:=Lib.hid hnil
  clear hnil
  gi_wp2
  have hK2:=((((KeepsOthers.setCell W ⟨w.heap.size+1,0,none⟩ (.int .i64 0)).trans (KeepsOthers.setCell _ ⟨w.heap.size+1,1,none⟩ (.int .i64 0))).trans (KeepsOthers.setCell _ ⟨w.heap.size+1,2,none⟩ (.int .i64 0))).trans (KeepsOthers.setCell _ ⟨w.heap.size+1+1,0,none⟩ (.bool false))).same D _ hK' rfl
  refine ⟨by simp,.inl ⟨_,_,rfl,run_takeDeferred hK2,?_⟩⟩
  have y0:((((W.setCell ⟨w.heap.size+1,0,none⟩ (.int .i64 0)).setCell ⟨w.heap.size+1,1,none⟩ (.int .i64 0)).setCell ⟨w.heap.size+1,2,none⟩ (.int .i64 0)).setCell ⟨w.heap.size+1+1,0,none⟩ (.bool false)).cell? ⟨w.heap.size+1,0,none⟩=some (.int .i64 0):=by simp [go_sem,x0]
  have y1:((((W.setCell ⟨w.heap.size+1,0,none⟩ (.int .i64 0)).setCell ⟨w.heap.size+1,1,none⟩ (.int .i64 0)).setCell ⟨w.heap.size+1,2,none⟩ (.int .i64 0)).setCell ⟨w.heap.size+1+1,0,none⟩ (.bool false)).cell? ⟨w.heap.size+1,1,none⟩=some (.int .i64 0):=by simp [go_sem,x1]
  have y2:((((W.setCell ⟨w.heap.size+1,0,none⟩ (.int .i64 0)).setCell ⟨w.heap.size+1,1,none⟩ (.int .i64 0)).setCell ⟨w.heap.size+1,2,none⟩ (.int .i64 0)).setCell ⟨w.heap.size+1+1,0,none⟩ (.bool false)).cell? ⟨w.heap.size+1,2,none⟩=some (.int .i64 0):=by simp [go_sem,x2]
  have y3:((((W.setCell ⟨w.heap.size+1,0,none⟩ (.int .i64 0)).setCell ⟨w.heap.size+1,1,none⟩ (.int .i64 0)).setCell ⟨w.heap.size+1,2,none⟩ (.int .i64 0)).setCell ⟨w.heap.size+1+1,0,none⟩ (.bool false)).cell? ⟨w.heap.size+1+1,0,none⟩=some (.bool false):=by simp [go_sem,x3]
  have z0:=cell_kept y0 (grownBy_putObj' _ D (.deferred none)) (fun r e=>by cases e;exact ⟨_,hK2,rfl⟩)
  have z1:=cell_kept y1 (grownBy_putObj' _ D (.deferred none)) (fun r e=>by cases e;exact ⟨_,hK2,rfl⟩)
  have z2:=cell_kept y2 (grownBy_putObj' _ D (.deferred none)) (fun r e=>by cases e;exact ⟨_,hK2,rfl⟩)
  have z3:=cell_kept y3 (grownBy_putObj' _ D (.deferred none)) (fun r e=>by cases e;exact ⟨_,hK2,rfl⟩)
  refine ⟨.tuple #[(firQ []).val,.bool (!([]:List IsD).isEmpty)],?_,[],HF1.out _ (HNIL.out ▸ issL_all _ ts ds),rfl,((((hBw.setCell (by simp) _).setCell (by simp) _).setCell (by simp) _).setCell (by simp;omega) _).trans (belowK_b (w:=w) (Nat.le_refl _) _ D _ _ (by omega) hK2 rfl rfl)⟩
  simp [results,Tryz.results15,go_sem,z0,z1,z2,z3,firQ,IsD.val]
 case stop =>
  rintro D c pre W hD2 hpre ⟨⟨⟨rfl,d,rfl⟩,hres⟩,hB1⟩ hK'
  obtain ⟨y0,y1,y2,y3⟩:=hres
  gi_wp2
  refine ⟨by simp,.inl ⟨_,_,rfl,run_takeDeferred hK',?_⟩⟩
  have z0:=cell_kept y0 (grownBy_putObj' _ D (.deferred none)) (fun r e=>by cases e;exact ⟨_,hK',rfl⟩)
  have z1:=cell_kept y1 (grownBy_putObj' _ D (.deferred none)) (fun r e=>by cases e;exact ⟨_,hK',rfl⟩)
  have z2:=cell_kept y2 (grownBy_putObj' _ D (.deferred none)) (fun r e=>by cases e;exact ⟨_,hK',rfl⟩)
  have z3:=cell_kept y3 (grownBy_putObj' _ D (.deferred none)) (fun r e=>by cases e;exact ⟨_,hK',rfl⟩)
  obtain ⟨m,hm⟩:∃ m,issN (LiveB ts ds) ts ds ds.length=d :: m:=by
   obtain ⟨m,hm⟩:=hpre
   exact ⟨m,hm.symm⟩
  refine ⟨.tuple #[(firQ (d :: m)).val,.bool (!(d :: m).isEmpty)],?_,d :: m,HF1.out _ (hm ▸ issL_all _ ts ds),rfl,hB1.trans (belowK_b (w:=w) (Nat.le_refl _) W D _ _ (by omega) hK' rfl rfl)⟩
  simp [results,Tryz.results15,go_sem,z0,z1,z2,z3,firQ,IsD.val]
attribute [local go_sem] Oper.semAt_some
theorem implFirstIssue_no (ts:List Int) (s:Sts) (At As:Option Addr) (ct cs:Nat) (w:World) (hv:validB ts s=false) (hT:IntsV w 0 w.heap.size ts At ct) (hR:RepV w 0 w.heap.size s As cs) :
  Calls Tryz.prog 15 #[.agg #[.slice At ts.length ct,.slice As s.len cs]] w fun E w'=>∃ l,IssR ts s l∧E=.returned (.tuple #[(firQ l).val,.bool (!l.isEmpty)])∧Below w.heap.size w w':=by
 have hb0:=((((Below.refl w.heap.size w).alloc (Nat.le_refl _) (.cells #[.slice At ts.length ct,.slice As s.len cs] 30)).alloc (by simp) (.cells #[.int .i64 0,.int .i64 0,.int .i64 0] 35))).alloc (by simp;omega) (.cells #[.bool false] 4)
 have hz0:(((w.alloc (.cells #[.slice At ts.length ct,.slice As s.len cs] 30)).alloc (.cells #[.int .i64 0,.int .i64 0,.int .i64 0] 35)).alloc (.cells #[.bool false] 4)).heap.size=w.heap.size+3:=by simp
 have bA:=heap_alloc_new (w.alloc (.cells #[.slice At ts.length ct,.slice As s.len cs] 30)) (.cells #[.int .i64 0,.int .i64 0,.int .i64 0] 35)
 have bR:=heap_alloc_new ((w.alloc (.cells #[.slice At ts.length ct,.slice As s.len cs] 30)).alloc (.cells #[.int .i64 0,.int .i64 0,.int .i64 0] 35)) (.cells #[.bool false] 4)
 have hzA:(w.alloc (.cells #[.slice At ts.length ct,.slice As s.len cs] 30)).heap.size=w.heap.size+1:=by simp
 have hzB:((w.alloc (.cells #[.slice At ts.length ct,.slice As s.len cs] 30)).alloc (.cells #[.int .i64 0,.int .i64 0,.int .i64 0] 35)).heap.size=w.heap.size+2:=by simp
 have bA':=(((Below.refl ((w.alloc (.cells #[.slice At ts.length ct,.slice As s.len cs] 30)).alloc (.cells #[.int .i64 0,.int .i64 0,.int .i64 0] 35)).heap.size ((w.alloc (.cells #[.slice At ts.length ct,.slice As s.len cs] 30)).alloc (.cells #[.int .i64 0,.int .i64 0,.int .i64 0] 35))).alloc (Nat.le_refl _) (.cells #[.bool false] 4)).block (w.heap.size+1) (by omega))
 rw [hzA] at bA
 rw [hzB] at bR
 have bA2:=bA'.trans bA
 have hS:=checkerOf_no ts s At As ct cs (((w.alloc (.cells #[.slice At ts.length ct,.slice As s.len cs] 30)).alloc (.cells #[.int .i64 0,.int .i64 0,.int .i64 0] 35)).alloc (.cells #[.bool false] 4)) hv (hT.below hb0 (by simp;omega)) (hR.below hb0 (by simp;omega))
 have HI:Hid (IssR ts s []):=Lib.hid (.inr ⟨hv,rfl⟩)
 have HBA:=Lib.hid bA2
 have HBR:=Lib.hid bR
 have HZ:=Lib.hid hz0
 clear hT hR hv bA bA2 bA' bR hzA hzB hz0
 refine (callsIn_wide (n:=4)).1 ?_
 refine callsIn_of_wp_marks Tryz.func15 rfl trivial ?_ rfl
 simp only [Tryz.ntmps15,List.size_toArray,List.length_cons,List.length_nil,Nat.reduceAdd,Nat.reduceSub,Array.replicate_succ,Array.replicate_zero,List.push_toArray,List.append_toArray,List.nil_append,List.cons_append]
 gi_wp2_with (refine ⟨trivial,?_⟩;gi_at_call 40;refine (callsIn_wide.2 hS).mono ?_;rintro E w1 ⟨rfl,hb1⟩;rw [HZ.out] at hb1;have bA3:=(hb1.block (w.heap.size+1) (by omega)).trans HBA.out;have bR3:=(hb1.block (w.heap.size+2) (by omega)).trans HBR.out;have x0:w1.cell? ⟨w.heap.size+1,0,none⟩=some (.int .i64 0):=(cB bA3 0).trans rfl;have x1:w1.cell? ⟨w.heap.size+1,1,none⟩=some (.int .i64 0):=(cB bA3 1).trans rfl;have x2:w1.cell? ⟨w.heap.size+1,2,none⟩=some (.int .i64 0):=(cB bA3 2).trans rfl;have x3:w1.cell? ⟨w.heap.size+1+1,0,none⟩=some (.bool false):=(cB bR3 0).trans rfl;have f0:=fB bA3 0;have f1:=fB bA3 1;have f2:=fB bA3 2;have f3:w1.frozen? ⟨w.heap.size+1+1,0,none⟩=false:=fB bR3 0)
 have hBw:Below w.heap.size w w1:=hb0.trans (hb1.mono (by omega))
 refine ⟨.tuple #[(firQ []).val,.bool (!([]:List IsD).isEmpty)],?_,[],HI.out,rfl,(((hBw.setCell (by simp) _).setCell (by simp) _).setCell (by simp) _).setCell (by simp;omega) _⟩
 simp [results,Tryz.results15,go_sem,x0,x1,x2,x3,firQ,IsD.val]
theorem eqIssue_same (d:IsD) (w:World):Calls Tryz.prog 16 #[d.val,d.val] w fun E w'=>E=.returned (.bool true)∧Below w.heap.size w w':=by
 have hb:=((Below.refl w.heap.size w).alloc (Nat.le_refl _) (.cells #[.int .i64 d.a,.int .i64 d.k,.int .i64 d.v] 35)).alloc (by simp) (.cells #[.int .i64 d.a,.int .i64 d.k,.int .i64 d.v] 35)
 have HB:=Lib.hid hb
 clear hb
 unfold IsD.val
 go_enter Tryz.func16,Tryz.ntmps16
 go_wp2_with fail
 go_ret
 exact ⟨rfl,HB.out⟩
theorem implFirstIssue_any (ts:List Int) (s:Sts) (At As:Option Addr) (ct cs:Nat) (w:World) (hT:IntsV w 0 w.heap.size ts At ct) (hR:RepV w 0 w.heap.size s As cs) (hTab:TabAt 0 Lib.deBruijn64tab w) (hg:0<w.heap.size) :
  Calls Tryz.prog 15 #[.agg #[.slice At ts.length ct,.slice As s.len cs]] w fun E w'=>∃ l,IssR ts s l∧E=.returned (.tuple #[(firQ l).val,.bool (!l.isEmpty)])∧Below w.heap.size w w':=by
 cases hv:validB ts s
 ·exact implFirstIssue_no ts s At As ct cs w hv hT hR
 ·exact implFirstIssue_yes ts s At As ct cs w hv hT hR hTab hg
noncomputable def issOf (ts:List Int) (s:Sts):List IsD:=if validB ts s=true then issN (LiveB ts (progPts s)) ts (progPts s) (progPts s).length else []
theorem issOf_is (ts:List Int) (s:Sts):IssR ts s (issOf ts s):=by
 unfold issOf
 cases h:validB ts s
 ·exact .inr ⟨h,rfl⟩
 ·exact .inl ⟨h,issL_all _ _ _⟩
noncomputable def acptB (ts:List Int) (s:Sts):Bool:=validB ts s && (issOf ts s).isEmpty
theorem specFirstIssue_val (ts:List Int) (s:Sts) (At As:Option Addr) (ct cs:Nat) (da dk dv:Int) (b:Bool) (hd:Hid (firQ (issOf ts s)=⟨da,dk,dv⟩∧(!(issOf ts s).isEmpty)=b)) (w:World) (hsz:s.size≤1048576) (hT:IntsV w 0 w.heap.size ts At ct) (hR:RepV w 0 w.heap.size s As cs) :
  Calls Tryz.prog 14 #[.agg #[.slice At ts.length ct,.slice As s.len cs]] w fun E w'=>E=.returned (.tuple #[.agg #[.int .i64 da,.int .i64 dk,.int .i64 dv],.bool b])∧Below w.heap.size w w':=by
 refine (specFirstIssue_any ts s At As ct cs w hsz hT hR).mono ?_
 rintro E w' ⟨l,hl,rfl,hb⟩
 rw [hl.unique (issOf_is ts s),hd.out.1,hd.out.2]
 exact ⟨rfl,hb⟩
theorem implFirstIssue_val (ts:List Int) (s:Sts) (At As:Option Addr) (ct cs:Nat) (da dk dv:Int) (b:Bool) (hd:Hid (firQ (issOf ts s)=⟨da,dk,dv⟩∧(!(issOf ts s).isEmpty)=b)) (w:World) (hT:IntsV w 0 w.heap.size ts At ct) (hR:RepV w 0 w.heap.size s As cs) (hTab:TabAt 0 Lib.deBruijn64tab w) (hg:0<w.heap.size) :
  Calls Tryz.prog 15 #[.agg #[.slice At ts.length ct,.slice As s.len cs]] w fun E w'=>E=.returned (.tuple #[.agg #[.int .i64 da,.int .i64 dk,.int .i64 dv],.bool b])∧Below w.heap.size w w':=by
 refine (implFirstIssue_any ts s At As ct cs w hT hR hTab hg).mono ?_
 rintro E w' ⟨l,hl,rfl,hb⟩
 rw [hl.unique (issOf_is ts s),hd.out.1,hd.out.2]
 exact ⟨rfl,hb⟩
end Go.Proofs.YtedkkphogeealaaGreatDoor
