/- Rows of accesses,by the program: interface values. -/
import Derived.Test.YtnoejapnjhogaaaGreatDoorQL4SS
import Derived.Test.YtnoejapnjhogaaaGreatDoorQLimA
import Derived.Deep.AppendLies
import Derived.Deep.DeepCutAuto
import Derived.Deep.CutBlock
import Derived.Test.YtnoejapnjhogaaaGreatDoorQAnsG
import Derived.Deep.RegionHeld3
import Derived.Deep.QuietTactic
import Derived.BigQuiet
import Derived.Test.YtnoejapnjhogaaaGreatDoorQLpI0
import Derived.Test.YtnoejapnjhogaaaGreatDoorQLlI0
namespace Go.Proofs.YtnoejapnjhogaaaGreatDoor
open Go.RowKit Go.Deep
set_option linter.unusedVariables false
def AccD.face (d:AccD):Value:=.iface (if d.u then 166 else 165) (.int .i64 d.v)
def RowX (w:World) (B:Nat) (v:Value) (l:List AccD):Prop:=w.ownsRow B 107 1 v l.length (l.map AccD.face)
theorem RowX.below {w w':World} {B:Nat} {v:Value} {l:List AccD} (h:RowX w B v l) (hb:Below w.heap.size w w'):RowX w' B v l :=
 World.ownsRow.kept (row:=none) h ⟨hb.os,hb.tape,hb.output,hb.size,fun k hk _=>hb.block k hk⟩ (by cases hv:v.ownBlock <;> simp)
theorem RowX.own {w:World} {B:Nat} {v:Value} {l:List AccD} (h:RowX w B v l):w.ownsRow B 107 1 v l.length (l.map AccD.face):=h
theorem RowX.mono {w:World} {B B':Nat} {v:Value} {l:List AccD} (h:RowX w B v l) (hb:B'≤B):RowX w B' v l:=by
 refine ⟨h.1,?_⟩
 rcases h.2 with h | ⟨g,cap,cur,e1,e2,e3⟩
 ·exact .inl h
 ·exact .inr ⟨g,cap,cur,e1,Nat.le_trans hb e2,e3⟩
theorem RowX.lt {w:World} {B:Nat} {v:Value} {l:List AccD} (h:RowX w B v l):∀ g,v.ownBlock=some g→B≤g∧g<w.heap.size:=World.ownsRow.lt h
theorem RowX.nil (w:World) (B:Nat):RowX w B (.slice none 0 0) []:=World.ownsRow_nil w B 107 1
theorem RowX.slice {w:World} {B:Nat} {v:Value} {l:List AccD} (h:RowX w B v l):∃ A c,v=.slice A l.length c:=by
 rcases h.2 with ⟨e1,e2⟩ | ⟨g,cap,cur,e1,_⟩
 ·exact ⟨none,0,by rw [e1,e2]⟩
 ·exact ⟨_,_,e1⟩
theorem RowX.snoc {w:World} {B:Nat} {v:Value} {l:List AccD} {d:AccD} (h:w.ownsRow B 107 1 v (l.length+1) (l.map AccD.face++[d.face])):RowX w B v (l++[d]):=by
 unfold RowX
 rw [List.length_append,List.map_append]
 exact h
theorem RowX.at {w:World} {B:Nat} {v:Value} {l:List AccD} (h:RowX w B v l) {k:Nat} {d:AccD} (hd:l[k]?=some d):∃ g c,v=.slice (some ⟨g,0,none⟩) l.length c∧B≤g∧g<w.heap.size∧w.cell? ⟨g,k,none⟩=some d.face:=by
 rcases h.2 with ⟨h1,h2⟩ | ⟨g,cap,cur,h1,h2,h3,h4,h5,h6,h7⟩
 ·have:=(List.getElem?_eq_some_iff.mp hd).1
  omega
 ·refine ⟨g,cap,h1,h2,heap_lt h3,?_⟩
  have:=World.ownsRow.cells h (g:=g) (by rw [h1];rfl) k d.face (by rw [List.getElem?_map,hd];rfl)
  rwa [add_block,Nat.zero_add] at this
theorem Tryz.infoAccessX:(Tryz.prog.info? 107).map (fun i=>(i.zero,i.size,i.bytes))=some (some .nilIface,1,16):=by kernel_rfl
theorem accA_takes {ts:List Int} {d:Nd} (hx:0≤d.x∧d.x≤5∧0≤d.y∧d.y≤5) (h4:d.op≠4) (h5:d.op≠5) (h6:d.op≠6) (h7:d.op≠7):accA ts d=(bitsOf (effD ts d).t).map fun (b:Nat)=>(⟨(b:Int),true⟩:AccD):=by
 have hone:∀ a:Int,0≤a→a≤5→(bitsOf (2 ^ a.toNat)).map (fun (b:Nat)=>(⟨(b:Int),true⟩:AccD))=[⟨a,true⟩]:=by
  intro a h0 h1
  obtain ⟨m,rfl⟩:∃ m:Nat,a=(m:Int):=⟨a.toNat,by omega⟩
  rw [Int.toNat_natCast]
  match m,(show m≤5 by omega) with
  | 0,_=>rfl
  | 1,_=>rfl
  | 2,_=>rfl
  | 3,_=>rfl
  | 4,_=>rfl
  | 5,_=>rfl
  | m+6,h=>omega
 unfold accA effD
 rw [if_neg (by omega),if_neg h5]
 by_cases h8:d.op=8
 ·rw [if_pos (.inr h8),if_neg (by omega),if_neg (by omega),if_neg (by omega),if_neg (by omega),if_pos h8]
  exact (hone _ hx.1 hx.2.1).symm
 ·rw [if_neg (by omega)]
  by_cases h3:d.op=3
  ·rw [if_neg (show ¬ (d.op=1∨d.op=2) by omega),if_pos h3]
   by_cases hr:tyAt ts d.y=2∨tyAt ts d.y=4
   ·rw [if_pos ⟨h3,hr⟩,if_pos hr]
    exact (hone _ hx.2.2.1 hx.2.2.2).symm
   ·rw [if_neg (fun h=>hr h.2),if_neg hr]
    show _=(bitsOf 0).map _
    rw [bitsOf_zero]
    rfl
  ·rw [if_neg (fun h=>h3 h.1)]
   by_cases h1:d.op=1∨d.op=2
   ·rw [if_pos h1]
    show _=(bitsOf 0).map _
    rw [bitsOf_zero]
    rfl
   ·rw [if_neg h1,if_neg h3,if_neg (by omega),if_neg h7,if_neg h8]
    show _=(bitsOf 0).map _
    rw [bitsOf_zero]
    rfl
theorem effD_sets {ts:List Int} {d:Nd} (hop:1≤d.op):(effD ts d).s=if 1≤d.op∧d.op≤6 then 2 ^ d.x.toNat else 0:=by
 unfold effD
 by_cases h1:d.op=1∨d.op=2
 ·rw [if_pos h1,if_pos (show 1≤d.op∧d.op≤6 by omega)]
 ·rw [if_neg h1]
  by_cases h3:d.op=3
  ·rw [if_pos h3,if_pos (show 1≤d.op∧d.op≤6 by omega)]
   split <;> rfl
  ·rw [if_neg h3]
   by_cases h4:d.op=4∨d.op=5∨d.op=6
   ·rw [if_pos h4,if_pos (show 1≤d.op∧d.op≤6 by omega)]
   ·rw [if_neg h4,if_neg (show ¬ (1≤d.op∧d.op≤6) by omega)]
    split
    ·rfl
    ·split <;> rfl
theorem freed_ne {ts:List Int} {d:Nd} (hop:1≤d.op) (m:Nat):(effD ts d).s&&&m≠0↔d.op≤6∧m.testBit d.x.toNat=true:=by
 rw [effD_sets hop]
 by_cases h:1≤d.op∧d.op≤6
 ·rw [if_pos h]
  constructor
  ·intro h0
   refine ⟨h.2,?_⟩
   cases hb:m.testBit d.x.toNat
   ·refine absurd (Nat.eq_of_testBit_eq fun i=>?_) h0
    rw [Nat.testBit_and,Nat.testBit_two_pow,Nat.zero_testBit]
    by_cases e:d.x.toNat=i
    ·rw [← e,hb];simp
    ·simp [e]
   ·rfl
  ·rintro ⟨-,hb⟩ h0
   have h1:(2 ^ d.x.toNat&&&m).testBit d.x.toNat=true:=by rw [Nat.testBit_and,Nat.testBit_two_pow,hb];simp
   rw [h0,Nat.zero_testBit] at h1
   cases h1
 ·rw [if_neg h,Nat.zero_and]
  exact ⟨fun e=>absurd rfl e,fun e=>absurd ⟨hop,e.1⟩ h⟩
theorem accD_freed {ts:List Int} {d:Nd} (hop:1≤d.op) (m:Nat):accD ts d (m.testBit d.x.toNat)=accA ts d++if (effD ts d).s&&&m≠0∧tyAt ts d.x=2 then [⟨d.x,true⟩] else []:=by
 rw [accD_is]
 congr 1
 unfold accB
 by_cases h:(effD ts d).s&&&m≠0∧tyAt ts d.x=2
 ·have h1:=(freed_ne hop m).1 h.1
  rw [if_pos h,if_pos ⟨hop,h1.1,h.2,h1.2⟩]
 ·rw [if_neg h,if_neg fun q=>h ⟨(freed_ne hop m).2 ⟨q.2.1,q.2.2.2⟩,q.2.2.1⟩]
set_option maxRecDepth 100000 in
set_option maxHeartbeats 8000000 in
theorem accesses_any (ts:List Int) (ns:List Nd) (q C F hi:Nat) (A:Option Addr) (c:Nat) (ah bk:Nat→Nat) (L:Nat) (mb lv:Nat→Nat) (k:Nat) (d:Nd) (w:World) (h:LndIn ts ns C F hi A c ah bk L ns.length mb lv w) (hD:PtsOk q ns) (hA:AllTyped ts ns) (hd:ns[k]?=some d) (hop1:1≤d.op) (hmb:mb k<64) (hTab:TabAt 0 Lib.deBruijn64tab w) (hg:0<w.heap.size) :
  Calls Tryz.prog 61 #[.pointer (some ⟨L,0,none⟩),.int .i64 k] w fun E w'=>∃ v',E=.returned v'∧RowX w' w.heap.size v' (accD ts d ((mb k).testBit d.x.toNat))∧Below w.heap.size w w':=by
 obtain ⟨i0,hi0,hzz0,hzz1,hzz2⟩:=info_parts Tryz.infoAccessX
 have HI:=Lib.hid hi0
 have HZ0:=Lib.hid hzz0
 have HZ1:=Lib.hid hzz1
 have HZ2:=Lib.hid hzz2
 have hkn:=(List.getElem?_eq_some_iff.mp hd).1
 have hle:=h.fl.gr.le
 have hk61:k<61:=by omega
 have he:=effD_ok hA.1 (hA.2 k d hd)
 have hLl:=h.ltW
 have hlt:=h.lt
 have ki0:(0:Int)≤(k:Int):=by omega
 have ki1:(k:Int)<61:=by omega
 have HL1:=Lib.hid h
 have HTAB:=Lib.hid hTab
 have HDK:=Lib.hid hd
 have HE:=Lib.hid he
 clear h hTab hD hA hd he hi0 hzz0 hzz1 hzz2
 go_enter Tryz.func61,Tryz.ntmps61
 go_upto_region 1 with fail
 go_cut [5,6] (fun s7 s8 wx=>∃ (b7 b8:Nat) (p0 p1:Int),s7=.pointer (some ⟨b7,0,none⟩)∧s8=.pointer (some ⟨b8,0,none⟩)∧wx.heap[b7]?=some (.cells ([.int .i64 d.op,.int .i64 d.x,.int .i64 d.y,.int .i64 d.n,.int .i64 p0,.int .i64 p1,.int .i64 d.next.length]:List Value).toArray 143 (0,0))∧wx.heap[b8]?=some (.cells ([.int .u64 ((effD ts d).r:Int),.int .u64 ((effD ts d).t:Int),.int .u64 ((effD ts d).c:Int),.int .u64 ((effD ts d).s:Int)]:List Value).toArray 85 (0,0))∧w.heap.size≤b7∧w.heap.size≤b8∧Below w.heap.size w wx)
 case first =>
  obtain ⟨p0,p1,hrN⟩:=HL1.out.fl.gr.ndRange HDK.out
  have hrN:Hid (∀ w9,Below w.heap.size w w9→w9.rangeAt C (k*7) [.int .i64 d.op,.int .i64 d.x,.int .i64 d.y,.int .i64 d.n,.int .i64 p0,.int .i64 p1,.int .i64 d.next.length]):=fun w9 h9=>hrN w9 (h9.block C (by have:=HL1.out.ltW;omega))
  have hrE:Hid (∀ w9,Below w.heap.size w w9→w9.rangeAt F (2+k*4) [.int .u64 ((effD ts d).r:Int),.int .u64 ((effD ts d).t:Int),.int .u64 ((effD ts d).c:Int),.int .u64 ((effD ts d).s:Int)]):=fun w9 h9=>(HL1.out.keep h9).fl.effRange HDK.out
  refine wp_region_held_drew (S:=fun w9=>Below w.heap.size w w9) (by kernel_rfl) (Below.refl _ _).drew (fun hHeld=>?_)
  generalize hwd:w.drew=wd at *
  clear hwd
  refine wpAnyH_take (i:=0) (oi:=⟨_,_,_,_,_,_⟩) (v:=.pointer (some ⟨L,0,none⟩)) rfl (by kernel_rfl) (by kernel_rfl) (by kernel_rfl) (fun _ _ _ h=>h) (Or.inl ⟨by rfl,fun w hSw=>by go_simp⟩) hHeld ?_
  try simp only [Act.put,sA,sB,sC]
  refine wpAnyH_take (i:=1) (oi:=⟨_,_,_,_,_,_⟩) (v:=.pointer (some ⟨L,0,none⟩)) rfl (by kernel_rfl) (by kernel_rfl) (by kernel_rfl) (fun _ _ _ h=>h) (Or.inl ⟨by rfl,fun w hSw=>by go_simp⟩) hHeld ?_
  try simp only [Act.put,sA,sB,sC]
  refine wpAnyH_take (i:=2) (oi:=⟨_,_,_,_,_,_⟩) (v:=.pointer (some ⟨L,0,none⟩)) rfl (by kernel_rfl) (by kernel_rfl) (by kernel_rfl) (fun _ _ _ h=>h) (Or.inl ⟨by rfl,fun w hSw=>by go_simp⟩) hHeld ?_
  try simp only [Act.put,sA,sB,sC]
  refine wpAnyH_take (i:=3) (oi:=⟨_,_,_,_,_,_⟩) (v:=.pointer (some ⟨F,0,none⟩)) rfl (by kernel_rfl) (by kernel_rfl) (by kernel_rfl) (fun _ _ _ h=>h) (Or.inl ⟨by rfl,fun w9 hSw=>by have h9:=(HL1.out.keep hSw).flCell;go_simp⟩) hHeld ?_
  try simp only [Act.put,sA,sB,sC]
  refine wpAnyH_take (i:=4) (oi:=⟨_,_,_,_,_,_⟩) (v:=.pointer (some ⟨F,0,none⟩)) rfl (by kernel_rfl) (by kernel_rfl) (by kernel_rfl) (fun _ _ _ h=>h) (Or.inl ⟨by rfl,fun w hSw=>by go_simp⟩) hHeld ?_
  try simp only [Act.put,sA,sB,sC]
  refine wpAnyH_take (i:=5) (oi:=⟨_,_,_,_,_,_⟩) (v:=.pointer (some ⟨F,0,none⟩)) rfl (by kernel_rfl) (by kernel_rfl) (by kernel_rfl) (fun _ _ _ h=>h) (Or.inl ⟨by rfl,fun w hSw=>by go_simp⟩) hHeld ?_
  try simp only [Act.put,sA,sB,sC]
  refine wpAnyH_take (i:=6) (oi:=⟨_,_,_,_,_,_⟩) (v:=.pointer (some ⟨C,0,none⟩)) rfl (by kernel_rfl) (by kernel_rfl) (by kernel_rfl) (fun _ _ _ h=>h) (Or.inl ⟨by rfl,fun w9 hSw=>by have h9:=(HL1.out.keep hSw).fl.grCell;go_simp⟩) hHeld ?_
  try simp only [Act.put,sA,sB,sC]
  refine wpAnyH_take (i:=7) (oi:=⟨_,_,_,_,_,_⟩) (v:=.int .i64 (k:Int)) rfl (by kernel_rfl) (by kernel_rfl) (by kernel_rfl) (fun _ _ _ h=>h) (Or.inl ⟨by rfl,fun w hSw=>by go_simp⟩) hHeld ?_
  try simp only [Act.put,sA,sB,sC]
  refine wpAnyH_take (i:=8) (oi:=⟨_,_,_,_,_,_⟩) (v:=.pointer (some ⟨C,0,none⟩)) rfl (by kernel_rfl) (by kernel_rfl) (by kernel_rfl) (fun _ _ _ h=>h) (Or.inl ⟨by rfl,fun w hSw=>by go_simp⟩) hHeld ?_
  try simp only [Act.put,sA,sB,sC]
  refine wpAnyH_take (i:=9) (oi:=⟨_,_,_,_,_,_⟩) (v:=.pointer (some ⟨C,0,none⟩)) rfl (by kernel_rfl) (by kernel_rfl) (by kernel_rfl) (fun _ _ _ h=>h) (Or.inl ⟨by rfl,fun w hSw=>by go_simp⟩) hHeld ?_
  try simp only [Act.put,sA,sB,sC]
  refine wpAnyH_take (i:=10) (oi:=⟨_,_,_,_,_,_⟩) (v:=.pointer (some ⟨C,k*7,none⟩)) rfl (by kernel_rfl) (by kernel_rfl) (by kernel_rfl) (fun _ _ _ h=>h) (Or.inl ⟨by rfl,fun w hSw=>by go_simp⟩) hHeld ?_
  try simp only [Act.put,sA,sB,sC]
  refine wpAnyH_take (i:=11) (oi:=⟨_,_,_,_,_,_⟩) (v:=.agg ([.int .i64 d.op,.int .i64 d.x,.int .i64 d.y,.int .i64 d.n,.int .i64 p0,.int .i64 p1,.int .i64 d.next.length]:List Value).toArray) rfl (by kernel_rfl) (by kernel_rfl) (by kernel_rfl) (fun _ _ _ h=>h) (yieldsIf_load_mid (by rfl) _ _ rfl C (k*7) rfl [.int .i64 d.op,.int .i64 d.x,.int .i64 d.y,.int .i64 d.n,.int .i64 p0,.int .i64 p1,.int .i64 d.next.length] _ (fun w9 hSw=>hrN.out w9 hSw) Tryz.underlying143 rfl (by kernel_rfl)) hHeld ?_
  try simp only [Act.put,sA,sB,sC]
  refine wpAnyH_take (i:=12) (oi:=⟨_,_,_,_,_,_⟩) (v:=.pointer (some ⟨L,0,none⟩)) rfl (by kernel_rfl) (by kernel_rfl) (by kernel_rfl) (fun _ _ _ h=>h) (Or.inl ⟨by rfl,fun w hSw=>by go_simp⟩) hHeld ?_
  try simp only [Act.put,sA,sB,sC]
  refine wpAnyH_take (i:=13) (oi:=⟨_,_,_,_,_,_⟩) (v:=.pointer (some ⟨L,0,none⟩)) rfl (by kernel_rfl) (by kernel_rfl) (by kernel_rfl) (fun _ _ _ h=>h) (Or.inl ⟨by rfl,fun w hSw=>by go_simp⟩) hHeld ?_
  try simp only [Act.put,sA,sB,sC]
  refine wpAnyH_take (i:=14) (oi:=⟨_,_,_,_,_,_⟩) (v:=.pointer (some ⟨L,0,none⟩)) rfl (by kernel_rfl) (by kernel_rfl) (by kernel_rfl) (fun _ _ _ h=>h) (Or.inl ⟨by rfl,fun w hSw=>by go_simp⟩) hHeld ?_
  try simp only [Act.put,sA,sB,sC]
  refine wpAnyH_take (i:=15) (oi:=⟨_,_,_,_,_,_⟩) (v:=.pointer (some ⟨F,0,none⟩)) rfl (by kernel_rfl) (by kernel_rfl) (by kernel_rfl) (fun _ _ _ h=>h) (Or.inl ⟨by rfl,fun w9 hSw=>by have h9:=(HL1.out.keep hSw).flCell;go_simp⟩) hHeld ?_
  try simp only [Act.put,sA,sB,sC]
  refine wpAnyH_take (i:=16) (oi:=⟨_,_,_,_,_,_⟩) (v:=.int .i64 (k:Int)) rfl (by kernel_rfl) (by kernel_rfl) (by kernel_rfl) (fun _ _ _ h=>h) (Or.inl ⟨by rfl,fun w hSw=>by go_simp⟩) hHeld ?_
  try simp only [Act.put,sA,sB,sC]
  refine wpAnyH_take (i:=17) (oi:=⟨_,_,_,_,_,_⟩) (v:=.pointer (some ⟨F,0,none⟩)) rfl (by kernel_rfl) (by kernel_rfl) (by kernel_rfl) (fun _ _ _ h=>h) (Or.inl ⟨by rfl,fun w hSw=>by go_simp⟩) hHeld ?_
  try simp only [Act.put,sA,sB,sC]
  refine wpAnyH_take (i:=18) (oi:=⟨_,_,_,_,_,_⟩) (v:=.pointer (some ⟨F,2,none⟩)) rfl (by kernel_rfl) (by kernel_rfl) (by kernel_rfl) (fun _ _ _ h=>h) (Or.inl ⟨by rfl,fun w hSw=>by go_simp⟩) hHeld ?_
  try simp only [Act.put,sA,sB,sC]
  refine wpAnyH_take (i:=19) (oi:=⟨_,_,_,_,_,_⟩) (v:=.pointer (some ⟨F,2+k*4,none⟩)) rfl (by kernel_rfl) (by kernel_rfl) (by kernel_rfl) (fun _ _ _ h=>h) (Or.inl ⟨by rfl,fun w hSw=>by go_simp⟩) hHeld ?_
  try simp only [Act.put,sA,sB,sC]
  refine wpAnyH_take (i:=20) (oi:=⟨_,_,_,_,_,_⟩) (v:=.agg ([.int .u64 ((effD ts d).r:Int),.int .u64 ((effD ts d).t:Int),.int .u64 ((effD ts d).c:Int),.int .u64 ((effD ts d).s:Int)]:List Value).toArray) rfl (by kernel_rfl) (by kernel_rfl) (by kernel_rfl) (fun _ _ _ h=>h) (yieldsIf_load_mid (by rfl) _ _ rfl F (2+k*4) rfl [.int .u64 ((effD ts d).r:Int),.int .u64 ((effD ts d).t:Int),.int .u64 ((effD ts d).c:Int),.int .u64 ((effD ts d).s:Int)] _ (fun w9 hSw=>hrE.out w9 hSw) Tryz.underlying85 rfl (by kernel_rfl)) hHeld ?_
  try simp only [Act.put,sA,sB,sC]
  refine wpAnyH_ready (rs:=[21,22]) (by kernel_rfl) (by simp) ?_
  refine AllReadyH.cons (o:=⟨_,_,_,_,_,_⟩) rfl (fun K hK=>?_) ?_
  ·skip
   go_simp
   have f7:=heap_alloc_new wd (.cells #[.int .i64 0,.int .i64 0,.int .i64 0,.int .i64 0,.int .i64 0,.int .i64 0,.int .i64 0] 143)
   have hs1:=hHeld.size
   refine hK.out _ _ (hHeld.alloc hHeld.size (.cells #[.int .i64 0,.int .i64 0,.int .i64 0,.int .i64 0,.int .i64 0,.int .i64 0,.int .i64 0] 143)) (fun hHeld=>?_)
   have hz1:(wd.alloc (.cells #[.int .i64 0,.int .i64 0,.int .i64 0,.int .i64 0,.int .i64 0,.int .i64 0,.int .i64 0] 143)).heap.size=wd.heap.size+1:=by simp
   generalize wd.alloc (.cells #[.int .i64 0,.int .i64 0,.int .i64 0,.int .i64 0,.int .i64 0,.int .i64 0,.int .i64 0] 143)=wa1 at *
   replace hz1:=Lib.hid hz1
   replace f7:=Lib.hid f7
   clear hK K
   have hzA:=hz1
   have hsA:=Lib.hid hs1
   refine wpAnyH_ready (rs:=[22]) (by kernel_rfl) (by simp) ?_
   refine AllReadyH.cons (o:=⟨_,_,_,_,_,_⟩) rfl (fun K hK=>?_) AllReadyH.nil
   go_simp
   have f8:=heap_alloc_new wa1 (.cells #[.int .u64 0,.int .u64 0,.int .u64 0,.int .u64 0] 85)
   replace f7:=((Below.refl wa1.heap.size wa1).alloc (Nat.le_refl _) (.cells #[.int .u64 0,.int .u64 0,.int .u64 0,.int .u64 0] 85)).block _ (heap_lt f7.out) |>.trans f7.out
   have hs2:=hHeld.size
   refine hK.out _ _ (hHeld.alloc hHeld.size (.cells #[.int .u64 0,.int .u64 0,.int .u64 0,.int .u64 0] 85)) (fun hHeld=>?_)
   have hz2:(wa1.alloc (.cells #[.int .u64 0,.int .u64 0,.int .u64 0,.int .u64 0] 85)).heap.size=wa1.heap.size+1:=by simp
   generalize wa1.alloc (.cells #[.int .u64 0,.int .u64 0,.int .u64 0,.int .u64 0] 85)=wa2 at *
   replace hz2:=Lib.hid hz2
   replace f7:=Lib.hid f7
   replace f8:=Lib.hid f8
   clear hK K
   refine wpAnyH_ready (rs:=[23]) (by kernel_rfl) (by simp) ?_
   refine AllReadyH.cons (o:=⟨_,_,_,_,_,_⟩) rfl (fun K hK=>?_) AllReadyH.nil
   rw [if_pos (by rfl)]
   refine wp_store_mid _ _ _ rfl (wd.heap.size) 0 ([.int .i64 d.op,.int .i64 d.x,.int .i64 d.y,.int .i64 d.n,.int .i64 p0,.int .i64 p1,.int .i64 d.next.length]:List Value).toArray rfl rfl (row_there f7.out rfl) (by kernel_rfl) (by simp [Value.oneCell']) ?_
   simp only [Act.put]
   have g7:=row_set ([.int .i64 d.op,.int .i64 d.x,.int .i64 d.y,.int .i64 d.n,.int .i64 p0,.int .i64 p1,.int .i64 d.next.length]:List Value) f7.out rfl
   have g8:=(heap_setCells_ne wa2 (wd.heap.size) (wa1.heap.size) 0 ([.int .i64 d.op,.int .i64 d.x,.int .i64 d.y,.int .i64 d.n,.int .i64 p0,.int .i64 p1,.int .i64 d.next.length]:List Value) (by have:=hzA.out;have:=hsA.out;omega) (heap_lt f8.out)).trans f8.out
   refine hK.out _ _ (below_setCells hHeld (by have:=hzA.out;have:=hsA.out;omega) hHeld.size) (fun hHeld=>?_)
   change Below w.heap.size w (wa2.setCells (wd.heap.size) 0 [.int .i64 d.op,.int .i64 d.x,.int .i64 d.y,.int .i64 d.n,.int .i64 p0,.int .i64 p1,.int .i64 d.next.length]) at hHeld
   skip
   generalize hgen:wa2.setCells (wd.heap.size) 0 _=wa3 at *
   clear hK K hgen
   replace f7:=Lib.hid g7
   clear g7
   replace f8:=Lib.hid g8
   clear g8
   refine wpAnyH_ready (rs:=[24]) (by kernel_rfl) (by simp) ?_
   refine AllReadyH.cons (o:=⟨_,_,_,_,_,_⟩) rfl (fun K hK=>?_) AllReadyH.nil
   rw [if_pos (by rfl)]
   refine wp_store_mid _ _ _ rfl (wa1.heap.size) 0 ([.int .u64 ((effD ts d).r:Int),.int .u64 ((effD ts d).t:Int),.int .u64 ((effD ts d).c:Int),.int .u64 ((effD ts d).s:Int)]:List Value).toArray rfl rfl (row_there f8.out rfl) (by kernel_rfl) (by simp [Value.oneCell']) ?_
   simp only [Act.put]
   have g8:=row_set ([.int .u64 ((effD ts d).r:Int),.int .u64 ((effD ts d).t:Int),.int .u64 ((effD ts d).c:Int),.int .u64 ((effD ts d).s:Int)]:List Value) f8.out rfl
   have g7:=(heap_setCells_ne wa3 (wa1.heap.size) (wd.heap.size) 0 ([.int .u64 ((effD ts d).r:Int),.int .u64 ((effD ts d).t:Int),.int .u64 ((effD ts d).c:Int),.int .u64 ((effD ts d).s:Int)]:List Value) (by have:=hzA.out;have:=hsA.out;omega) (heap_lt f7.out)).trans f7.out
   refine hK.out _ _ (below_setCells hHeld (by have:=hzA.out;have:=hsA.out;omega) hHeld.size) (fun hHeld=>?_)
   change Below w.heap.size w (wa3.setCells (wa1.heap.size) 0 [.int .u64 ((effD ts d).r:Int),.int .u64 ((effD ts d).t:Int),.int .u64 ((effD ts d).c:Int),.int .u64 ((effD ts d).s:Int)]) at hHeld
   skip
   generalize hgen:wa3.setCells (wa1.heap.size) 0 _=wa4 at *
   clear hK K hgen
   replace f7:=Lib.hid g7
   clear g7
   replace f8:=Lib.hid g8
   clear g8
   refine wpAnyH_done (by kernel_rfl) ?_ _
   go_wp2_with fail
   go_meet
   exact ⟨wd.heap.size,wa1.heap.size,p0,p1,rfl,rfl,f7.out,f8.out,by have:=hzA.out;have:=hsA.out;omega,by have:=hzA.out;have:=hsA.out;omega,hHeld⟩
  refine AllReadyH.cons (o:=⟨_,_,_,_,_,_⟩) rfl (fun K hK=>?_) AllReadyH.nil
  go_simp
  have f8:=heap_alloc_new wd (.cells #[.int .u64 0,.int .u64 0,.int .u64 0,.int .u64 0] 85)
  have hs1:=hHeld.size
  refine hK.out _ _ (hHeld.alloc hHeld.size (.cells #[.int .u64 0,.int .u64 0,.int .u64 0,.int .u64 0] 85)) (fun hHeld=>?_)
  have hz1:(wd.alloc (.cells #[.int .u64 0,.int .u64 0,.int .u64 0,.int .u64 0] 85)).heap.size=wd.heap.size+1:=by simp
  generalize wd.alloc (.cells #[.int .u64 0,.int .u64 0,.int .u64 0,.int .u64 0] 85)=wa1 at *
  replace hz1:=Lib.hid hz1
  replace f8:=Lib.hid f8
  clear hK K
  have hzA:=hz1
  have hsA:=Lib.hid hs1
  refine wpAnyH_ready (rs:=[21]) (by kernel_rfl) (by simp) ?_
  refine AllReadyH.cons (o:=⟨_,_,_,_,_,_⟩) rfl (fun K hK=>?_) AllReadyH.nil
  go_simp
  have f7:=heap_alloc_new wa1 (.cells #[.int .i64 0,.int .i64 0,.int .i64 0,.int .i64 0,.int .i64 0,.int .i64 0,.int .i64 0] 143)
  replace f8:=((Below.refl wa1.heap.size wa1).alloc (Nat.le_refl _) (.cells #[.int .i64 0,.int .i64 0,.int .i64 0,.int .i64 0,.int .i64 0,.int .i64 0,.int .i64 0] 143)).block _ (heap_lt f8.out) |>.trans f8.out
  have hs2:=hHeld.size
  refine hK.out _ _ (hHeld.alloc hHeld.size (.cells #[.int .i64 0,.int .i64 0,.int .i64 0,.int .i64 0,.int .i64 0,.int .i64 0,.int .i64 0] 143)) (fun hHeld=>?_)
  have hz2:(wa1.alloc (.cells #[.int .i64 0,.int .i64 0,.int .i64 0,.int .i64 0,.int .i64 0,.int .i64 0,.int .i64 0] 143)).heap.size=wa1.heap.size+1:=by simp
  generalize wa1.alloc (.cells #[.int .i64 0,.int .i64 0,.int .i64 0,.int .i64 0,.int .i64 0,.int .i64 0,.int .i64 0] 143)=wa2 at *
  replace hz2:=Lib.hid hz2
  replace f8:=Lib.hid f8
  replace f7:=Lib.hid f7
  clear hK K
  refine wpAnyH_ready (rs:=[23]) (by kernel_rfl) (by simp) ?_
  refine AllReadyH.cons (o:=⟨_,_,_,_,_,_⟩) rfl (fun K hK=>?_) AllReadyH.nil
  rw [if_pos (by rfl)]
  refine wp_store_mid _ _ _ rfl (wa1.heap.size) 0 ([.int .i64 d.op,.int .i64 d.x,.int .i64 d.y,.int .i64 d.n,.int .i64 p0,.int .i64 p1,.int .i64 d.next.length]:List Value).toArray rfl rfl (row_there f7.out rfl) (by kernel_rfl) (by simp [Value.oneCell']) ?_
  simp only [Act.put]
  have g7:=row_set ([.int .i64 d.op,.int .i64 d.x,.int .i64 d.y,.int .i64 d.n,.int .i64 p0,.int .i64 p1,.int .i64 d.next.length]:List Value) f7.out rfl
  have g8:=(heap_setCells_ne wa2 (wa1.heap.size) (wd.heap.size) 0 ([.int .i64 d.op,.int .i64 d.x,.int .i64 d.y,.int .i64 d.n,.int .i64 p0,.int .i64 p1,.int .i64 d.next.length]:List Value) (by have:=hzA.out;have:=hsA.out;omega) (heap_lt f8.out)).trans f8.out
  refine hK.out _ _ (below_setCells hHeld (by have:=hzA.out;have:=hsA.out;omega) hHeld.size) (fun hHeld=>?_)
  change Below w.heap.size w (wa2.setCells (wa1.heap.size) 0 [.int .i64 d.op,.int .i64 d.x,.int .i64 d.y,.int .i64 d.n,.int .i64 p0,.int .i64 p1,.int .i64 d.next.length]) at hHeld
  skip
  generalize hgen:wa2.setCells (wa1.heap.size) 0 _=wa3 at *
  clear hK K hgen
  replace f8:=Lib.hid g8
  clear g8
  replace f7:=Lib.hid g7
  clear g7
  refine wpAnyH_ready (rs:=[24]) (by kernel_rfl) (by simp) ?_
  refine AllReadyH.cons (o:=⟨_,_,_,_,_,_⟩) rfl (fun K hK=>?_) AllReadyH.nil
  rw [if_pos (by rfl)]
  refine wp_store_mid _ _ _ rfl (wd.heap.size) 0 ([.int .u64 ((effD ts d).r:Int),.int .u64 ((effD ts d).t:Int),.int .u64 ((effD ts d).c:Int),.int .u64 ((effD ts d).s:Int)]:List Value).toArray rfl rfl (row_there f8.out rfl) (by kernel_rfl) (by simp [Value.oneCell']) ?_
  simp only [Act.put]
  have g8:=row_set ([.int .u64 ((effD ts d).r:Int),.int .u64 ((effD ts d).t:Int),.int .u64 ((effD ts d).c:Int),.int .u64 ((effD ts d).s:Int)]:List Value) f8.out rfl
  have g7:=(heap_setCells_ne wa3 (wd.heap.size) (wa1.heap.size) 0 ([.int .u64 ((effD ts d).r:Int),.int .u64 ((effD ts d).t:Int),.int .u64 ((effD ts d).c:Int),.int .u64 ((effD ts d).s:Int)]:List Value) (by have:=hzA.out;have:=hsA.out;omega) (heap_lt f7.out)).trans f7.out
  refine hK.out _ _ (below_setCells hHeld (by have:=hzA.out;have:=hsA.out;omega) hHeld.size) (fun hHeld=>?_)
  change Below w.heap.size w (wa3.setCells (wd.heap.size) 0 [.int .u64 ((effD ts d).r:Int),.int .u64 ((effD ts d).t:Int),.int .u64 ((effD ts d).c:Int),.int .u64 ((effD ts d).s:Int)]) at hHeld
  skip
  generalize hgen:wa3.setCells (wd.heap.size) 0 _=wa4 at *
  clear hK K hgen
  replace f8:=Lib.hid g8
  clear g8
  replace f7:=Lib.hid g7
  clear g7
  refine wpAnyH_done (by kernel_rfl) ?_ _
  go_wp2_with fail
  go_meet
  exact ⟨wa1.heap.size,wd.heap.size,p0,p1,rfl,rfl,f7.out,f8.out,by have:=hzA.out;have:=hsA.out;omega,by have:=hzA.out;have:=hsA.out;omega,hHeld⟩
 case rest =>
  obtain ⟨b7,b8,p0,p1,rfl,rfl,h7,h8,hn7,hn8,hbc⟩:=hcut
  obtain ⟨wb,rfl⟩:∃ z,z=wc:=⟨_,rfl⟩
  have hxy:=HE.out.xy
  have HL:=Lib.hid (HL1.out.keep hbc)
  have HT2:=Lib.hid (tab_below HTAB.out hg hbc)
  have hg2:0<wb.heap.size:=Nat.lt_of_lt_of_le hg hbc.size
  have HB0:=Lib.hid hbc
  have HC7:Hid (wb.cell? ⟨b7,0,none⟩=some (.int .i64 d.op)∧wb.cell? ⟨b7,1,none⟩=some (.int .i64 d.x)∧wb.cell? ⟨b7,2,none⟩=some (.int .i64 d.y)):=Lib.hid ⟨(cB h7 0).trans rfl,(cB h7 1).trans rfl,(cB h7 2).trans rfl⟩
  have HC8:Hid (wb.cell? ⟨b8,1,none⟩=some (.int .u64 ((effD ts d).t:Int))∧wb.cell? ⟨b8,3,none⟩=some (.int .u64 ((effD ts d).s:Int))):=Lib.hid ⟨(cB h8 1).trans rfl,(cB h8 3).trans rfl⟩
  have HL7:Hid (b7<wb.heap.size∧b8<wb.heap.size):=Lib.hid ⟨heap_lt h7,heap_lt h8⟩
  have HN:Hid (w.heap.size≤wb.heap.size):=Lib.hid hbc.size
  clear h7 h8 hn7 hn8 hbc HL1 HTAB hg
  have x0:=HC7.out.1
  have x1:=HC7.out.2.1
  have x2:=HC7.out.2.2
  have y1:=HC8.out.1
  have HRW:=Lib.hid (RowX.nil wb wb.heap.size)
  go_upto_block 0 with fail
  obtain ⟨op,hop⟩:∃ op,op=d.op:=⟨_,rfl⟩
  simp only [← hop]
  rw [← hop] at x0
  have HOP:=Lib.hid hop
  clear hop
  go_cut [7] (fun s7 wx=>∃ (A:Option Addr) (c7:Nat),s7=.slice A (accA ts d).length c7∧Hid (RowX wx wb.heap.size (.slice A (accA ts d).length c7) (accA ts d))∧Hid (Below wb.heap.size wb wx))
  case first =>
   by_cases e4:op=4
   ·subst e4
    have HACC:Hid (accA ts d=[⟨d.y,false⟩]):=Lib.hid (by unfold accA;rw [← HOP.out];simp)
    go_wp2_with (at_builtin;refine wpList_append_lies _ rfl _ _ 104 rfl wb.heap.size 107 i0 .nilIface 1 16 Tryz.underlying104 HI.out HZ0.out HZ1.out HZ2.out rfl (by decide) _ _ _ rfl ((RowX.own HRW.out).alloc _) ⟨_,0,none⟩ 1 1 [.iface 165 (.int .i64 d.y)] rfl rfl ?x01 ?x02 (by decide) ?x03 ?x04 ?x05 _ rfl ?_)
    try (case x01=>exact news_cell (by simp) rfl)
    try (case x02=>(intro u9 hu9;simp only [List.mem_cons,List.not_mem_nil,or_false] at hu9;rcases hu9 with rfl;rfl))
    try (case x03=>(unfold maxLen;first | omega | (simp only [List.length_nil];omega)))
    try (case x04=>(first | omega | (simp only [List.length_nil];omega)))
    try (case x05=>(skip;first | omega | (simp;omega) | simp))
    intro g9 cap9 w9 hown9 hgg9 hat9 hlt9
    have HR9:=Lib.hid (RowX.snoc (l:=[]) (d:=⟨d.y,false⟩) hown9)
    have hba:=(Below.refl wb.heap.size wb).alloc (Nat.le_refl _) (.cells #[.iface 165 (.int .i64 d.y)] 107)
    have HB9:=Lib.hid (hba.grown hgg9 hba.size (fun j hj=>(RowX.lt HRW.out j hj).1))
    clear hown9 hgg9 hat9 hlt9 hba
    go_wp2_with fail
    go_meet
    exact ⟨some ⟨g9,0,none⟩,cap9,by rw [HACC.out];rfl,by rw [HACC.out];exact HR9,HB9⟩
   have n4:(op==4)=false:=by simp [e4]
   have d4:decide (op=4)=false:=decide_eq_false e4
   by_cases e6:op=6
   ·subst e6
    have HACC:Hid (accA ts d=[⟨d.y,false⟩]):=Lib.hid (by unfold accA;rw [← HOP.out];simp)
    go_wp2_with (at_builtin;refine wpList_append_lies _ rfl _ _ 104 rfl wb.heap.size 107 i0 .nilIface 1 16 Tryz.underlying104 HI.out HZ0.out HZ1.out HZ2.out rfl (by decide) _ _ _ rfl ((RowX.own HRW.out).alloc _) ⟨_,0,none⟩ 1 1 [.iface 165 (.int .i64 d.y)] rfl rfl ?x11 ?x12 (by decide) ?x13 ?x14 ?x15 _ rfl ?_)
    try (case x11=>exact news_cell (by simp) rfl)
    try (case x12=>(intro u9 hu9;simp only [List.mem_cons,List.not_mem_nil,or_false] at hu9;rcases hu9 with rfl;rfl))
    try (case x13=>(unfold maxLen;first | omega | (simp only [List.length_nil];omega)))
    try (case x14=>(first | omega | (simp only [List.length_nil];omega)))
    try (case x15=>(skip;first | omega | (simp;omega) | simp))
    intro g9 cap9 w9 hown9 hgg9 hat9 hlt9
    have HR9:=Lib.hid (RowX.snoc (l:=[]) (d:=⟨d.y,false⟩) hown9)
    have hba:=(Below.refl wb.heap.size wb).alloc (Nat.le_refl _) (.cells #[.iface 165 (.int .i64 d.y)] 107)
    have HB9:=Lib.hid (hba.grown hgg9 hba.size (fun j hj=>(RowX.lt HRW.out j hj).1))
    clear hown9 hgg9 hat9 hlt9 hba
    go_wp2_with fail
    go_meet
    exact ⟨some ⟨g9,0,none⟩,cap9,by rw [HACC.out];rfl,by rw [HACC.out];exact HR9,HB9⟩
   have n6:(op==6)=false:=by simp [e6]
   have d6:decide (op=6)=false:=decide_eq_false e6
   by_cases e5:op=5
   ·subst e5
    have HACC:Hid (accA ts d=[⟨d.y,true⟩]):=Lib.hid (by unfold accA;rw [← HOP.out];simp)
    go_wp2_with (at_builtin;refine wpList_append_lies _ rfl _ _ 104 rfl wb.heap.size 107 i0 .nilIface 1 16 Tryz.underlying104 HI.out HZ0.out HZ1.out HZ2.out rfl (by decide) _ _ _ rfl ((RowX.own HRW.out).alloc _) ⟨_,0,none⟩ 1 1 [.iface 166 (.int .i64 d.y)] rfl rfl ?x21 ?x22 (by decide) ?x23 ?x24 ?x25 _ rfl ?_)
    try (case x21=>exact news_cell (by simp) rfl)
    try (case x22=>(intro u9 hu9;simp only [List.mem_cons,List.not_mem_nil,or_false] at hu9;rcases hu9 with rfl;rfl))
    try (case x23=>(unfold maxLen;first | omega | (simp only [List.length_nil];omega)))
    try (case x24=>(first | omega | (simp only [List.length_nil];omega)))
    try (case x25=>(skip;first | omega | (simp;omega) | simp))
    intro g9 cap9 w9 hown9 hgg9 hat9 hlt9
    have HR9:=Lib.hid (RowX.snoc (l:=[]) (d:=⟨d.y,true⟩) hown9)
    have hba:=(Below.refl wb.heap.size wb).alloc (Nat.le_refl _) (.cells #[.iface 166 (.int .i64 d.y)] 107)
    have HB9:=Lib.hid (hba.grown hgg9 hba.size (fun j hj=>(RowX.lt HRW.out j hj).1))
    clear hown9 hgg9 hat9 hlt9 hba
    go_wp2_with fail
    go_meet
    exact ⟨some ⟨g9,0,none⟩,cap9,by rw [HACC.out];rfl,by rw [HACC.out];exact HR9,HB9⟩
   have n5:(op==5)=false:=by simp [e5]
   have d5:decide (op=5)=false:=decide_eq_false e5
   by_cases e7:op=7
   ·subst e7
    have HACC:Hid (accA ts d=[⟨d.x,true⟩]):=Lib.hid (by unfold accA;rw [← HOP.out];simp)
    go_wp2_with (at_builtin;refine wpList_append_lies _ rfl _ _ 104 rfl wb.heap.size 107 i0 .nilIface 1 16 Tryz.underlying104 HI.out HZ0.out HZ1.out HZ2.out rfl (by decide) _ _ _ rfl ((RowX.own HRW.out).alloc _) ⟨_,0,none⟩ 1 1 [.iface 166 (.int .i64 d.x)] rfl rfl ?x31 ?x32 (by decide) ?x33 ?x34 ?x35 _ rfl ?_)
    try (case x31=>exact news_cell (by simp) rfl)
    try (case x32=>(intro u9 hu9;simp only [List.mem_cons,List.not_mem_nil,or_false] at hu9;rcases hu9 with rfl;rfl))
    try (case x33=>(unfold maxLen;first | omega | (simp only [List.length_nil];omega)))
    try (case x34=>(first | omega | (simp only [List.length_nil];omega)))
    try (case x35=>(skip;first | omega | (simp;omega) | simp))
    intro g9 cap9 w9 hown9 hgg9 hat9 hlt9
    have HR9:=Lib.hid (RowX.snoc (l:=[]) (d:=⟨d.x,true⟩) hown9)
    have hba:=(Below.refl wb.heap.size wb).alloc (Nat.le_refl _) (.cells #[.iface 166 (.int .i64 d.x)] 107)
    have HB9:=Lib.hid (hba.grown hgg9 hba.size (fun j hj=>(RowX.lt HRW.out j hj).1))
    clear hown9 hgg9 hat9 hlt9 hba
    go_wp2_with fail
    go_meet
    exact ⟨some ⟨g9,0,none⟩,cap9,by rw [HACC.out];rfl,by rw [HACC.out];exact HR9,HB9⟩
   have n7:(op==7)=false:=by simp [e7]
   have d7:decide (op=7)=false:=decide_eq_false e7
   have HACC:Hid (accA ts d=(bitsOf (effD ts d).t).map fun (b:Nat)=>(⟨(b:Int),true⟩:AccD)):=Lib.hid (accA_takes hxy (by rw [← HOP.out];exact e4) (by rw [← HOP.out];exact e5) (by rw [← HOP.out];exact e6) (by rw [← HOP.out];exact e7))
   have htl:=HE.out.tlt
   have hls:=setList_any (effD ts d).t (by omega) wb HT2.out hg2
   obtain ⟨tt,htt⟩:∃ t,(effD ts d).t=t:=⟨_,rfl⟩
   rw [htt] at y1 HACC hls htl
   clear htt HRW e4 e5 e6 e7
   go_wp2_with fail
   refine hls.mono ?_
   rintro E w5 ⟨v,rfl,hrow,hb5⟩
   obtain ⟨Ar,cr,hvs⟩:=hrow.slice
   subst hvs
   obtain ⟨bl,hbl⟩:∃ bl,bl=bitsOf tt:=⟨_,rfl⟩
   have hll:(intsOf tt).length=bl.length:=by rw [hbl];simp [intsOf]
   have hlen64:=intsOf_length tt
   have HROW:Hid (RowI w5 wb.heap.size (.slice Ar bl.length cr) (intsOf tt)):=by rw [← hll];exact hrow
   rw [hll] at hlen64
   have HLI:Hid (intsOf tt=bl.map (fun (k:Nat)=>(k:Int))):=by rw [hbl];rfl
   rw [← hbl] at HACC
   have hmb':∀ b∈bl,b<64:=fun b hb=>((mem_bitsOf tt b).mp (hbl ▸ hb)).1
   have HB5:=Lib.hid hb5
   rw [hll]
   clear hrow hll hbl hb5 hls x0 x1 x2 y1 n4 n5 n6 n7 d4 d5 d6 d7
   go_wp2_with fail
   go_loopw [7,38] (fun v7 i wr=>∃ (j:Nat) (A7:Option Addr) (c7:Nat),v7=.slice A7 j c7∧i=.int .i64 j∧j≤bl.length∧Hid (RowX wr w5.heap.size (.slice A7 j c7) ((accA ts d).take j))∧Hid (Below w5.heap.size w5 wr)) (fun _ i _=>bl.length-(intOf i).toNat)
   case atStart=>exact ⟨0,none,0,rfl,rfl,Nat.zero_le _,Lib.hid (RowX.nil _ _),Lib.hid (Below.refl _ _)⟩
   case round =>
    obtain ⟨j,A7,c7,rfl,rfl,hj,HR,HB⟩:=hrel
    have hal:(accA ts d).length=bl.length:=by rw [HACC.out,List.length_map]
    by_cases hjl:j<bl.length
    ·obtain ⟨b,hb⟩:∃ b,bl[j]?=some b:=⟨bl[j],List.getElem?_eq_getElem hjl⟩
     have hb64:=hmb' b (List.mem_of_getElem? hb)
     have hab:(accA ts d)[j]?=some ⟨(b:Int),true⟩:=by rw [HACC.out,List.getElem?_map,hb];rfl
     have htk:(accA ts d).take (j+1)=(accA ts d).take j++[⟨(b:Int),true⟩]:=by rw [List.take_add_one,hab];rfl
     have htl:((accA ts d).take j).length=j:=by rw [List.length_take,hal];omega
     obtain ⟨b0,u,hb0,-,hbb,hxx,hc⟩:=(RowI.intsV HROW.out).elem (k:=j) (by rw [HLI.out];simpa using hjl)
     subst hb0
     have hub:u=(b:Int):=by
      rw [HLI.out,List.getElem?_map,hb] at hxx
      simpa using hxx.symm
     subst hub
     replace hc:=(HB.out.cell (p:=b0.add j) (by rw [block_add];exact hbb)).trans hc
     have ji0:(0:Int)≤(j:Int):=by omega
     have ji1:(j:Int)<(bl.length:Int):=by omega
     have f1:IntKind.i64.wrap ((j:Int)+1)=(j:Int)+1:=IntWalk.i64_in _ (by omega)
     have HTK:=Lib.hid htk
     have HRO:Hid (wr.ownsRow w5.heap.size 107 1 (.slice A7 j c7) j (((accA ts d).take j).map AccD.face)):=Lib.hid (by have:=RowX.own HR.out;rwa [htl] at this)
     have HTL:=Lib.hid htl
     clear htk htl hxx hab hb hal
     go_wp2_with (at_builtin;refine wpList_append_lies _ rfl _ _ 104 rfl w5.heap.size 107 i0 .nilIface 1 16 Tryz.underlying104 HI.out HZ0.out HZ1.out HZ2.out rfl (by decide) _ _ _ rfl (HRO.out.alloc _) ⟨_,0,none⟩ 1 1 [.iface 166 (.int .i64 (b:Int))] rfl rfl ?x91 ?x92 (by decide) ?x93 ?x94 ?x95 _ rfl ?_)
     try (case x91=>exact news_cell (by simp) rfl)
     try (case x92=>(intro u9 hu9;simp only [List.mem_cons,List.not_mem_nil,or_false] at hu9;rcases hu9 with rfl;rfl))
     try (case x93=>(unfold maxLen;first | omega | (simp only [List.length_nil];omega)))
     try (case x94=>(first | omega | (simp only [List.length_nil];omega)))
     try (case x95=>(have:=HB.out.size;first | omega | (simp;omega) | simp))
     intro g9 cap9 w9 hown9 hgg9 hat9 hlt9
     have HR9:Hid (RowX w9 w5.heap.size (.slice (some ⟨g9,0,none⟩) (j+1) cap9) ((accA ts d).take (j+1))):=Lib.hid (by
      rw [HTK.out]
      exact RowX.snoc (d:=⟨(b:Int),true⟩) (by rw [HTL.out,List.map_take];exact hown9))
     have hba:=(Below.refl wr.heap.size wr).alloc (Nat.le_refl _) (.cells #[.iface 166 (.int .i64 (b:Int))] 107)
     have HB9:=Lib.hid ((HB.out.trans (hba.mono HB.out.size)).grown hgg9 (Nat.le_trans HB.out.size hba.size) (fun j hj=>(RowX.lt HR.out j hj).1))
     clear hown9 hgg9 hat9 hlt9 hba
     go_wp2_with fail
     go_roundw
     case rel=>exact ⟨j+1,some ⟨g9,0,none⟩,cap9,rfl,by go_num,by omega,HR9,HB9⟩
     case measure=>simp [intOf];omega
    ·have hjn:j=bl.length:=by omega
     have jd:decide ((j:Int)<(bl.length:Int))=false:=decide_eq_false (by omega)
     have HRE:Hid (RowX wr wb.heap.size (.slice A7 (accA ts d).length c7) (accA ts d)):=Lib.hid (by
      have h9:=HR.out
      rw [hjn,← hal,List.take_length] at h9
      exact h9.mono HB5.out.size)
     have HBE:=Lib.hid (HB5.out.trans (HB.out.mono HB5.out.size))
     go_wp2_with fail
     go_meet
     exact ⟨A7,c7,by rw [hal,hjn],HRE,HBE⟩
  case rest =>
   obtain ⟨A7,c7,rfl,HR7,HB7⟩:=hcut
   clear x0 x1 x2 y1 HRW
   have x1:=(HB7.out.cell (p:=⟨b7,1,none⟩) HL7.out.1).trans HC7.out.2.1
   have y3:=(HB7.out.cell (p:=⟨b8,3,none⟩) HL7.out.2).trans HC8.out.2
   have HL9:=Lib.hid (HL.out.keep HB7.out)
   have hsl:=HE.out.slt
   have hac:=accD_freed (ts:=ts) hop1 (mb k)
   have hand:=bits_and_u64 (effD ts d).s (mb k) (by omega) (by omega)
   obtain ⟨z,hz⟩:∃ z,(effD ts d).s&&&mb k=z:=⟨_,rfl⟩
   obtain ⟨se,hse⟩:∃ s,(effD ts d).s=s:=⟨_,rfl⟩
   have hmk:=HL9.out.mbCell hk61
   obtain ⟨mk,hmk'⟩:∃ m,mb k=m:=⟨_,rfl⟩
   rw [hz] at hand hac
   rw [hse] at hand y3
   rw [hmk'] at hand hmk
   have HAC:=Lib.hid hac
   have HX1:=Lib.hid x1
   have hzl:z<18446744073709551616:=by rw [← hz,hse];exact Nat.lt_of_le_of_lt Nat.and_le_left (by omega)
   clear hac hz hse hmk'
   go_upto_region 16 with (fail)
   go_quiet (fail)
   go_wp2_with fail
   generalize hwd:World.drewN wc _=wd
   have hq:Below wc.heap.size wc wd:=by rw [← hwd];exact ⟨rfl,rfl,rfl,Nat.le_refl _,fun _ _=>rfl⟩
   clear hwd hmk hand y3
   have HR2:=Lib.hid (HR7.out.below hq)
   have HB2:=Lib.hid (HB7.out.trans (hq.mono HB7.out.size))
   have HBW:=Lib.hid (HB0.out.trans (HB2.out.mono HB0.out.size))
   have HLD:=Lib.hid (HL9.out.keep hq)
   have HDX:=Lib.hid ((hq.cell (p:=⟨b7,1,none⟩) (Nat.lt_of_lt_of_le HL7.out.1 HB7.out.size)).trans HX1.out)
   have HLD7:Hid (b7<wd.heap.size):=Lib.hid (Nat.lt_of_lt_of_le HL7.out.1 HB2.out.size)
   clear hq HR7 HB7 HL9 HX1 x1
   by_cases hz0:z=0
   ·subst hz0
    have HAE:Hid (accD ts d ((mb k).testBit d.x.toNat)=accA ts d):=Lib.hid (by rw [HAC.out,if_neg (fun q=>q.1 rfl)];simp)
    go_quiet (fail)
    generalize hwe:World.drewN wd _=we
    have hq:Below wd.heap.size wd we:=by rw [← hwe];exact ⟨rfl,rfl,rfl,Nat.le_refl _,fun _ _=>rfl⟩
    clear hwe
    go_wp2_with fail
    go_ret
    exact ⟨_,rfl,by rw [HAE.out];exact (HR2.out.below hq).mono HN.out,HBW.out.trans (hq.mono HBW.out.size)⟩
   ·have z1:((z:Int) != 0)=true:=by simpa using hz0
    have z2:decide (¬ ((z:Int)=0))=true:=decide_eq_true (by omega)
    have z3:((z:Int)==0)=false:=by simpa using hz0
    have z4:decide ((z:Int)=0)=false:=decide_eq_false (by omega)
    obtain ⟨ty,hty⟩:∃ t,tyAt ts d.x=t:=⟨_,rfl⟩
    have HAT:Hid (accD ts d ((mb k).testBit d.x.toNat)=accA ts d++if ty=2 then [⟨d.x,true⟩] else []):=Lib.hid (by rw [HAC.out,hty];simp [hz0])
    have HTE:Hid (∀ w',Below wd.heap.size wd w'→Calls Tryz.prog 93 #[.slice A ts.length c,.int .i64 d.x] w' fun E w''=>E=.returned (.int .i64 ty)∧w'=w''):=Lib.hid (fun w' hb=>by
     have h:=typeOf_any ts A c d.x w' (HLD.out.keep hb).fl.scope
     rwa [hty] at h)
    have HS:Hid (∀ w',Below wd.heap.size wd w'→(Below wd.heap.size wd w'∧w'.cell? ⟨L,0,none⟩=some (.pointer (some ⟨F,0,none⟩))∧w'.cell? ⟨F,1,none⟩=some (.slice A ts.length c)∧w'.cell? ⟨b7,1,none⟩=some (.int .i64 d.x))):=Lib.hid (fun w' hb=>⟨hb,(HLD.out.keep hb).flCell,(HLD.out.keep hb).fl.scCell,(hb.cell (p:=⟨b7,1,none⟩) HLD7.out).trans HDX.out⟩)
    clear hty HAC
    go_region_held3 (fun w'=>Below wd.heap.size wd w'∧w'.cell? ⟨L,0,none⟩=some (.pointer (some ⟨F,0,none⟩))∧w'.cell? ⟨F,1,none⟩=some (.slice A ts.length c)∧w'.cell? ⟨b7,1,none⟩=some (.int .i64 d.x))
     (first | with_reducible exact HS.out _ ((Below.refl wd.heap.size wd).drew) | with_reducible exact HS.out _ (Below.refl wd.heap.size wd) | (with_reducible assumption))
     ((go_at_call 93;(with_reducible refine (HTE.out _ (And.left ‹Below wd.heap.size wd _∧_›)).mono ?_);rintro E w'' ⟨rfl,rfl⟩))
    clear HTE HS z1 z2 z3 z4
    all_goals
     obtain ⟨hq2,-,-,hdx⟩:=‹Below wd.heap.size wd _∧_›
     obtain ⟨wf,hwf⟩:∃ z,wd.drew=z:=⟨_,rfl⟩
     rw [hwf] at hq2 hdx ⊢
     clear hwf
     have HBX:=Lib.hid (HBW.out.trans (hq2.mono HBW.out.size))
     replace HR2:=Lib.hid (HR2.out.below hq2)
     replace HB2:=Lib.hid (HB2.out.trans (hq2.mono HB2.out.size))
     clear hq2
     have hla:=accA_length ts d
     by_cases t2:ty=2
     ·subst t2
      rw [if_pos rfl] at HAT
      go_wp2_with (at_builtin;refine wpList_append_lies _ rfl _ _ 104 rfl wb.heap.size 107 i0 .nilIface 1 16 Tryz.underlying104 HI.out HZ0.out HZ1.out HZ2.out rfl (by decide) _ _ _ rfl ((RowX.own HR2.out).alloc _) ⟨_,0,none⟩ 1 1 [.iface 166 (.int .i64 d.x)] rfl rfl ?x81 ?x82 (by decide) ?x83 ?x84 ?x85 _ rfl ?_)
      try (case x81=>exact news_cell (by simp) rfl)
      try (case x82=>(intro u9 hu9;simp only [List.mem_cons,List.not_mem_nil,or_false] at hu9;rcases hu9 with rfl;rfl))
      try (case x83=>(unfold maxLen;first | omega | (simp only [List.length_nil];omega)))
      try (case x84=>(first | omega | (simp only [List.length_nil];omega)))
      try (case x85=>(have:=HB2.out.size;first | omega | (simp;omega) | simp))
      intro g9 cap9 w9 hown9 hgg9 hat9 hlt9
      have HR9:=Lib.hid (RowX.snoc (l:=accA ts d) (d:=⟨d.x,true⟩) hown9)
      have hba:=(Below.refl wf.heap.size wf).alloc (Nat.le_refl _) (.cells #[.iface 166 (.int .i64 d.x)] 107)
      have HB9:=Lib.hid ((HB2.out.trans (hba.mono HB2.out.size)).grown hgg9 (Nat.le_trans HB2.out.size hba.size) (fun j hj=>(RowX.lt HR2.out j hj).1))
      clear hown9 hgg9 hat9 hlt9 hba
      go_wp2_with fail
      go_ret
      exact ⟨_,rfl,by rw [HAT.out];exact HR9.out.mono HN.out,HB0.out.trans (HB9.out.mono HN.out)⟩
     ·rw [if_neg t2] at HAT
      have m2:(ty==2)=false:=by simp [t2]
      have d2:decide (ty=2)=false:=decide_eq_false t2
      have HAE:Hid (accD ts d ((mb k).testBit d.x.toNat)=accA ts d):=Lib.hid (by rw [HAT.out];simp)
      go_wp2_with fail
      go_ret
      exact ⟨_,rfl,by rw [HAE.out];exact HR2.out.mono HN.out,HBX.out⟩
set_option maxHeartbeats 1000000 in
theorem lookPlain_any (v:Int) (w:World):Calls Tryz.prog 158 #[.int .i64 v] w fun E w'=>E=.returned (.agg #[.int .i64 v,.bool false])∧Below w.heap.size w w':=by
 go_enter Tryz.func158,Tryz.ntmps158
 go_wp2_with fail
 refine bodyPost_ret (v:=.agg #[.int .i64 v,.bool false]) (by simp [results,Tryz.results158,go_sem]) rfl ⟨rfl,?_⟩
 first | exact (Below.refl _ _).alloc (Nat.le_refl _) _ | exact ((Below.refl _ _).alloc (Nat.le_refl _) _).setCell (by simp) _ | exact below_set (below_set ((Below.refl _ _).alloc (Nat.le_refl _) _) (by simp)) (by simp)
set_option maxHeartbeats 1000000 in
theorem changePlain_any (v:Int) (w:World):Calls Tryz.prog 160 #[.int .i64 v] w fun E w'=>E=.returned (.agg #[.int .i64 v,.bool true])∧Below w.heap.size w w':=by
 go_enter Tryz.func160,Tryz.ntmps160
 go_wp2_with fail
 refine bodyPost_ret (v:=.agg #[.int .i64 v,.bool true]) (by simp [results,Tryz.results160,go_sem]) rfl ⟨rfl,?_⟩
 first | exact (Below.refl _ _).alloc (Nat.le_refl _) _ | exact ((Below.refl _ _).alloc (Nat.le_refl _) _).setCell (by simp) _ | exact below_set (below_set ((Below.refl _ _).alloc (Nat.le_refl _) _) (by simp)) (by simp)
set_option maxHeartbeats 1000000 in
theorem changeAgainst_any (ts:List Int) (ns:List Nd) (C F hi:Nat) (A:Option Addr) (c:Nat) (ah bk:Nat→Nat) (L m:Nat) (mb lv:Nat→Nat) (v:Nat) (w:World) (h:LndIn ts ns C F hi A c ah bk L m mb lv w) (hv:v<6) :
  Calls Tryz.prog 159 #[.int .i64 v,.pointer (some ⟨L,0,none⟩)] w fun E w'=>E=.returned (.int .u64 (bitsK (isFrom ns v) m:Nat))∧w=w':=by
 have hc:=h.fromCell hv
 obtain ⟨hv0,hv1⟩:(0:Int)≤(v:Int)∧(v:Int)<6:=by omega
 obtain ⟨b,hb⟩:∃ b,bitsK (isFrom ns v) m=b:=⟨_,rfl⟩
 rw [hb] at hc ⊢
 clear hb h
 go_enter Tryz.func159,Tryz.ntmps159
 go_wp2_with fail
 go_ret
 exact ⟨rfl,rfl⟩
set_option maxHeartbeats 1000000 in
theorem lookAgainst_any (ts:List Int) (ns:List Nd) (C F hi:Nat) (A:Option Addr) (c:Nat) (ah bk:Nat→Nat) (L m:Nat) (mb lv:Nat→Nat) (v:Nat) (w:World) (h:LndIn ts ns C F hi A c ah bk L m mb lv w) (hv:v<6) (hle:m≤61) :
  Calls Tryz.prog 157 #[.int .i64 v,.pointer (some ⟨L,0,none⟩)] w fun E w'=>E=.returned (.int .u64 ((bitsK (isFrom ns v) m&&&bitsK (isUniq ns) m:Nat):Int))∧Below w.heap.size w w':=by
 have hc:=h.fromCell hv
 have hu:=h.uniqCell
 obtain ⟨hv0,hv1⟩:(0:Int)≤(v:Int)∧(v:Int)<6:=by omega
 have h1:=bitsK_61 (isFrom ns v) hle
 have h2:=bitsK_61 (isUniq ns) hle
 obtain ⟨b,hb⟩:∃ b,bitsK (isFrom ns v) m=b:=⟨_,rfl⟩
 obtain ⟨q,hq⟩:∃ q,bitsK (isUniq ns) m=q:=⟨_,rfl⟩
 rw [hb] at hc h1 ⊢
 rw [hq] at hu h2 ⊢
 clear hb hq h
 go_enter Tryz.func157,Tryz.ntmps157
 have hand:=bits_and_u64 b q (by omega) (by omega)
 go_wp2_with fail
 go_quiet (fail)
 go_wp2_with fail
 go_ret
 exact ⟨rfl,by first | exact Below.refl _ _ | exact ⟨rfl,rfl,rfl,Nat.le_refl _,fun _ _=>rfl⟩⟩
theorem look_ahead (v:Value) (w:World):(nilAhead 347 165 v "loop.example/borrowcheck/impl.plain").run Tryz.prog w=.ok (some false) w:=by kernel_rfl
theorem look_at (v:Value) (w:World):(method 347 165 v "loop.example/borrowcheck/impl.plain").run Tryz.prog w=.ok (158,v) w:=by kernel_rfl
theorem change_ahead (v:Value) (w:World):(nilAhead 347 166 v "loop.example/borrowcheck/impl.plain").run Tryz.prog w=.ok (some false) w:=by kernel_rfl
theorem change_at (v:Value) (w:World):(method 347 166 v "loop.example/borrowcheck/impl.plain").run Tryz.prog w=.ok (160,v) w:=by kernel_rfl
theorem typed_op {ts:List Int} {d:Nd} (h:Typed ts d):1≤d.op:=by
 rcases h with h | h
 ·exact h.1
 ·omega
theorem maybe_bit {ts:List Int} {ns:List Nd} {k:Nat} {mb:Nat→Nat} (h:FloIn (fun a b=>eN ns a b) 0 (fun _=>False) (fun k v=>setsN ns k v) (fun k v=>usesN ts ns k v 2) ns.length false mb (fun _=>False)) (hA:AllTyped ts ns) (hk:k<ns.length) {v:Nat} (hv:v<6):(mb k).testBit v=true↔MayB ts ns k v:=by
 have hle:∀ a b,((fun a b=>eN ns a b)) a b→a<ns.length:=fun a b hab=>by
  have hab':b∈nextN ns a:=hab
  rcases Nat.lt_or_ge a ns.length with h9 | h9
  ·exact h9
  ·exfalso
   unfold nextN nextP at hab'
   rw [List.getElem?_eq_none h9] at hab'
   simp at hab'
 have hlast:=h.last (fun _=>id) hle (m:=k) (v:=v) hk hv
 constructor
 ·intro hb
  exact hlast.mp (by unfold dv;rw [hb];rfl)
 ·intro hr
  have:=hlast.mpr hr
  unfold dv at this
  rw [this]
  rfl
set_option maxRecDepth 100000 in
set_option maxHeartbeats 4000000 in
theorem implAccessesOf_any (ts:List Int) (s:Sts) (At As:Option Addr) (ct cs:Nat) (a:Int) (w:World) (hT:IntsV w 0 w.heap.size ts At ct) (hR:RepV w 0 w.heap.size s As cs) (hTab:TabAt 0 Lib.deBruijn64tab w) (hg:0<w.heap.size) :
  Calls Tryz.prog 31 #[.agg #[.slice At ts.length ct,.slice As s.len cs],.int .i64 a] w fun E w'=>∃ v l,E=.returned v∧RowA w' w.heap.size v l∧AnsAcc ts (validB ts s) s a l∧Below w.heap.size w w':=by
 have hb0:=(Below.refl w.heap.size w).alloc (Nat.le_refl _) (.cells #[.slice At ts.length ct,.slice As s.len cs] 30)
 have hz0:(w.alloc (.cells #[.slice At ts.length ct,.slice As s.len cs] 30)).heap.size=w.heap.size+1:=by simp
 have HZ:=Lib.hid hz0
 have hnil:∀ W:World,RowA W w.heap.size (.slice none 0 0) []:=fun W=>RowA.nil W _
 cases hok:validB ts s
 ·have hS:=lendingOf_no ts s At As ct cs _ hok (hT.below hb0 (by simp)) (hR.below hb0 (by simp))
  clear hz0 hok
  go_enter Tryz.func31,Tryz.ntmps31
  go_wp2_with fail
  refine hS.mono ?_
  rintro E w1 ⟨rfl,hb1⟩
  rw [HZ.out] at hb1
  have hb:Below w.heap.size w w1:=hb0.trans (hb1.mono (by omega))
  clear hb1 hS
  go_wp2_with fail
  go_ret
  exact ⟨_,[],rfl,hnil _,.inr ⟨fun h=>(by cases h.1),rfl⟩,by first | exact hb | exact hb.drew⟩
 ·have hS:=lendingOf_yes ts s At As ct cs _ hok (hT.below hb0 (by simp)) (hR.below hb0 (by simp)) (tab_below hTab hg hb0) (by rw [hz0];omega)
  have hA:=progPts_allTyped hok
  have hD:=progPts_ok s (valid_ok hok).2.1
  have hL:=progPts_leads hok
  by_cases hin:0≤a∧a<((progPts s).length:Int)
  ·obtain ⟨h0,h1⟩:=hin
   obtain ⟨k,rfl⟩:∃ k:Nat,a=(k:Int):=⟨a.toNat,by omega⟩
   have hans:∀ (d:Nd) (b:Bool),(progPts s)[k]?=some d→(b=true↔MayB ts (progPts s) k d.x.toNat)→AnsAcc ts true s (k:Int) (accD ts d b):=fun d b hd hb=>.inl ⟨rfl,k,d,b,rfl,hd,hb,rfl⟩
   generalize progPts s=ds at hS h1 hA hD hL hans
   generalize s.npts=q at hD
   have hkl:k<ds.length:=by omega
   have HD:=Lib.hid hD
   have HA:=Lib.hid hA
   have HL:=Lib.hid hL
   have HANS:=Lib.hid hans
   clear hz0 hok hA hD hL hT hR hans
   go_enter Tryz.func31,Tryz.ntmps31
   go_wp2_with fail
   refine hS.mono ?_
   rintro E w1 ⟨C,F,hi,A2,c2,ah,bk,L,mb,lv,kn,rfl,hl,hLb,hb1⟩
   rw [HZ.out] at hLb hb1
   have hb:Below w.heap.size w w1:=hb0.trans (hb1.mono (by omega))
   have hbz:=hb.size
   have hfc:=hl.ln.flCell
   have hgc:=hl.ln.fl.grCell
   have hhas:=has_yes C k ds w1 hl.ln.fl.gr hkl
   have HLN:=Lib.hid hl
   have hk61:k<61:=by have:=hl.ln.fl.gr.le;omega
   clear hl hb1 hS
   go_wp2_with fail
   refine hhas.mono ?_
   rintro E w2 ⟨rfl,hb2⟩
   have HL2:=Lib.hid (HLN.out.keep hb2)
   have HB2:=Lib.hid (hb.trans (hb2.mono hbz))
   have hbz':=HB2.out.size
   obtain ⟨d,hd⟩:∃ d,ds[k]?=some d:=⟨ds[k],List.getElem?_eq_getElem hkl⟩
   have hxy:=(effD_ok HA.out.1 (HA.out.2 k d hd)).xy
   have han:=accesses_any ts ds q C F hi A2 c2 ah bk L mb lv k d w2 HL2.out.ln HD.out HA.out hd (typed_op (HA.out.2 k d hd)) (HL2.out.mbIn.lt k) (tab_below hTab hg HB2.out) (by omega)
   have hans1:=HANS.out d ((mb k).testBit d.x.toNat) hd (maybe_bit HL2.out.mbIn HA.out hkl (by omega))
   obtain ⟨l,hl⟩:∃ l,accD ts d ((mb k).testBit d.x.toNat)=l:=⟨_,rfl⟩
   have hl2:l.length≤2:=by
    rw [← hl,accD_is,List.length_append]
    have:=accA_length ts d
    have:(accB ts d ((mb k).testBit d.x.toNat)).length≤1:=by unfold accB;split <;> simp
    omega
   rw [hl] at han hans1
   have HAN:=Lib.hid hans1
   clear hhas hb2 hgc hfc hb hd hxy hans1 hl HANS
   go_wp2_with fail
   refine han.mono ?_
   rintro E w3 ⟨vX,rfl,hrowX,hb3⟩
   obtain ⟨AX,cX,hvX⟩:=hrowX.slice
   subst hvX
   obtain ⟨p,hp⟩:∃ p,l.length=p:=⟨_,rfl⟩
   rw [hp] at hl2 hrowX
   have HP:=Lib.hid hp
   have HRX:=Lib.hid hrowX
   have HB3:=Lib.hid (HB2.out.trans (hb3.mono hbz'))
   have hbz3:=HB3.out.size
   obtain ⟨i0,hi0,hzz0,hzz1,hzz2⟩:=info_parts Tryz.infoAccess
   have HI:=Lib.hid hi0
   have HZ0:=Lib.hid hzz0
   have HZ1:=Lib.hid hzz1
   have HZ2:=Lib.hid hzz2
   rw [hp]
   clear han hb3 hrowX hp hi0 hzz0 hzz1 hzz2
   go_wp2_with fail
   go_loopw [7,33] (fun v7 i wr=>∃ (j:Nat) (A7:Option Addr) (c7:Nat),v7=.slice A7 j c7∧i=.int .i64 j∧j≤p∧Hid (RowA wr w3.heap.size (.slice A7 j c7) (l.take j))∧Hid (Below w3.heap.size w3 wr)) (fun _ i _=>p-(intOf i).toNat)
   case atStart=>exact ⟨0,none,0,rfl,rfl,Nat.zero_le _,Lib.hid (RowA.nil _ _),Lib.hid (Below.refl _ _)⟩
   case round =>
    obtain ⟨j,A7,c7,rfl,rfl,hj,HR,HB⟩:=hrel
    by_cases hjl:j<p
    ·obtain ⟨x,hx⟩:∃ x,l[j]?=some x:=⟨l[j]'(by rw [HP.out];exact hjl),List.getElem?_eq_getElem _⟩
     have htk:l.take (j+1)=l.take j++[x]:=by rw [List.take_add_one,hx];rfl
     have htl:(l.take j).length=j:=by rw [List.length_take,HP.out];omega
     obtain ⟨g,cx,he,-,hgl,hc⟩:=RowX.at HRX.out hx
     injection he with he1 he2 he3
     subst he1 he3
     replace hc:=(HB.out.cell (p:=⟨g,j,none⟩) hgl).trans hc
     have ji0:(0:Int)≤(j:Int):=by omega
     have ji1:(j:Int)<(p:Int):=by omega
     have f1:IntKind.i64.wrap ((j:Int)+1)=(j:Int)+1:=IntWalk.i64_in _ (by omega)
     have HTK:=Lib.hid htk
     have HTL:=Lib.hid htl
     clear htk htl hx he2
     obtain ⟨v,b⟩:=x
     have hpl:Calls Tryz.prog (if b then 160 else 158) #[.int .i64 v] wr fun E w'=>E=.returned (.agg #[.int .i64 v,.bool b])∧Below wr.heap.size wr w':=by
      cases b
      ·exact lookPlain_any v wr
      ·exact changePlain_any v wr
     cases b
     ·simp only [AccD.face] at hc
      have hal:=look_ahead
      have hml:=look_at
      go_wp2_with fail
      refine hpl.mono ?_
      rintro E w4 ⟨rfl,hb4⟩
      have HRO:Hid (w4.ownsRow w3.heap.size 109 2 (.slice A7 j c7) j ((l.take j).flatMap AccD.cells)):=Lib.hid (by have:=RowA.own (HR.out.below hb4);rwa [HTL.out] at this)
      replace HB:=Lib.hid (HB.out.trans (hb4.mono HB.out.size))
      have HLT:=Lib.hid (RowA.lt (HR.out.below hb4))
      clear hpl hb4 hc hal hml HR
      go_wp2_with (at_builtin;refine wpList_append_lies _ rfl _ _ 43 rfl w3.heap.size 109 i0 (.agg #[.int .i64 0,.bool false]) 2 16 Tryz.underlying43 HI.out HZ0.out HZ1.out HZ2.out rfl (by decide) _ _ _ rfl (HRO.out.alloc _) ⟨_,0,none⟩ 1 1 [.int .i64 v,.bool false] rfl rfl ?x51 ?x52 (by decide) ?x53 ?x54 ?x55 _ rfl ?_)
      try (case x51=>exact news_cell (by simp) rfl)
      try (case x52=>(intro u9 hu9;simp only [List.mem_cons,List.not_mem_nil,or_false] at hu9;rcases hu9 with rfl | rfl <;> rfl))
      try (case x53=>(unfold maxLen;omega))
      try (case x54=>omega)
      try (case x55=>(have:=HB.out.size;first | omega | (simp;omega) | simp))
      intro g9 cap9 w9 hown9 hgg9 hat9 hlt9
      have HR9:Hid (RowA w9 w3.heap.size (.slice (some ⟨g9,0,none⟩) (j+1) cap9) (l.take (j+1))):=Lib.hid (by
       rw [HTK.out]
       exact RowA.snoc (d:=⟨v,false⟩) (by rw [HTL.out];first | exact hown9 | simpa using hown9))
      have hba:=(Below.refl w4.heap.size w4).alloc (Nat.le_refl _) (.cells #[.int .i64 v,.bool false] 109)
      have HB9:=Lib.hid ((HB.out.trans (hba.mono HB.out.size)).grown hgg9 (Nat.le_trans HB.out.size hba.size) (fun j hj=>(HLT.out j hj).1))
      clear hown9 hgg9 hat9 hlt9 hba
      go_wp2_with fail
      go_roundw
      case rel=>exact ⟨j+1,some ⟨g9,0,none⟩,cap9,rfl,by go_num,by omega,HR9,HB9⟩
      case measure=>simp [intOf];omega
     ·simp only [AccD.face] at hc
      have hal:=change_ahead
      have hml:=change_at
      go_wp2_with fail
      refine hpl.mono ?_
      rintro E w4 ⟨rfl,hb4⟩
      have HRO:Hid (w4.ownsRow w3.heap.size 109 2 (.slice A7 j c7) j ((l.take j).flatMap AccD.cells)):=Lib.hid (by have:=RowA.own (HR.out.below hb4);rwa [HTL.out] at this)
      replace HB:=Lib.hid (HB.out.trans (hb4.mono HB.out.size))
      have HLT:=Lib.hid (RowA.lt (HR.out.below hb4))
      clear hpl hb4 hc hal hml HR
      go_wp2_with (at_builtin;refine wpList_append_lies _ rfl _ _ 43 rfl w3.heap.size 109 i0 (.agg #[.int .i64 0,.bool false]) 2 16 Tryz.underlying43 HI.out HZ0.out HZ1.out HZ2.out rfl (by decide) _ _ _ rfl (HRO.out.alloc _) ⟨_,0,none⟩ 1 1 [.int .i64 v,.bool true] rfl rfl ?x61 ?x62 (by decide) ?x63 ?x64 ?x65 _ rfl ?_)
      try (case x61=>exact news_cell (by simp) rfl)
      try (case x62=>(intro u9 hu9;simp only [List.mem_cons,List.not_mem_nil,or_false] at hu9;rcases hu9 with rfl | rfl <;> rfl))
      try (case x63=>(unfold maxLen;omega))
      try (case x64=>omega)
      try (case x65=>(have:=HB.out.size;first | omega | (simp;omega) | simp))
      intro g9 cap9 w9 hown9 hgg9 hat9 hlt9
      have HR9:Hid (RowA w9 w3.heap.size (.slice (some ⟨g9,0,none⟩) (j+1) cap9) (l.take (j+1))):=Lib.hid (by
       rw [HTK.out]
       exact RowA.snoc (d:=⟨v,true⟩) (by rw [HTL.out];first | exact hown9 | simpa using hown9))
      have hba:=(Below.refl w4.heap.size w4).alloc (Nat.le_refl _) (.cells #[.int .i64 v,.bool true] 109)
      have HB9:=Lib.hid ((HB.out.trans (hba.mono HB.out.size)).grown hgg9 (Nat.le_trans HB.out.size hba.size) (fun j hj=>(HLT.out j hj).1))
      clear hown9 hgg9 hat9 hlt9 hba
      go_wp2_with fail
      go_roundw
      case rel=>exact ⟨j+1,some ⟨g9,0,none⟩,cap9,rfl,by go_num,by omega,HR9,HB9⟩
      case measure=>simp [intOf];omega
    ·have hjn:j=p:=by omega
     have jd:decide ((j:Int)<(p:Int))=false:=decide_eq_false (by omega)
     have HRE:Hid (RowA wr w.heap.size (.slice A7 j c7) l):=Lib.hid (by
      have h9:=HR.out
      rw [hjn,← HP.out,List.take_length] at h9
      rw [hjn,← HP.out]
      exact h9.mono hbz3)
     have HBE:=Lib.hid (HB3.out.trans (HB.out.mono hbz3))
     go_wp2_with fail
     go_ret
     exact ⟨_,l,rfl,HRE.out,HAN.out,HBE.out⟩
  ·have hr:a<0∨((progPts s).length:Int)≤a:=by
    by_cases h0:a<0
    ·exact .inl h0
    ·rcases Int.lt_or_le a ((progPts s).length:Int) with h1 | h1
     ·exact absurd ⟨by omega,h1⟩ hin
     ·exact .inr h1
   have hans:AnsAcc ts true s a []:=.inr ⟨fun h=>hin h.2,rfl⟩
   have HANS:=Lib.hid hans
   generalize progPts s=ds at hS hr hA
   clear hz0 hok hin hA hT hR hans hD hL
   go_enter Tryz.func31,Tryz.ntmps31
   go_wp2_with fail
   refine hS.mono ?_
   rintro E w1 ⟨C,F,hi,A2,c2,ah,bk,L,mb,lv,kn,rfl,hl,hLb,hb1⟩
   rw [HZ.out] at hLb hb1
   have hb:Below w.heap.size w w1:=hb0.trans (hb1.mono (by omega))
   have hbz:=hb.size
   have hfc:=hl.ln.flCell
   have hgc:=hl.ln.fl.grCell
   have hhas:=has_no C a ds w1 hl.ln.fl.gr hr
   clear hl hb1 hS hr
   go_wp2_with fail
   refine hhas.mono ?_
   rintro E w2 ⟨rfl,hb2⟩
   have hb':=hb.trans (hb2.mono hbz)
   clear hhas hb2
   go_wp2_with fail
   go_ret
   exact ⟨_,[],rfl,hnil _,HANS.out,by first | exact hb' | exact hb'.drew⟩
theorem look_ahead2 (v:Value) (w:World):(nilAhead 347 165 v "loop.example/borrowcheck/impl.against").run Tryz.prog w=.ok (some false) w:=by kernel_rfl
theorem look_at2 (v:Value) (w:World):(method 347 165 v "loop.example/borrowcheck/impl.against").run Tryz.prog w=.ok (157,v) w:=by kernel_rfl
theorem change_ahead2 (v:Value) (w:World):(nilAhead 347 166 v "loop.example/borrowcheck/impl.against").run Tryz.prog w=.ok (some false) w:=by kernel_rfl
theorem change_at2 (v:Value) (w:World):(method 347 166 v "loop.example/borrowcheck/impl.against").run Tryz.prog w=.ok (159,v) w:=by kernel_rfl
def toucN (ns:List Nd) (m:Nat) (a:AccD):Nat:=if a.u=true then bitsK (isFrom ns a.v.toNat) m else bitsK (isFrom ns a.v.toNat) m&&&bitsK (isUniq ns) m
def orsN (ns:List Nd) (m:Nat):List AccD→Nat
 | []=>0
 | a :: l=>toucN ns m a|||orsN ns m l
theorem toucN_lt {ns:List Nd} {m:Nat} (h:m≤61) (a:AccD):toucN ns m a<2305843009213693952:=by
 unfold toucN
 split
 ·exact bitsK_61 _ h
 ·exact Nat.lt_of_le_of_lt Nat.and_le_left (bitsK_61 _ h)
theorem orsN_lt {ns:List Nd} {m:Nat} (h:m≤61):∀ l,orsN ns m l<2305843009213693952
 | []=>by unfold orsN;decide
 | a :: l=>by unfold orsN;exact or_lt61 (toucN_lt h a) (orsN_lt h l)
theorem orsN_snoc (ns:List Nd) (m:Nat) (a:AccD):∀ l,orsN ns m (l++[a])=orsN ns m l|||toucN ns m a
 | []=>by simp [orsN]
 | b :: l=>by
  rw [List.cons_append]
  unfold orsN
  rw [orsN_snoc ns m a l,Nat.or_assoc]
theorem orsN_bit (ns:List Nd) (m i:Nat):∀ l,(orsN ns m l).testBit i=true↔∃ a∈l,(toucN ns m a).testBit i=true
 | []=>by simp [orsN]
 | b :: l=>by
  unfold orsN
  rw [Nat.testBit_or,Bool.or_eq_true,orsN_bit ns m i l]
  simp
theorem accD_var {ts:List Int} {d:Nd} {b:Bool} {a:AccD} (h:a∈accD ts d b):a.v=d.x∨a.v=d.y:=by
 rw [accD_is,List.mem_append] at h
 rcases h with h | h
 ·unfold accA at h
  (repeat' split at h) <;> simp at h <;> subst h <;> simp
 ·unfold accB at h
  split at h <;> simp at h
  subst h
  simp
set_option maxRecDepth 100000 in
set_option maxHeartbeats 4000000 in
theorem conflicts_any (ts:List Int) (ns:List Nd) (q C F hi:Nat) (A:Option Addr) (c:Nat) (ah bk:Nat→Nat) (L:Nat) (mb lv:Nat→Nat) (kn:Nat→Nat→Nat) (k:Nat) (d:Nd) (w:World) (h:Lend ts ns C F hi A c ah bk L mb lv kn w) (hD:PtsOk q ns) (hA:AllTyped ts ns) (hd:ns[k]?=some d) (hTab:TabAt 0 Lib.deBruijn64tab w) (hg:0<w.heap.size) :
  Calls Tryz.prog 68 #[.pointer (some ⟨L,0,none⟩),.int .i64 k] w fun E w'=>∃ z:Nat,E=.returned (.int .u64 (z:Int))∧z<2305843009213693952∧(∀ i,z.testBit i=true↔(∃ a∈accD ts d ((mb k).testBit d.x.toNat),(toucN ns ns.length a).testBit i=true)∧(∃ v,v<6∧(lv k).testBit v=true∧¬ lostN ts ns k v∧(kn k v).testBit i=true)∧(kn k 6).testBit i=true)∧Below w.heap.size w w':=by
 have hkn:=(List.getElem?_eq_some_iff.mp hd).1
 have hle:=h.ln.fl.gr.le
 have hxy:=(effD_ok hA.1 (hA.2 k d hd)).xy
 have han:=accesses_any ts ns q C F hi A c ah bk L mb lv k d w h.ln hD hA hd (typed_op (hA.2 k d hd)) (h.mbIn.lt k) hTab hg
 have HLV:Hid (∀ w',Below w.heap.size w w'→Calls Tryz.prog 98 #[.pointer (some ⟨L,0,none⟩),.int .i64 k] w' fun E w''=>∃ z:Nat,E=.returned (.int .u64 (z:Int))∧z<2305843009213693952∧(∀ l,z.testBit l=true↔∃ v,v<6∧(lv k).testBit v=true∧¬ lostN ts ns k v∧(kn k v).testBit l=true)∧Below w'.heap.size w' w''):=Lib.hid fun w' hb=>live_any ts ns C F hi A c ah bk L mb lv kn k d w' (h.keep hb) hA hd (tab_below hTab hg hb) (by have:=hb.size;omega)
 have hvar:∀ a∈accD ts d ((mb k).testBit d.x.toNat),∃ v:Nat,a.v=(v:Int)∧v<6:=fun a ha=>⟨a.v.toNat,by have:=accD_var ha;omega,by have:=accD_var ha;omega⟩
 obtain ⟨l,hl⟩:∃ l,accD ts d ((mb k).testBit d.x.toNat)=l:=⟨_,rfl⟩
 have hl2:l.length≤2:=by
  rw [← hl,accD_is,List.length_append]
  have:=accA_length ts d
  have:(accB ts d ((mb k).testBit d.x.toNat)).length≤1:=by unfold accB;split <;> simp
  omega
 rw [hl] at han hvar ⊢
 have HLN:=Lib.hid h
 have HVAR:=Lib.hid hvar
 clear hvar hl hxy hd hA hD h
 go_enter Tryz.func68,Tryz.ntmps68
 go_wp2_with fail
 refine han.mono ?_
 rintro E w3 ⟨vX,rfl,hrowX,hb3⟩
 obtain ⟨AX,cX,hvX⟩:=hrowX.slice
 subst hvX
 obtain ⟨p,hp⟩:∃ p,l.length=p:=⟨_,rfl⟩
 rw [hp] at hl2 hrowX
 have HP:=Lib.hid hp
 have HRX:=Lib.hid hrowX
 have HB3:=Lib.hid hb3
 rw [hp]
 clear han hb3 hrowX hp
 go_wp2_with fail
 go_loopw [5,12] (fun t i wr=>∃ j:Nat,t=.int .u64 ((orsN ns ns.length (l.take j):Nat):Int)∧i=.int .i64 j∧j≤p∧Hid (Below w3.heap.size w3 wr)) (fun _ i _=>p-(intOf i).toNat)
 case atStart=>exact ⟨0,by simp [orsN],rfl,Nat.zero_le _,Lib.hid (Below.refl _ _)⟩
 case round =>
  obtain ⟨j,rfl,rfl,hj,HB⟩:=hrel
  by_cases hjl:j<p
  ·obtain ⟨x,hx⟩:∃ x,l[j]?=some x:=⟨l[j]'(by rw [HP.out];exact hjl),List.getElem?_eq_getElem _⟩
   have htk:l.take (j+1)=l.take j++[x]:=by rw [List.take_add_one,hx];rfl
   have hnx:orsN ns ns.length (l.take (j+1))=orsN ns ns.length (l.take j)|||toucN ns ns.length x:=by rw [htk,orsN_snoc]
   have ho1:=orsN_lt (ns:=ns) hle (l.take j)
   have ho2:=toucN_lt (ns:=ns) hle x
   obtain ⟨v,hv,hv6⟩:=HVAR.out x (List.mem_of_getElem? hx)
   obtain ⟨g,cx,he,-,hgl,hc⟩:=RowX.at HRX.out hx
   injection he with he1 he2 he3
   subst he1 he3
   replace hc:=(HB.out.cell (p:=⟨g,j,none⟩) hgl).trans hc
   have hlnr:=(HLN.out.keep (HB3.out.trans (HB.out.mono HB3.out.size))).ln
   have ji0:(0:Int)≤(j:Int):=by omega
   have ji1:(j:Int)<(p:Int):=by omega
   have f1:IntKind.i64.wrap ((j:Int)+1)=(j:Int)+1:=IntWalk.i64_in _ (by omega)
   obtain ⟨xv,u⟩:=x
   simp only at hv
   subst hv
   obtain ⟨z,hz⟩:∃ z,orsN ns ns.length (l.take j)=z:=⟨_,rfl⟩
   obtain ⟨tn,htn0⟩:∃ t,toucN ns ns.length ⟨(v:Int),u⟩=t:=⟨_,rfl⟩
   rw [hz] at ho1 hnx ⊢
   rw [htn0] at ho2 hnx
   have hor:=bits_or_u64_nat z tn (by omega) (by omega)
   have HNX:=Lib.hid hnx
   clear htk hx he2 hz hnx
   cases u
   ·simp only [AccD.face] at hc
    have hal:=look_ahead2
    have hml:=look_at2
    have hag:=lookAgainst_any ts ns C F hi A c ah bk L ns.length mb lv v wr hlnr hv6 hle
    have htn:toucN ns ns.length ⟨(v:Int),false⟩=tn:=htn0
    simp only [toucN,Int.toNat_natCast,Bool.false_eq_true,if_false] at htn
    rw [htn] at hag
    clear htn0 htn
    go_wp2_with fail
    refine hag.mono ?_
    rintro E w4 ⟨rfl,hb4⟩
    have HB9:=Lib.hid (HB.out.trans (hb4.mono HB.out.size))
    clear hb4 hlnr
    clear hag hc hal hml
    go_wp2_with fail
    go_roundw
    case rel=>exact ⟨j+1,by rw [HNX.out],by go_num,by omega,HB9⟩
    case measure=>simp [intOf];omega
   ·simp only [AccD.face] at hc
    have hal:=change_ahead2
    have hml:=change_at2
    have hag:=changeAgainst_any ts ns C F hi A c ah bk L ns.length mb lv v wr hlnr hv6
    have htn:toucN ns ns.length ⟨(v:Int),true⟩=tn:=htn0
    simp only [toucN,Int.toNat_natCast,if_true] at htn
    rw [htn] at hag
    clear htn0 htn
    go_wp2_with fail
    refine hag.mono ?_
    rintro E w4 ⟨rfl,hw4⟩
    rw [← hw4]
    have HB9:=HB
    clear hw4 w4 hlnr
    clear hag hc hal hml
    go_wp2_with fail
    go_roundw
    case rel=>exact ⟨j+1,by rw [HNX.out],by go_num,by omega,HB9⟩
    case measure=>simp [intOf];omega
  ·have hjn:j=p:=by omega
   have jd:decide ((j:Int)<(p:Int))=false:=decide_eq_false (by omega)
   have hfull:l.take j=l:=by rw [hjn,← HP.out,List.take_length]
   have ho1:=orsN_lt (ns:=ns) hle l
   have HB5:=Lib.hid (HB3.out.trans (HB.out.mono HB3.out.size))
   have hlv:=HLV.out wr HB5.out
   rw [hfull]
   obtain ⟨z,hz⟩:∃ z,orsN ns ns.length l=z:=⟨_,rfl⟩
   rw [hz] at ho1 ⊢
   have HZ:=Lib.hid hz
   clear hfull hz
   go_wp2_with fail
   refine hlv.mono ?_
   rintro E w4 ⟨zl,rfl,hzl61,hzl,hb4⟩
   have hpl:=placed_any ts ns C F hi A c ah bk L mb lv kn k w4 (HLN.out.keep (HB5.out.trans (hb4.mono HB5.out.size))) hkn
   have HB6:=Lib.hid (HB5.out.trans (hb4.mono HB5.out.size))
   have hkn61:=HLN.out.lt k 6
   obtain ⟨zp,hzp⟩:∃ z,kn k 6=z:=⟨_,rfl⟩
   rw [hzp] at hpl hkn61
   have ha1:=bits_and_u64 z zl (by omega) (by omega)
   have hal1:z&&&zl<2305843009213693952:=Nat.lt_of_le_of_lt Nat.and_le_left ho1
   obtain ⟨y,hy⟩:∃ y,z&&&zl=y:=⟨_,rfl⟩
   rw [hy] at ha1 hal1
   have ha2:=bits_and_u64 y zp (by omega) (by omega)
   have HZL:=Lib.hid hzl
   have HY:=Lib.hid hy
   have HZP:=Lib.hid hzp
   clear hlv hb4 hzl hy hzp
   go_wp2_with fail
   refine hpl.mono ?_
   rintro E w6 ⟨rfl,hb6⟩
   clear hpl
   go_wp2_with fail
   go_ret
   refine ⟨y&&&zp,rfl,Nat.lt_of_le_of_lt Nat.and_le_left hal1,fun i=>?_,HB6.out.trans (hb6.mono HB6.out.size)⟩
   rw [Nat.testBit_and,Bool.and_eq_true,← HY.out,Nat.testBit_and,Bool.and_eq_true,HZL.out i,← HZ.out,orsN_bit,← HZP.out]
   exact ⟨fun q=>⟨q.1.1,q.1.2,q.2⟩,fun q=>⟨⟨q.1,q.2.1⟩,q.2.2⟩⟩
theorem touc_near (ns:List Nd) {a:AccD} (h:0≤a.v) (i:Nat):(toucN ns ns.length a).testBit i=true↔Near ns i a:=by
 have hf:(bitsK (isFrom ns a.v.toNat) ns.length).testBit i=true↔loanN ns i a.v:=by
  rw [bitsK_bit,Bool.and_eq_true,decide_eq_true_eq]
  unfold isFrom loanN
  constructor
  ·rintro ⟨h1,h2⟩
   rw [List.getElem?_eq_getElem h1] at h2 ⊢
   simp only [decide_eq_true_eq] at h2
   exact ⟨_,rfl,h2.1,by omega⟩
  ·rintro ⟨d,h1,h2,h3⟩
   refine ⟨(List.getElem?_eq_some_iff.mp h1).1,?_⟩
   rw [h1]
   simp only [decide_eq_true_eq]
   exact ⟨h2,by omega⟩
 unfold toucN Near
 by_cases hu:a.u=true
 ·rw [if_pos hu,hf]
  exact ⟨fun q=>⟨q,.inl hu⟩,fun q=>q.1⟩
 ·rw [if_neg hu,Nat.testBit_and,Bool.and_eq_true,hf,bitsK_bit,Bool.and_eq_true,decide_eq_true_eq]
  constructor
  ·exact fun q=>⟨q.1,.inr q.2.2⟩
  ·rintro ⟨q1,q2⟩
   obtain ⟨d,h1,-,-⟩:=id q1
   exact ⟨q1,(List.getElem?_eq_some_iff.mp h1).1,q2.resolve_left hu⟩
set_option maxRecDepth 100000 in
set_option maxHeartbeats 4000000 in
theorem loansAt_ConflictsAt (ts:List Int) (s:Sts) (At As:Option Addr) (ct cs:Nat) (a:Int) (w:World) (hT:IntsV w 0 w.heap.size ts At ct) (hR:RepV w 0 w.heap.size s As cs) (hTab:TabAt 0 Lib.deBruijn64tab w) (hg:0<w.heap.size) :
  Calls Tryz.prog 67 #[.agg #[.slice At ts.length ct,.slice As s.len cs],.int .i64 a,.func (.func 68) #[] #[]] w fun E w'=>∃ v l,E=.returned v∧RowI w' w.heap.size v l∧AnsAt (LoCf ts) (validB ts s) s a l∧Below w.heap.size w w':=by
 have hb0:=(Below.refl w.heap.size w).alloc (Nat.le_refl _) (.cells #[.slice At ts.length ct,.slice As s.len cs] 30)
 have hz0:(w.alloc (.cells #[.slice At ts.length ct,.slice As s.len cs] 30)).heap.size=w.heap.size+1:=by simp
 have HZ:=Lib.hid hz0
 have hnil:∀ W:World,RowI W w.heap.size (.slice none 0 0) []:=fun W=>World.ownsRow_nil W w.heap.size 3 1
 cases hok:validB ts s
 ·have hS:=lendingOf_no ts s At As ct cs _ hok (hT.below hb0 (by simp)) (hR.below hb0 (by simp))
  clear hz0 hok
  go_enter Tryz.func67,Tryz.ntmps67
  go_wp2_with fail
  refine hS.mono ?_
  rintro E w1 ⟨rfl,hb1⟩
  rw [HZ.out] at hb1
  have hb:Below w.heap.size w w1:=hb0.trans (hb1.mono (by omega))
  clear hb1 hS
  go_wp2_with fail
  go_ret
  exact ⟨_,[],rfl,hnil _,.inr ⟨fun h=>(by cases h.1),rfl⟩,by first | exact hb | exact hb.drew⟩
 ·have hS:=lendingOf_yes ts s At As ct cs _ hok (hT.below hb0 (by simp)) (hR.below hb0 (by simp)) (tab_below hTab hg hb0) (by rw [hz0];omega)
  have hA:=progPts_allTyped hok
  have hD:=progPts_ok s (valid_ok hok).2.1
  have hL:=progPts_leads hok
  by_cases hin:0≤a∧a<((progPts s).length:Int)
  ·obtain ⟨h0,h1⟩:=hin
   obtain ⟨k,rfl⟩:∃ k:Nat,a=(k:Int):=⟨a.toNat,by omega⟩
   have hans:∀ l,IsPathsB (LoCf ts (progPts s) k) l→AnsAt (LoCf ts) true s (k:Int) l:=fun l hl=>.inl ⟨rfl,h0,h1,by simpa using hl⟩
   generalize progPts s=ds at hS h1 hA hD hL hans
   generalize s.npts=q at hD
   have hkl:k<ds.length:=by omega
   have HD:=Lib.hid hD
   have HA:=Lib.hid hA
   have HL:=Lib.hid hL
   have HANS:=Lib.hid hans
   clear hz0 hok hA hD hL hT hR hans
   go_enter Tryz.func67,Tryz.ntmps67
   go_wp2_with fail
   refine hS.mono ?_
   rintro E w1 ⟨C,F,hi,A2,c2,ah,bk,L,mb,lv,kn,rfl,hl,hLb,hb1⟩
   rw [HZ.out] at hLb hb1
   have hb:Below w.heap.size w w1:=hb0.trans (hb1.mono (by omega))
   have hbz:=hb.size
   have hfc:=hl.ln.flCell
   have hgc:=hl.ln.fl.grCell
   have hhas:=has_yes C k ds w1 hl.ln.fl.gr hkl
   have HLN:=Lib.hid hl
   have hk61:k<61:=by have:=hl.ln.fl.gr.le;omega
   clear hl hb1 hS
   go_wp2_with fail
   refine hhas.mono ?_
   rintro E w2 ⟨rfl,hb2⟩
   have HL2:=Lib.hid (HLN.out.keep hb2)
   have HB2:=Lib.hid (hb.trans (hb2.mono hbz))
   have hbz':=HB2.out.size
   have hdk:=List.getElem?_eq_getElem hkl
   have hxy:=(effD_ok HA.out.1 (HA.out.2 k _ hdk)).xy
   have han:=conflicts_any ts ds q C F hi A2 c2 ah bk L mb lv kn k ds[k] w2 HL2.out HD.out HA.out hdk (tab_below hTab hg HB2.out) (by omega)
   have hmy:=maybe_bit (v:=ds[k].x.toNat) HL2.out.mbIn HA.out hkl (by omega)
   have hvar:∀ a∈accD ts ds[k] ((mb k).testBit ds[k].x.toNat),0≤a.v:=fun a ha=>by have:=accD_var ha;omega
   clear hhas hb2 hgc hfc hb hxy
   go_wp2_with fail
   refine han.mono ?_
   rintro E w3 ⟨z,rfl,hz61,hzb,hb3⟩
   have hz64:z<18446744073709551616:=by omega
   have hzr:∀ l,(l<64∧z.testBit l=true)↔LoCf ts ds k l:=fun l=>by
    have hrel:=fun v=>flowLive.rel_bit HL2.out.lvIn HD.out HA.out HL.out hk61 hkl v
    rw [hzb l]
    constructor
    ·rintro ⟨_,⟨a,ha,hab⟩,⟨v,h1,h2,h3,h4⟩,h5⟩
     exact ⟨⟨v,h1,(hrel v).mp ⟨by omega,h2⟩,h3,(HL2.out.bit hkl (by omega)).mp h4⟩,(HL2.out.bit hkl (by omega)).mp h5,_,_,hdk,hmy,a,ha,(touc_near ds (hvar a ha) l).mp hab⟩
    ·rintro ⟨⟨v,h1,h2,h3,h4⟩,h5,d,b,hd,hb,a,ha,hn⟩
     rw [hdk] at hd
     injection hd with hd
     subst hd
     have hbe:b=(mb k).testBit ds[k].x.toNat:=by rw [Bool.eq_iff_iff,hb,hmy]
     subst hbe
     exact ⟨by have:=(LoanB.dom HA.out h4).2;have:=HL2.out.ln.fl.gr.le;omega,⟨a,ha,(touc_near ds (hvar a ha) l).mpr hn⟩,⟨v,h1,((hrel v).mpr h2).2,h3,(HL2.out.bit hkl (by omega)).mpr h4⟩,(HL2.out.bit hkl (by omega)).mpr h5⟩
   clear hzb hz61 hmy hvar
   have HB3:=Lib.hid (HB2.out.trans (hb3.mono hbz'))
   have hbz3:=HB3.out.size
   have hls:=setList_any z hz64 w3 (tab_below hTab hg HB3.out) (by omega)
   have HZR:=Lib.hid hzr
   clear han hb3 hzr
   go_wp2_with fail
   refine hls.mono ?_
   rintro E w5 ⟨v,rfl,hrow,hb5⟩
   have HROW:=Lib.hid (hrow.mono hbz3)
   have HB5:=Lib.hid (HB3.out.trans (hb5.mono hbz3))
   clear hls hrow hb5
   go_wp2_with fail
   go_ret
   refine ⟨v,intsOf z,rfl,HROW.out,HANS.out _ ⟨fun j=>z.testBit j,by unfold intsOf;rw [bitsOf_filter],fun l=>?_⟩,HB5.out⟩
   exact HZR.out l
  ·have hr:a<0∨((progPts s).length:Int)≤a:=by
    by_cases h0:a<0
    ·exact .inl h0
    ·rcases Int.lt_or_le a ((progPts s).length:Int) with h1 | h1
     ·exact absurd ⟨by omega,h1⟩ hin
     ·exact .inr h1
   have hans:AnsAt (LoCf ts) true s a []:=.inr ⟨fun h=>hin h.2,rfl⟩
   have HANS:=Lib.hid hans
   generalize progPts s=ds at hS hr hA
   clear hz0 hok hin hA hT hR hans hD hL
   go_enter Tryz.func67,Tryz.ntmps67
   go_wp2_with fail
   refine hS.mono ?_
   rintro E w1 ⟨C,F,hi,A2,c2,ah,bk,L,mb,lv,kn,rfl,hl,hLb,hb1⟩
   rw [HZ.out] at hLb hb1
   have hb:Below w.heap.size w w1:=hb0.trans (hb1.mono (by omega))
   have hbz:=hb.size
   have hfc:=hl.ln.flCell
   have hgc:=hl.ln.fl.grCell
   have hhas:=has_no C a ds w1 hl.ln.fl.gr hr
   clear hl hb1 hS hr
   go_wp2_with fail
   refine hhas.mono ?_
   rintro E w2 ⟨rfl,hb2⟩
   have hb':=hb.trans (hb2.mono hbz)
   clear hhas hb2
   go_wp2_with fail
   go_ret
   exact ⟨_,[],rfl,hnil _,HANS.out,by first | exact hb' | exact hb'.drew⟩
set_option maxHeartbeats 1000000 in
theorem implConflictsAt_any (ts:List Int) (s:Sts) (At As:Option Addr) (ct cs:Nat) (a:Int) (w:World) (hT:IntsV w 0 w.heap.size ts At ct) (hR:RepV w 0 w.heap.size s As cs) (hTab:TabAt 0 Lib.deBruijn64tab w) (hg:0<w.heap.size) :
  Calls Tryz.prog 36 #[.agg #[.slice At ts.length ct,.slice As s.len cs],.int .i64 a] w fun E w'=>∃ v l,E=.returned v∧RowI w' w.heap.size v l∧AnsAt (LoCf ts) (validB ts s) s a l∧Below w.heap.size w w':=by
 have hb0:=(Below.refl w.heap.size w).alloc (Nat.le_refl _) (.cells #[.slice At ts.length ct,.slice As s.len cs] 30)
 have hz0:(w.alloc (.cells #[.slice At ts.length ct,.slice As s.len cs] 30)).heap.size=w.heap.size+1:=by simp
 have hv:=loansAt_ConflictsAt ts s At As ct cs a _ (hT.below hb0 (by simp)) (hR.below hb0 (by simp)) (tab_below hTab hg hb0) (by rw [hz0];omega)
 have HZ:=Lib.hid hz0
 clear hz0 hT hR
 go_enter Tryz.func36,Tryz.ntmps36
 go_wp2_with fail
 refine hv.mono ?_
 rintro E w1 ⟨v,l,rfl,hrow,hans,hb1⟩
 rw [HZ.out] at hrow hb1
 have HR1:=Lib.hid (hrow.mono (by omega:w.heap.size≤w.heap.size+1))
 have HA1:=Lib.hid hans
 have hb:Below w.heap.size w w1:=hb0.trans (hb1.mono (by omega))
 clear hv hrow hans hb1
 go_wp2_with fail
 go_ret
 exact ⟨v,l,rfl,HR1.out,HA1.out,hb⟩
end Go.Proofs.YtnoejapnjhogaaaGreatDoor
