/- Rows of accesses,by the program: interface values. -/
import Derived.Test.YtedkkphogeealaaGreatDoorPL4SS
import Derived.Test.YtedkkphogeealaaGreatDoorPLimA
import Derived.Deep.AppendLies
import Derived.Deep.DeepCutAuto
import Derived.Deep.CutBlock
import Derived.Test.YtedkkphogeealaaGreatDoorPAnsG
import Derived.Deep.RegionHeld3
import Derived.Deep.QuietTactic
import Derived.BigQuiet
namespace Go.Proofs.YtedkkphogeealaaGreatDoor
open Go.RowKit Go.Deep
set_option linter.unusedVariables false
set_option maxRecDepth 100000
set_option maxHeartbeats 8000000
def AccD.face (d:AccD):Value:=.iface (if d.u then 228 else 227) (.int .i64 d.v)
def RowX (w:World) (B:Nat) (v:Value) (l:List AccD):Prop:=w.ownsRow B 210 1 v l.length (l.map AccD.face)
theorem RowX.below {w w':World} {B:Nat} {v:Value} {l:List AccD} (h:RowX w B v l) (hb:Below w.heap.size w w'):RowX w' B v l :=
 World.ownsRow.kept (row:=none) h ⟨hb.os,hb.tape,hb.output,hb.size,fun k hk _=>hb.block k hk⟩ (by cases hv:v.ownBlock <;> simp)
theorem RowX.own {w:World} {B:Nat} {v:Value} {l:List AccD} (h:RowX w B v l):w.ownsRow B 210 1 v l.length (l.map AccD.face):=h
theorem RowX.mono {w:World} {B B':Nat} {v:Value} {l:List AccD} (h:RowX w B v l) (hb:B'≤B):RowX w B' v l:=by
 refine ⟨h.1,?_⟩
 rcases h.2 with h | ⟨g,cap,cur,e1,e2,e3⟩
 ·exact .inl h
 ·exact .inr ⟨g,cap,cur,e1,Nat.le_trans hb e2,e3⟩
theorem RowX.lt {w:World} {B:Nat} {v:Value} {l:List AccD} (h:RowX w B v l):∀ g,v.ownBlock=some g→B≤g∧g<w.heap.size:=World.ownsRow.lt h
theorem RowX.nil (w:World) (B:Nat):RowX w B (.slice none 0 0) []:=World.ownsRow_nil w B 210 1
theorem RowX.slice {w:World} {B:Nat} {v:Value} {l:List AccD} (h:RowX w B v l):∃ A c,v=.slice A l.length c:=by
 rcases h.2 with ⟨e1,e2⟩ | ⟨g,cap,cur,e1,_⟩
 ·exact ⟨none,0,by rw [e1,e2]⟩
 ·exact ⟨_,_,e1⟩
theorem RowX.snoc {w:World} {B:Nat} {v:Value} {l:List AccD} {d:AccD} (h:w.ownsRow B 210 1 v (l.length+1) (l.map AccD.face++[d.face])):RowX w B v (l++[d]):=by
 unfold RowX
 rw [List.length_append,List.map_append]
 exact h
theorem RowX.at {w:World} {B:Nat} {v:Value} {l:List AccD} (h:RowX w B v l) {k:Nat} {d:AccD} (hd:l[k]?=some d):∃ g c,v=.slice (some ⟨g,0,none⟩) l.length c∧B≤g∧g<w.heap.size∧w.cell? ⟨g,k,none⟩=some d.face:=by
 rcases h.2 with ⟨h1,h2⟩ | ⟨g,cap,cur,h1,h2,h3,h4,h5,h6,h7⟩
 ·have:=(List.getElem?_eq_some_iff.mp hd).1
  omega
 ·refine ⟨g,cap,h1,h2,heap_lt h3,?_⟩
  have:=World.ownsRow.cells h (g:=g) (by rw [h1];rfl) k d.face (by rw [List.getElem?_map,hd];rfl)
  rwa [add_block,Nat.zero_add] at this
theorem Tryz.infoAccessX:(Tryz.prog.info? 210).map (fun i=>(i.zero,i.size,i.bytes))=some (some .nilIface,1,16):=by kernel_rfl
theorem accA_takes {ts:List Int} {d:Nd} (hx:0≤d.x∧d.x≤5∧0≤d.y∧d.y≤5) (h4:d.op≠4) (h5:d.op≠5) (h6:d.op≠6) (h7:d.op≠7):accA ts d=(bitsOf (effD ts d).t).map fun (b:Nat)=>(⟨(b:Int),true⟩:AccD):=by
 have hone:∀ a:Int,0≤a→a≤5→(bitsOf (2 ^ a.toNat)).map (fun (b:Nat)=>(⟨(b:Int),true⟩:AccD))=[⟨a,true⟩]:=by
  intro a h0 h1
  obtain ⟨m,rfl⟩:∃ m:Nat,a=(m:Int):=⟨a.toNat,by omega⟩
  rw [Int.toNat_natCast]
  match m,(show m≤5 by omega) with
  | 0,_=>rfl
  | 1,_=>rfl
  | 2,_=>rfl
  | 3,_=>rfl
  | 4,_=>rfl
  | 5,_=>rfl
  | m+6,h=>omega
 unfold accA effD
 rw [if_neg (by omega),if_neg h5]
 by_cases h8:d.op=8
 ·rw [if_pos (.inr h8),if_neg (by omega),if_neg (by omega),if_neg (by omega),if_neg (by omega),if_pos h8]
  exact (hone _ hx.1 hx.2.1).symm
 ·rw [if_neg (by omega)]
  by_cases h3:d.op=3
  ·rw [if_neg (show ¬ (d.op=1∨d.op=2) by omega),if_pos h3]
   by_cases hr:tyAt ts d.y=2∨tyAt ts d.y=4
   ·rw [if_pos ⟨h3,hr⟩,if_pos hr]
    exact (hone _ hx.2.2.1 hx.2.2.2).symm
   ·rw [if_neg (fun h=>hr h.2),if_neg hr]
    show _=(bitsOf 0).map _
    rw [bitsOf_zero]
    rfl
  ·rw [if_neg (fun h=>h3 h.1)]
   by_cases h1:d.op=1∨d.op=2
   ·rw [if_pos h1]
    show _=(bitsOf 0).map _
    rw [bitsOf_zero]
    rfl
   ·rw [if_neg h1,if_neg h3,if_neg (by omega),if_neg h7,if_neg h8]
    show _=(bitsOf 0).map _
    rw [bitsOf_zero]
    rfl
theorem effD_sets {ts:List Int} {d:Nd} (hop:1≤d.op):(effD ts d).s=if 1≤d.op∧d.op≤6 then 2 ^ d.x.toNat else 0:=by
 unfold effD
 by_cases h1:d.op=1∨d.op=2
 ·rw [if_pos h1,if_pos (show 1≤d.op∧d.op≤6 by omega)]
 ·rw [if_neg h1]
  by_cases h3:d.op=3
  ·rw [if_pos h3,if_pos (show 1≤d.op∧d.op≤6 by omega)]
   split <;> rfl
  ·rw [if_neg h3]
   by_cases h4:d.op=4∨d.op=5∨d.op=6
   ·rw [if_pos h4,if_pos (show 1≤d.op∧d.op≤6 by omega)]
   ·rw [if_neg h4,if_neg (show ¬ (1≤d.op∧d.op≤6) by omega)]
    split
    ·rfl
    ·split <;> rfl
theorem freed_ne {ts:List Int} {d:Nd} (hop:1≤d.op) (m:Nat):(effD ts d).s&&&m≠0↔d.op≤6∧m.testBit d.x.toNat=true:=by
 rw [effD_sets hop]
 by_cases h:1≤d.op∧d.op≤6
 ·rw [if_pos h]
  constructor
  ·intro h0
   refine ⟨h.2,?_⟩
   cases hb:m.testBit d.x.toNat
   ·refine absurd (Nat.eq_of_testBit_eq fun i=>?_) h0
    rw [Nat.testBit_and,Nat.testBit_two_pow,Nat.zero_testBit]
    by_cases e:d.x.toNat=i
    ·rw [← e,hb];simp
    ·simp [e]
   ·rfl
  ·rintro ⟨-,hb⟩ h0
   have h1:(2 ^ d.x.toNat&&&m).testBit d.x.toNat=true:=by rw [Nat.testBit_and,Nat.testBit_two_pow,hb];simp
   rw [h0,Nat.zero_testBit] at h1
   cases h1
 ·rw [if_neg h,Nat.zero_and]
  exact ⟨fun e=>absurd rfl e,fun e=>absurd ⟨hop,e.1⟩ h⟩
theorem accD_freed {ts:List Int} {d:Nd} (hop:1≤d.op) (m:Nat):accD ts d (m.testBit d.x.toNat)=accA ts d++if (effD ts d).s&&&m≠0∧tyAt ts d.x=2 then [⟨d.x,true⟩] else []:=by
 rw [accD_is]
 congr 1
 unfold accB
 by_cases h:(effD ts d).s&&&m≠0∧tyAt ts d.x=2
 ·have h1:=(freed_ne hop m).1 h.1
  rw [if_pos h,if_pos ⟨hop,h1.1,h.2,h1.2⟩]
 ·rw [if_neg h,if_neg fun q=>h ⟨(freed_ne hop m).2 ⟨q.2.1,q.2.2.2⟩,q.2.2.1⟩]
theorem accesses_any (ts:List Int) (ns:List Nd) (q C F hi:Nat) (A:Option Addr) (c:Nat) (ah bk:Nat→Nat) (L:Nat) (mb lv:Nat→Nat) (k:Nat) (d:Nd) (w:World) (h:LndIn ts ns C F hi A c ah bk L ns.length mb lv w) (hD:PtsOk q ns) (hA:AllTyped ts ns) (hd:ns[k]?=some d) (hop1:1≤d.op) (hmb:mb k<64) (hTab:TabAt 0 Lib.deBruijn64tab w) (hg:0<w.heap.size) :
  Calls Tryz.prog 124 #[.pointer (some ⟨L,0,none⟩),.int .i64 k] w fun E w'=>∃ v',E=.returned v'∧RowX w' w.heap.size v' (accD ts d ((mb k).testBit d.x.toNat))∧Below w.heap.size w w':=by
 obtain ⟨i0,hi0,hzz0,hzz1,hzz2⟩:=info_parts Tryz.infoAccessX
 have HI:=Lib.hid hi0
 have HZ0:=Lib.hid hzz0
 have HZ1:=Lib.hid hzz1
 have HZ2:=Lib.hid hzz2
 have hkn:=(List.getElem?_eq_some_iff.mp hd).1
 have hle:=h.fl.gr.le
 have hk61:k<61:=by omega
 have he:=effD_ok hA.1 (hA.2 k d hd)
 have hLl:=h.ltW
 have hlt:=h.lt
 have ki0:(0:Int)≤(k:Int):=by omega
 have ki1:(k:Int)<61:=by omega
 have HL1:=Lib.hid h
 have HTAB:=Lib.hid hTab
 have HDK:=Lib.hid hd
 have HE:=Lib.hid he
 clear h hTab hD hA hd he hi0 hzz0 hzz1 hzz2
 go_enter Tryz.func124,Tryz.ntmps124
 go_upto_region 1 with fail
 go_cut [5,6] (fun s7 s8 wx=>∃ (b7 b8:Nat) (p0 p1:Int),s7=.pointer (some ⟨b7,0,none⟩)∧s8=.pointer (some ⟨b8,0,none⟩)∧wx.heap[b7]?=some (.cells ([.int .i64 d.op,.int .i64 d.x,.int .i64 d.y,.int .i64 d.n,.int .i64 p0,.int .i64 p1,.int .i64 d.next.length]:List Value).toArray 130 (0,0))∧wx.heap[b8]?=some (.cells ([.int .u64 ((effD ts d).r:Int),.int .u64 ((effD ts d).t:Int),.int .u64 ((effD ts d).c:Int),.int .u64 ((effD ts d).s:Int)]:List Value).toArray 102 (0,0))∧w.heap.size≤b7∧w.heap.size≤b8∧Below w.heap.size w wx)
 case first =>
  obtain ⟨p0,p1,hrN⟩:=HL1.out.fl.gr.ndRange HDK.out
  have hrN:Hid (∀ w9,Below w.heap.size w w9→w9.rangeAt C (k*7) [.int .i64 d.op,.int .i64 d.x,.int .i64 d.y,.int .i64 d.n,.int .i64 p0,.int .i64 p1,.int .i64 d.next.length]):=fun w9 h9=>hrN w9 (h9.block C (by have:=HL1.out.ltW;omega))
  have hrE:Hid (∀ w9,Below w.heap.size w w9→w9.rangeAt F (2+k*4) [.int .u64 ((effD ts d).r:Int),.int .u64 ((effD ts d).t:Int),.int .u64 ((effD ts d).c:Int),.int .u64 ((effD ts d).s:Int)]):=fun w9 h9=>(HL1.out.keep h9).fl.effRange HDK.out
  refine wp_region_held_drew (S:=fun w9=>Below w.heap.size w w9) (by kernel_rfl) (Below.refl _ _).drew (fun hHeld=>?_)
  generalize hwd:w.drew=wd at *
  clear hwd
  refine tkd (i:=0) (v:=.pointer (some ⟨L,0,none⟩)) rfl hHeld ?_
  try simp only [Act.put,sA,sB,sC]
  refine tkd (i:=1) (v:=.pointer (some ⟨L,0,none⟩)) rfl hHeld ?_
  try simp only [Act.put,sA,sB,sC]
  refine tkd (i:=2) (v:=.pointer (some ⟨L,0,none⟩)) rfl hHeld ?_
  try simp only [Act.put,sA,sB,sC]
  refine tk (i:=3) (v:=.pointer (some ⟨F,0,none⟩)) rfl (Or.inl ⟨by rfl,fun w9 hSw=>by have h9:=(HL1.out.keep hSw).flCell;go_simp⟩) hHeld ?_
  try simp only [Act.put,sA,sB,sC]
  refine tkd (i:=4) (v:=.pointer (some ⟨F,0,none⟩)) rfl hHeld ?_
  try simp only [Act.put,sA,sB,sC]
  refine tkd (i:=5) (v:=.pointer (some ⟨F,0,none⟩)) rfl hHeld ?_
  try simp only [Act.put,sA,sB,sC]
  refine tk (i:=6) (v:=.pointer (some ⟨C,0,none⟩)) rfl (Or.inl ⟨by rfl,fun w9 hSw=>by have h9:=(HL1.out.keep hSw).fl.grCell;go_simp⟩) hHeld ?_
  try simp only [Act.put,sA,sB,sC]
  refine tkd (i:=7) (v:=.int .i64 (k:Int)) rfl hHeld ?_
  try simp only [Act.put,sA,sB,sC]
  refine tkd (i:=8) (v:=.pointer (some ⟨C,0,none⟩)) rfl hHeld ?_
  try simp only [Act.put,sA,sB,sC]
  refine tkd (i:=9) (v:=.pointer (some ⟨C,0,none⟩)) rfl hHeld ?_
  try simp only [Act.put,sA,sB,sC]
  refine tkd (i:=10) (v:=.pointer (some ⟨C,k*7,none⟩)) rfl hHeld ?_
  try simp only [Act.put,sA,sB,sC]
  refine tk (i:=11) (v:=.agg ([.int .i64 d.op,.int .i64 d.x,.int .i64 d.y,.int .i64 d.n,.int .i64 p0,.int .i64 p1,.int .i64 d.next.length]:List Value).toArray) rfl (yieldsIf_load_mid (by rfl) _ _ rfl C (k*7) rfl [.int .i64 d.op,.int .i64 d.x,.int .i64 d.y,.int .i64 d.n,.int .i64 p0,.int .i64 p1,.int .i64 d.next.length] _ (fun w9 hSw=>hrN.out w9 hSw) Tryz.underlying130 rfl (by kernel_rfl)) hHeld ?_
  try simp only [Act.put,sA,sB,sC]
  refine tkd (i:=12) (v:=.pointer (some ⟨L,0,none⟩)) rfl hHeld ?_
  try simp only [Act.put,sA,sB,sC]
  refine tkd (i:=13) (v:=.pointer (some ⟨L,0,none⟩)) rfl hHeld ?_
  try simp only [Act.put,sA,sB,sC]
  refine tkd (i:=14) (v:=.pointer (some ⟨L,0,none⟩)) rfl hHeld ?_
  try simp only [Act.put,sA,sB,sC]
  refine tk (i:=15) (v:=.pointer (some ⟨F,0,none⟩)) rfl (Or.inl ⟨by rfl,fun w9 hSw=>by have h9:=(HL1.out.keep hSw).flCell;go_simp⟩) hHeld ?_
  try simp only [Act.put,sA,sB,sC]
  refine tkd (i:=16) (v:=.int .i64 (k:Int)) rfl hHeld ?_
  try simp only [Act.put,sA,sB,sC]
  refine tkd (i:=17) (v:=.pointer (some ⟨F,0,none⟩)) rfl hHeld ?_
  try simp only [Act.put,sA,sB,sC]
  refine tkd (i:=18) (v:=.pointer (some ⟨F,2,none⟩)) rfl hHeld ?_
  try simp only [Act.put,sA,sB,sC]
  refine tkd (i:=19) (v:=.pointer (some ⟨F,2+k*4,none⟩)) rfl hHeld ?_
  try simp only [Act.put,sA,sB,sC]
  refine tk (i:=20) (v:=.agg ([.int .u64 ((effD ts d).r:Int),.int .u64 ((effD ts d).t:Int),.int .u64 ((effD ts d).c:Int),.int .u64 ((effD ts d).s:Int)]:List Value).toArray) rfl (yieldsIf_load_mid (by rfl) _ _ rfl F (2+k*4) rfl [.int .u64 ((effD ts d).r:Int),.int .u64 ((effD ts d).t:Int),.int .u64 ((effD ts d).c:Int),.int .u64 ((effD ts d).s:Int)] _ (fun w9 hSw=>hrE.out w9 hSw) Tryz.underlying102 rfl (by kernel_rfl)) hHeld ?_
  try simp only [Act.put,sA,sB,sC]
  refine wpAnyH_ready (rs:=[21,22]) (by kernel_rfl) (by simp) ?_
  refine AllReadyH.cons (o:=⟨_,_,_,_,_,_⟩) rfl (fun K hK=>?_) ?_
  ·skip
   go_simp
   have f7:=heap_alloc_new wd (.cells #[.int .i64 0,.int .i64 0,.int .i64 0,.int .i64 0,.int .i64 0,.int .i64 0,.int .i64 0] 130)
   have hs1:=hHeld.size
   refine hK.out _ _ (hHeld.alloc hHeld.size (.cells #[.int .i64 0,.int .i64 0,.int .i64 0,.int .i64 0,.int .i64 0,.int .i64 0,.int .i64 0] 130)) (fun hHeld=>?_)
   have hz1:(wd.alloc (.cells #[.int .i64 0,.int .i64 0,.int .i64 0,.int .i64 0,.int .i64 0,.int .i64 0,.int .i64 0] 130)).heap.size=wd.heap.size+1:=by simp
   generalize wd.alloc (.cells #[.int .i64 0,.int .i64 0,.int .i64 0,.int .i64 0,.int .i64 0,.int .i64 0,.int .i64 0] 130)=wa1 at *
   replace hz1:=Lib.hid hz1
   replace f7:=Lib.hid f7
   clear hK K
   have hzA:=hz1
   have hsA:=Lib.hid hs1
   refine wpAnyH_ready (rs:=[22]) (by kernel_rfl) (by simp) ?_
   refine AllReadyH.cons (o:=⟨_,_,_,_,_,_⟩) rfl (fun K hK=>?_) AllReadyH.nil
   go_simp
   have f8:=heap_alloc_new wa1 (.cells #[.int .u64 0,.int .u64 0,.int .u64 0,.int .u64 0] 102)
   replace f7:=((Below.refl wa1.heap.size wa1).alloc (Nat.le_refl _) (.cells #[.int .u64 0,.int .u64 0,.int .u64 0,.int .u64 0] 102)).block _ (heap_lt f7.out) |>.trans f7.out
   have hs2:=hHeld.size
   refine hK.out _ _ (hHeld.alloc hHeld.size (.cells #[.int .u64 0,.int .u64 0,.int .u64 0,.int .u64 0] 102)) (fun hHeld=>?_)
   have hz2:(wa1.alloc (.cells #[.int .u64 0,.int .u64 0,.int .u64 0,.int .u64 0] 102)).heap.size=wa1.heap.size+1:=by simp
   generalize wa1.alloc (.cells #[.int .u64 0,.int .u64 0,.int .u64 0,.int .u64 0] 102)=wa2 at *
   replace hz2:=Lib.hid hz2
   replace f7:=Lib.hid f7
   replace f8:=Lib.hid f8
   clear hK K
   refine wpAnyH_ready (rs:=[23]) (by kernel_rfl) (by simp) ?_
   refine AllReadyH.cons (o:=⟨_,_,_,_,_,_⟩) rfl (fun K hK=>?_) AllReadyH.nil
   rw [if_pos (by rfl)]
   refine wp_store_mid _ _ _ rfl (wd.heap.size) 0 ([.int .i64 d.op,.int .i64 d.x,.int .i64 d.y,.int .i64 d.n,.int .i64 p0,.int .i64 p1,.int .i64 d.next.length]:List Value).toArray rfl rfl (row_there f7.out rfl) (by kernel_rfl) (by simp [Value.oneCell']) ?_
   simp only [Act.put]
   have g7:=row_set ([.int .i64 d.op,.int .i64 d.x,.int .i64 d.y,.int .i64 d.n,.int .i64 p0,.int .i64 p1,.int .i64 d.next.length]:List Value) f7.out rfl
   have g8:=(heap_setCells_ne wa2 (wd.heap.size) (wa1.heap.size) 0 ([.int .i64 d.op,.int .i64 d.x,.int .i64 d.y,.int .i64 d.n,.int .i64 p0,.int .i64 p1,.int .i64 d.next.length]:List Value) (by have:=hzA.out;have:=hsA.out;omega) (heap_lt f8.out)).trans f8.out
   refine hK.out _ _ (below_setCells hHeld (by have:=hzA.out;have:=hsA.out;omega) hHeld.size) (fun hHeld=>?_)
   change Below w.heap.size w (wa2.setCells (wd.heap.size) 0 [.int .i64 d.op,.int .i64 d.x,.int .i64 d.y,.int .i64 d.n,.int .i64 p0,.int .i64 p1,.int .i64 d.next.length]) at hHeld
   skip
   generalize hgen:wa2.setCells (wd.heap.size) 0 _=wa3 at *
   clear hK K hgen
   replace f7:=Lib.hid g7
   clear g7
   replace f8:=Lib.hid g8
   clear g8
   refine wpAnyH_ready (rs:=[24]) (by kernel_rfl) (by simp) ?_
   refine AllReadyH.cons (o:=⟨_,_,_,_,_,_⟩) rfl (fun K hK=>?_) AllReadyH.nil
   rw [if_pos (by rfl)]
   refine wp_store_mid _ _ _ rfl (wa1.heap.size) 0 ([.int .u64 ((effD ts d).r:Int),.int .u64 ((effD ts d).t:Int),.int .u64 ((effD ts d).c:Int),.int .u64 ((effD ts d).s:Int)]:List Value).toArray rfl rfl (row_there f8.out rfl) (by kernel_rfl) (by simp [Value.oneCell']) ?_
   simp only [Act.put]
   have g8:=row_set ([.int .u64 ((effD ts d).r:Int),.int .u64 ((effD ts d).t:Int),.int .u64 ((effD ts d).c:Int),.int .u64 ((effD ts d).s:Int)]:List Value) f8.out rfl
   have g7:=(heap_setCells_ne wa3 (wa1.heap.size) (wd.heap.size) 0 ([.int .u64 ((effD ts d).r:Int),.int .u64 ((effD ts d).t:Int),.int .u64 ((effD ts d).c:Int),.int .u64 ((effD ts d).s:Int)]:List Value) (by have:=hzA.out;have:=hsA.out;omega) (heap_lt f7.out)).trans f7.out
   refine hK.out _ _ (below_setCells hHeld (by have:=hzA.out;have:=hsA.out;omega) hHeld.size) (fun hHeld=>?_)
   change Below w.heap.size w (wa3.setCells (wa1.heap.size) 0 [.int .u64 ((effD ts d).r:Int),.int .u64 ((effD ts d).t:Int),.int .u64 ((effD ts d).c:Int),.int .u64 ((effD ts d).s:Int)]) at hHeld
   skip
   generalize hgen:wa3.setCells (wa1.heap.size) 0 _=wa4 at *
   clear hK K hgen
   replace f7:=Lib.hid g7
   clear g7
   replace f8:=Lib.hid g8
   clear g8
   refine wpAnyH_done (by kernel_rfl) ?_ _
   go_wp2_with fail
   go_meet
   exact ⟨wd.heap.size,wa1.heap.size,p0,p1,rfl,rfl,f7.out,f8.out,by have:=hzA.out;have:=hsA.out;omega,by have:=hzA.out;have:=hsA.out;omega,hHeld⟩
  refine AllReadyH.cons (o:=⟨_,_,_,_,_,_⟩) rfl (fun K hK=>?_) AllReadyH.nil
  go_simp
  have f8:=heap_alloc_new wd (.cells #[.int .u64 0,.int .u64 0,.int .u64 0,.int .u64 0] 102)
  have hs1:=hHeld.size
  refine hK.out _ _ (hHeld.alloc hHeld.size (.cells #[.int .u64 0,.int .u64 0,.int .u64 0,.int .u64 0] 102)) (fun hHeld=>?_)
  have hz1:(wd.alloc (.cells #[.int .u64 0,.int .u64 0,.int .u64 0,.int .u64 0] 102)).heap.size=wd.heap.size+1:=by simp
  generalize wd.alloc (.cells #[.int .u64 0,.int .u64 0,.int .u64 0,.int .u64 0] 102)=wa1 at *
  replace hz1:=Lib.hid hz1
  replace f8:=Lib.hid f8
  clear hK K
  have hzA:=hz1
  have hsA:=Lib.hid hs1
  refine wpAnyH_ready (rs:=[21]) (by kernel_rfl) (by simp) ?_
  refine AllReadyH.cons (o:=⟨_,_,_,_,_,_⟩) rfl (fun K hK=>?_) AllReadyH.nil
  go_simp
  have f7:=heap_alloc_new wa1 (.cells #[.int .i64 0,.int .i64 0,.int .i64 0,.int .i64 0,.int .i64 0,.int .i64 0,.int .i64 0] 130)
  replace f8:=((Below.refl wa1.heap.size wa1).alloc (Nat.le_refl _) (.cells #[.int .i64 0,.int .i64 0,.int .i64 0,.int .i64 0,.int .i64 0,.int .i64 0,.int .i64 0] 130)).block _ (heap_lt f8.out) |>.trans f8.out
  have hs2:=hHeld.size
  refine hK.out _ _ (hHeld.alloc hHeld.size (.cells #[.int .i64 0,.int .i64 0,.int .i64 0,.int .i64 0,.int .i64 0,.int .i64 0,.int .i64 0] 130)) (fun hHeld=>?_)
  have hz2:(wa1.alloc (.cells #[.int .i64 0,.int .i64 0,.int .i64 0,.int .i64 0,.int .i64 0,.int .i64 0,.int .i64 0] 130)).heap.size=wa1.heap.size+1:=by simp
  generalize wa1.alloc (.cells #[.int .i64 0,.int .i64 0,.int .i64 0,.int .i64 0,.int .i64 0,.int .i64 0,.int .i64 0] 130)=wa2 at *
  replace hz2:=Lib.hid hz2
  replace f8:=Lib.hid f8
  replace f7:=Lib.hid f7
  clear hK K
  refine wpAnyH_ready (rs:=[23]) (by kernel_rfl) (by simp) ?_
  refine AllReadyH.cons (o:=⟨_,_,_,_,_,_⟩) rfl (fun K hK=>?_) AllReadyH.nil
  rw [if_pos (by rfl)]
  refine wp_store_mid _ _ _ rfl (wa1.heap.size) 0 ([.int .i64 d.op,.int .i64 d.x,.int .i64 d.y,.int .i64 d.n,.int .i64 p0,.int .i64 p1,.int .i64 d.next.length]:List Value).toArray rfl rfl (row_there f7.out rfl) (by kernel_rfl) (by simp [Value.oneCell']) ?_
  simp only [Act.put]
  have g7:=row_set ([.int .i64 d.op,.int .i64 d.x,.int .i64 d.y,.int .i64 d.n,.int .i64 p0,.int .i64 p1,.int .i64 d.next.length]:List Value) f7.out rfl
  have g8:=(heap_setCells_ne wa2 (wa1.heap.size) (wd.heap.size) 0 ([.int .i64 d.op,.int .i64 d.x,.int .i64 d.y,.int .i64 d.n,.int .i64 p0,.int .i64 p1,.int .i64 d.next.length]:List Value) (by have:=hzA.out;have:=hsA.out;omega) (heap_lt f8.out)).trans f8.out
  refine hK.out _ _ (below_setCells hHeld (by have:=hzA.out;have:=hsA.out;omega) hHeld.size) (fun hHeld=>?_)
  change Below w.heap.size w (wa2.setCells (wa1.heap.size) 0 [.int .i64 d.op,.int .i64 d.x,.int .i64 d.y,.int .i64 d.n,.int .i64 p0,.int .i64 p1,.int .i64 d.next.length]) at hHeld
  skip
  generalize hgen:wa2.setCells (wa1.heap.size) 0 _=wa3 at *
  clear hK K hgen
  replace f8:=Lib.hid g8
  clear g8
  replace f7:=Lib.hid g7
  clear g7
  refine wpAnyH_ready (rs:=[24]) (by kernel_rfl) (by simp) ?_
  refine AllReadyH.cons (o:=⟨_,_,_,_,_,_⟩) rfl (fun K hK=>?_) AllReadyH.nil
  rw [if_pos (by rfl)]
  refine wp_store_mid _ _ _ rfl (wd.heap.size) 0 ([.int .u64 ((effD ts d).r:Int),.int .u64 ((effD ts d).t:Int),.int .u64 ((effD ts d).c:Int),.int .u64 ((effD ts d).s:Int)]:List Value).toArray rfl rfl (row_there f8.out rfl) (by kernel_rfl) (by simp [Value.oneCell']) ?_
  simp only [Act.put]
  have g8:=row_set ([.int .u64 ((effD ts d).r:Int),.int .u64 ((effD ts d).t:Int),.int .u64 ((effD ts d).c:Int),.int .u64 ((effD ts d).s:Int)]:List Value) f8.out rfl
  have g7:=(heap_setCells_ne wa3 (wd.heap.size) (wa1.heap.size) 0 ([.int .u64 ((effD ts d).r:Int),.int .u64 ((effD ts d).t:Int),.int .u64 ((effD ts d).c:Int),.int .u64 ((effD ts d).s:Int)]:List Value) (by have:=hzA.out;have:=hsA.out;omega) (heap_lt f7.out)).trans f7.out
  refine hK.out _ _ (below_setCells hHeld (by have:=hzA.out;have:=hsA.out;omega) hHeld.size) (fun hHeld=>?_)
  change Below w.heap.size w (wa3.setCells (wd.heap.size) 0 [.int .u64 ((effD ts d).r:Int),.int .u64 ((effD ts d).t:Int),.int .u64 ((effD ts d).c:Int),.int .u64 ((effD ts d).s:Int)]) at hHeld
  skip
  generalize hgen:wa3.setCells (wd.heap.size) 0 _=wa4 at *
  clear hK K hgen
  replace f8:=Lib.hid g8
  clear g8
  replace f7:=Lib.hid g7
  clear g7
  refine wpAnyH_done (by kernel_rfl) ?_ _
  go_wp2_with fail
  go_meet
  exact ⟨wa1.heap.size,wd.heap.size,p0,p1,rfl,rfl,f7.out,f8.out,by have:=hzA.out;have:=hsA.out;omega,by have:=hzA.out;have:=hsA.out;omega,hHeld⟩
 case rest =>
  obtain ⟨b7,b8,p0,p1,rfl,rfl,h7,h8,hn7,hn8,hbc⟩:=hcut
  obtain ⟨wb,rfl⟩:∃ z,z=wc:=⟨_,rfl⟩
  have hxy:=HE.out.xy
  have HL:=Lib.hid (HL1.out.keep hbc)
  have HT2:=Lib.hid (tab_below HTAB.out hg hbc)
  have hg2:0<wb.heap.size:=Nat.lt_of_lt_of_le hg hbc.size
  have HB0:=Lib.hid hbc
  have HC7:Hid (wb.cell? ⟨b7,0,none⟩=some (.int .i64 d.op)∧wb.cell? ⟨b7,1,none⟩=some (.int .i64 d.x)∧wb.cell? ⟨b7,2,none⟩=some (.int .i64 d.y)):=Lib.hid ⟨(cB h7 0).trans rfl,(cB h7 1).trans rfl,(cB h7 2).trans rfl⟩
  have HC8:Hid (wb.cell? ⟨b8,1,none⟩=some (.int .u64 ((effD ts d).t:Int))∧wb.cell? ⟨b8,3,none⟩=some (.int .u64 ((effD ts d).s:Int))):=Lib.hid ⟨(cB h8 1).trans rfl,(cB h8 3).trans rfl⟩
  have HL7:Hid (b7<wb.heap.size∧b8<wb.heap.size):=Lib.hid ⟨heap_lt h7,heap_lt h8⟩
  have HN:Hid (w.heap.size≤wb.heap.size):=Lib.hid hbc.size
  clear h7 h8 hn7 hn8 hbc HL1 HTAB hg
  have x0:=HC7.out.1
  have x1:=HC7.out.2.1
  have x2:=HC7.out.2.2
  have y1:=HC8.out.1
  have HRW:=Lib.hid (RowX.nil wb wb.heap.size)
  go_upto_block 0 with fail
  obtain ⟨op,hop⟩:∃ op,op=d.op:=⟨_,rfl⟩
  simp only [← hop]
  rw [← hop] at x0
  have HOP:=Lib.hid hop
  clear hop
  go_cut [7] (fun s7 wx=>∃ (A:Option Addr) (c7:Nat),s7=.slice A (accA ts d).length c7∧Hid (RowX wx wb.heap.size (.slice A (accA ts d).length c7) (accA ts d))∧Hid (Below wb.heap.size wb wx))
  case first =>
   by_cases e4:op=4
   ·subst e4
    have HACC:Hid (accA ts d=[⟨d.y,false⟩]):=Lib.hid (by unfold accA;rw [← HOP.out];simp)
    go_wp2_with (at_builtin;refine wpList_append_lies _ rfl _ _ 207 rfl wb.heap.size 210 i0 .nilIface 1 16 Tryz.underlying207 HI.out HZ0.out HZ1.out HZ2.out rfl (by decide) _ _ _ rfl ((RowX.own HRW.out).alloc _) ⟨_,0,none⟩ 1 1 [.iface 227 (.int .i64 d.y)] rfl rfl ?x01 ?x02 (by decide) ?x03 ?x04 ?x05 _ rfl ?_)
    try (case x01=>exact news_cell (by simp) rfl)
    try (case x02=>(intro u9 hu9;simp only [List.mem_cons,List.not_mem_nil,or_false] at hu9;rcases hu9 with rfl;rfl))
    try (case x03=>(unfold maxLen;first | omega | (simp only [List.length_nil];omega)))
    try (case x04=>(first | omega | (simp only [List.length_nil];omega)))
    try (case x05=>(skip;first | omega | (simp;omega) | simp))
    intro g9 cap9 w9 hown9 hgg9 hat9 hlt9
    have HR9:=Lib.hid (RowX.snoc (l:=[]) (d:=⟨d.y,false⟩) hown9)
    have hba:=(Below.refl wb.heap.size wb).alloc (Nat.le_refl _) (.cells #[.iface 227 (.int .i64 d.y)] 210)
    have HB9:=Lib.hid (hba.grown hgg9 hba.size (fun j hj=>(RowX.lt HRW.out j hj).1))
    clear hown9 hgg9 hat9 hlt9 hba
    go_wp2_with fail
    go_meet
    exact ⟨some ⟨g9,0,none⟩,cap9,by rw [HACC.out];rfl,by rw [HACC.out];exact HR9,HB9⟩
   have n4:(op==4)=false:=by simp [e4]
   have d4:decide (op=4)=false:=decide_eq_false e4
   by_cases e6:op=6
   ·subst e6
    have HACC:Hid (accA ts d=[⟨d.y,false⟩]):=Lib.hid (by unfold accA;rw [← HOP.out];simp)
    go_wp2_with (at_builtin;refine wpList_append_lies _ rfl _ _ 207 rfl wb.heap.size 210 i0 .nilIface 1 16 Tryz.underlying207 HI.out HZ0.out HZ1.out HZ2.out rfl (by decide) _ _ _ rfl ((RowX.own HRW.out).alloc _) ⟨_,0,none⟩ 1 1 [.iface 227 (.int .i64 d.y)] rfl rfl ?x11 ?x12 (by decide) ?x13 ?x14 ?x15 _ rfl ?_)
    try (case x11=>exact news_cell (by simp) rfl)
    try (case x12=>(intro u9 hu9;simp only [List.mem_cons,List.not_mem_nil,or_false] at hu9;rcases hu9 with rfl;rfl))
    try (case x13=>(unfold maxLen;first | omega | (simp only [List.length_nil];omega)))
    try (case x14=>(first | omega | (simp only [List.length_nil];omega)))
    try (case x15=>(skip;first | omega | (simp;omega) | simp))
    intro g9 cap9 w9 hown9 hgg9 hat9 hlt9
    have HR9:=Lib.hid (RowX.snoc (l:=[]) (d:=⟨d.y,false⟩) hown9)
    have hba:=(Below.refl wb.heap.size wb).alloc (Nat.le_refl _) (.cells #[.iface 227 (.int .i64 d.y)] 210)
    have HB9:=Lib.hid (hba.grown hgg9 hba.size (fun j hj=>(RowX.lt HRW.out j hj).1))
    clear hown9 hgg9 hat9 hlt9 hba
    go_wp2_with fail
    go_meet
    exact ⟨some ⟨g9,0,none⟩,cap9,by rw [HACC.out];rfl,by rw [HACC.out];exact HR9,HB9⟩
   have n6:(op==6)=false:=by simp [e6]
   have d6:decide (op=6)=false:=decide_eq_false e6
   by_cases e5:op=5
   ·subst e5
    have HACC:Hid (accA ts d=[⟨d.y,true⟩]):=Lib.hid (by unfold accA;rw [← HOP.out];simp)
    go_wp2_with (at_builtin;refine wpList_append_lies _ rfl _ _ 207 rfl wb.heap.size 210 i0 .nilIface 1 16 Tryz.underlying207 HI.out HZ0.out HZ1.out HZ2.out rfl (by decide) _ _ _ rfl ((RowX.own HRW.out).alloc _) ⟨_,0,none⟩ 1 1 [.iface 228 (.int .i64 d.y)] rfl rfl ?x21 ?x22 (by decide) ?x23 ?x24 ?x25 _ rfl ?_)
    try (case x21=>exact news_cell (by simp) rfl)
    try (case x22=>(intro u9 hu9;simp only [List.mem_cons,List.not_mem_nil,or_false] at hu9;rcases hu9 with rfl;rfl))
    try (case x23=>(unfold maxLen;first | omega | (simp only [List.length_nil];omega)))
    try (case x24=>(first | omega | (simp only [List.length_nil];omega)))
    try (case x25=>(skip;first | omega | (simp;omega) | simp))
    intro g9 cap9 w9 hown9 hgg9 hat9 hlt9
    have HR9:=Lib.hid (RowX.snoc (l:=[]) (d:=⟨d.y,true⟩) hown9)
    have hba:=(Below.refl wb.heap.size wb).alloc (Nat.le_refl _) (.cells #[.iface 228 (.int .i64 d.y)] 210)
    have HB9:=Lib.hid (hba.grown hgg9 hba.size (fun j hj=>(RowX.lt HRW.out j hj).1))
    clear hown9 hgg9 hat9 hlt9 hba
    go_wp2_with fail
    go_meet
    exact ⟨some ⟨g9,0,none⟩,cap9,by rw [HACC.out];rfl,by rw [HACC.out];exact HR9,HB9⟩
   have n5:(op==5)=false:=by simp [e5]
   have d5:decide (op=5)=false:=decide_eq_false e5
   by_cases e7:op=7
   ·subst e7
    have HACC:Hid (accA ts d=[⟨d.x,true⟩]):=Lib.hid (by unfold accA;rw [← HOP.out];simp)
    go_wp2_with (at_builtin;refine wpList_append_lies _ rfl _ _ 207 rfl wb.heap.size 210 i0 .nilIface 1 16 Tryz.underlying207 HI.out HZ0.out HZ1.out HZ2.out rfl (by decide) _ _ _ rfl ((RowX.own HRW.out).alloc _) ⟨_,0,none⟩ 1 1 [.iface 228 (.int .i64 d.x)] rfl rfl ?x31 ?x32 (by decide) ?x33 ?x34 ?x35 _ rfl ?_)
    try (case x31=>exact news_cell (by simp) rfl)
    try (case x32=>(intro u9 hu9;simp only [List.mem_cons,List.not_mem_nil,or_false] at hu9;rcases hu9 with rfl;rfl))
    try (case x33=>(unfold maxLen;first | omega | (simp only [List.length_nil];omega)))
    try (case x34=>(first | omega | (simp only [List.length_nil];omega)))
    try (case x35=>(skip;first | omega | (simp;omega) | simp))
    intro g9 cap9 w9 hown9 hgg9 hat9 hlt9
    have HR9:=Lib.hid (RowX.snoc (l:=[]) (d:=⟨d.x,true⟩) hown9)
    have hba:=(Below.refl wb.heap.size wb).alloc (Nat.le_refl _) (.cells #[.iface 228 (.int .i64 d.x)] 210)
    have HB9:=Lib.hid (hba.grown hgg9 hba.size (fun j hj=>(RowX.lt HRW.out j hj).1))
    clear hown9 hgg9 hat9 hlt9 hba
    go_wp2_with fail
    go_meet
    exact ⟨some ⟨g9,0,none⟩,cap9,by rw [HACC.out];rfl,by rw [HACC.out];exact HR9,HB9⟩
   have n7:(op==7)=false:=by simp [e7]
   have d7:decide (op=7)=false:=decide_eq_false e7
   have HACC:Hid (accA ts d=(bitsOf (effD ts d).t).map fun (b:Nat)=>(⟨(b:Int),true⟩:AccD)):=Lib.hid (accA_takes hxy (by rw [← HOP.out];exact e4) (by rw [← HOP.out];exact e5) (by rw [← HOP.out];exact e6) (by rw [← HOP.out];exact e7))
   have htl:=HE.out.tlt
   have hls:=setList_any (effD ts d).t (by omega) wb HT2.out hg2
   obtain ⟨tt,htt⟩:∃ t,(effD ts d).t=t:=⟨_,rfl⟩
   rw [htt] at y1 HACC hls htl
   clear htt HRW e4 e5 e6 e7
   go_wp2_with fail
   refine hls.mono ?_
   rintro E w5 ⟨v,rfl,hrow,hb5⟩
   obtain ⟨Ar,cr,hvs⟩:=hrow.slice
   subst hvs
   obtain ⟨bl,hbl⟩:∃ bl,bl=bitsOf tt:=⟨_,rfl⟩
   have hll:(intsOf tt).length=bl.length:=by rw [hbl];simp [intsOf]
   have hlen64:=intsOf_length tt
   have HROW:Hid (RowI w5 wb.heap.size (.slice Ar bl.length cr) (intsOf tt)):=by rw [← hll];exact hrow
   rw [hll] at hlen64
   have HLI:Hid (intsOf tt=bl.map (fun (k:Nat)=>(k:Int))):=by rw [hbl];rfl
   rw [← hbl] at HACC
   have hmb':∀ b∈bl,b<64:=fun b hb=>((mem_bitsOf tt b).mp (hbl ▸ hb)).1
   have HB5:=Lib.hid hb5
   rw [hll]
   clear hrow hll hbl hb5 hls x0 x1 x2 y1 n4 n5 n6 n7 d4 d5 d6 d7
   go_wp2_with fail
   go_loopw [7,38] (fun v7 i wr=>∃ (j:Nat) (A7:Option Addr) (c7:Nat),v7=.slice A7 j c7∧i=.int .i64 j∧j≤bl.length∧Hid (RowX wr w5.heap.size (.slice A7 j c7) ((accA ts d).take j))∧Hid (Below w5.heap.size w5 wr)) (fun _ i _=>bl.length-(intOf i).toNat)
   case atStart=>exact ⟨0,none,0,rfl,rfl,Nat.zero_le _,Lib.hid (RowX.nil _ _),Lib.hid (Below.refl _ _)⟩
   case round =>
    obtain ⟨j,A7,c7,rfl,rfl,hj,HR,HB⟩:=hrel
    have hal:(accA ts d).length=bl.length:=by rw [HACC.out,List.length_map]
    by_cases hjl:j<bl.length
    ·obtain ⟨b,hb⟩:∃ b,bl[j]?=some b:=⟨bl[j],List.getElem?_eq_getElem hjl⟩
     have hb64:=hmb' b (List.mem_of_getElem? hb)
     have hab:(accA ts d)[j]?=some ⟨(b:Int),true⟩:=by rw [HACC.out,List.getElem?_map,hb];rfl
     have htk:(accA ts d).take (j+1)=(accA ts d).take j++[⟨(b:Int),true⟩]:=by rw [List.take_add_one,hab];rfl
     have htl:((accA ts d).take j).length=j:=by rw [List.length_take,hal];omega
     obtain ⟨b0,u,hb0,-,hbb,hxx,hc⟩:=(RowI.intsV HROW.out).elem (k:=j) (by rw [HLI.out];simpa using hjl)
     subst hb0
     have hub:u=(b:Int):=by
      rw [HLI.out,List.getElem?_map,hb] at hxx
      simpa using hxx.symm
     subst hub
     replace hc:=(HB.out.cell (p:=b0.add j) (by rw [block_add];exact hbb)).trans hc
     have ji0:(0:Int)≤(j:Int):=by omega
     have ji1:(j:Int)<(bl.length:Int):=by omega
     have f1:IntKind.i64.wrap ((j:Int)+1)=(j:Int)+1:=IntWalk.i64_in _ (by omega)
     have HTK:=Lib.hid htk
     have HRO:Hid (wr.ownsRow w5.heap.size 210 1 (.slice A7 j c7) j (((accA ts d).take j).map AccD.face)):=Lib.hid (by have:=RowX.own HR.out;rwa [htl] at this)
     have HTL:=Lib.hid htl
     clear htk htl hxx hab hb hal
     go_wp2_with (at_builtin;refine wpList_append_lies _ rfl _ _ 207 rfl w5.heap.size 210 i0 .nilIface 1 16 Tryz.underlying207 HI.out HZ0.out HZ1.out HZ2.out rfl (by decide) _ _ _ rfl (HRO.out.alloc _) ⟨_,0,none⟩ 1 1 [.iface 228 (.int .i64 (b:Int))] rfl rfl ?x91 ?x92 (by decide) ?x93 ?x94 ?x95 _ rfl ?_)
     try (case x91=>exact news_cell (by simp) rfl)
     try (case x92=>(intro u9 hu9;simp only [List.mem_cons,List.not_mem_nil,or_false] at hu9;rcases hu9 with rfl;rfl))
     try (case x93=>(unfold maxLen;first | omega | (simp only [List.length_nil];omega)))
     try (case x94=>(first | omega | (simp only [List.length_nil];omega)))
     try (case x95=>(have:=HB.out.size;first | omega | (simp;omega) | simp))
     intro g9 cap9 w9 hown9 hgg9 hat9 hlt9
     have HR9:Hid (RowX w9 w5.heap.size (.slice (some ⟨g9,0,none⟩) (j+1) cap9) ((accA ts d).take (j+1))):=Lib.hid (by
      rw [HTK.out]
      exact RowX.snoc (d:=⟨(b:Int),true⟩) (by rw [HTL.out,List.map_take];exact hown9))
     have hba:=(Below.refl wr.heap.size wr).alloc (Nat.le_refl _) (.cells #[.iface 228 (.int .i64 (b:Int))] 210)
     have HB9:=Lib.hid ((HB.out.trans (hba.mono HB.out.size)).grown hgg9 (Nat.le_trans HB.out.size hba.size) (fun j hj=>(RowX.lt HR.out j hj).1))
     clear hown9 hgg9 hat9 hlt9 hba
     go_wp2_with fail
     go_roundw
     case rel=>exact ⟨j+1,some ⟨g9,0,none⟩,cap9,rfl,by go_num,by omega,HR9,HB9⟩
     case measure=>simp [intOf];omega
    ·have hjn:j=bl.length:=by omega
     have jd:decide ((j:Int)<(bl.length:Int))=false:=decide_eq_false (by omega)
     have HRE:Hid (RowX wr wb.heap.size (.slice A7 (accA ts d).length c7) (accA ts d)):=Lib.hid (by
      have h9:=HR.out
      rw [hjn,← hal,List.take_length] at h9
      exact h9.mono HB5.out.size)
     have HBE:=Lib.hid (HB5.out.trans (HB.out.mono HB5.out.size))
     go_wp2_with fail
     go_meet
     exact ⟨A7,c7,by rw [hal,hjn],HRE,HBE⟩
  case rest =>
   obtain ⟨A7,c7,rfl,HR7,HB7⟩:=hcut
   clear x0 x1 x2 y1 HRW
   have x1:=(HB7.out.cell (p:=⟨b7,1,none⟩) HL7.out.1).trans HC7.out.2.1
   have y3:=(HB7.out.cell (p:=⟨b8,3,none⟩) HL7.out.2).trans HC8.out.2
   have HL9:=Lib.hid (HL.out.keep HB7.out)
   have hsl:=HE.out.slt
   have hac:=accD_freed (ts:=ts) hop1 (mb k)
   have hand:=bits_and_u64 (effD ts d).s (mb k) (by omega) (by omega)
   obtain ⟨z,hz⟩:∃ z,(effD ts d).s&&&mb k=z:=⟨_,rfl⟩
   obtain ⟨se,hse⟩:∃ s,(effD ts d).s=s:=⟨_,rfl⟩
   have hmk:=HL9.out.mbCell hk61
   obtain ⟨mk,hmk'⟩:∃ m,mb k=m:=⟨_,rfl⟩
   rw [hz] at hand hac
   rw [hse] at hand y3
   rw [hmk'] at hand hmk
   have HAC:=Lib.hid hac
   have HX1:=Lib.hid x1
   have hzl:z<18446744073709551616:=by rw [← hz,hse];exact Nat.lt_of_le_of_lt Nat.and_le_left (by omega)
   clear hac hz hse hmk'
   go_upto_region 16 with (fail)
   go_quiet (fail)
   go_wp2_with fail
   generalize hwd:World.drewN wc _=wd
   have hq:Below wc.heap.size wc wd:=by rw [← hwd];exact ⟨rfl,rfl,rfl,Nat.le_refl _,fun _ _=>rfl⟩
   clear hwd hmk hand y3
   have HR2:=Lib.hid (HR7.out.below hq)
   have HB2:=Lib.hid (HB7.out.trans (hq.mono HB7.out.size))
   have HBW:=Lib.hid (HB0.out.trans (HB2.out.mono HB0.out.size))
   have HLD:=Lib.hid (HL9.out.keep hq)
   have HDX:=Lib.hid ((hq.cell (p:=⟨b7,1,none⟩) (Nat.lt_of_lt_of_le HL7.out.1 HB7.out.size)).trans HX1.out)
   have HLD7:Hid (b7<wd.heap.size):=Lib.hid (Nat.lt_of_lt_of_le HL7.out.1 HB2.out.size)
   clear hq HR7 HB7 HL9 HX1 x1
   by_cases hz0:z=0
   ·subst hz0
    have HAE:Hid (accD ts d ((mb k).testBit d.x.toNat)=accA ts d):=Lib.hid (by rw [HAC.out,if_neg (fun q=>q.1 rfl)];simp)
    go_quiet (fail)
    generalize hwe:World.drewN wd _=we
    have hq:Below wd.heap.size wd we:=by rw [← hwe];exact ⟨rfl,rfl,rfl,Nat.le_refl _,fun _ _=>rfl⟩
    clear hwe
    go_wp2_with fail
    go_ret
    exact ⟨_,rfl,by rw [HAE.out];exact (HR2.out.below hq).mono HN.out,HBW.out.trans (hq.mono HBW.out.size)⟩
   ·have z1:((z:Int) != 0)=true:=by simpa using hz0
    have z2:decide (¬ ((z:Int)=0))=true:=decide_eq_true (by omega)
    have z3:((z:Int)==0)=false:=by simpa using hz0
    have z4:decide ((z:Int)=0)=false:=decide_eq_false (by omega)
    obtain ⟨ty,hty⟩:∃ t,tyAt ts d.x=t:=⟨_,rfl⟩
    have HAT:Hid (accD ts d ((mb k).testBit d.x.toNat)=accA ts d++if ty=2 then [⟨d.x,true⟩] else []):=Lib.hid (by rw [HAC.out,hty];simp [hz0])
    have HTE:Hid (∀ w',Below wd.heap.size wd w'→Calls Tryz.prog 129 #[.slice A ts.length c,.int .i64 d.x] w' fun E w''=>E=.returned (.int .i64 ty)∧w'=w''):=Lib.hid (fun w' hb=>by
     have h:=typeOf_any ts A c d.x w' (HLD.out.keep hb).fl.scope
     rwa [hty] at h)
    have HS:Hid (∀ w',Below wd.heap.size wd w'→(Below wd.heap.size wd w'∧w'.cell? ⟨L,0,none⟩=some (.pointer (some ⟨F,0,none⟩))∧w'.cell? ⟨F,1,none⟩=some (.slice A ts.length c)∧w'.cell? ⟨b7,1,none⟩=some (.int .i64 d.x))):=Lib.hid (fun w' hb=>⟨hb,(HLD.out.keep hb).flCell,(HLD.out.keep hb).fl.scCell,(hb.cell (p:=⟨b7,1,none⟩) HLD7.out).trans HDX.out⟩)
    clear hty HAC
    go_region_held3 (fun w'=>Below wd.heap.size wd w'∧w'.cell? ⟨L,0,none⟩=some (.pointer (some ⟨F,0,none⟩))∧w'.cell? ⟨F,1,none⟩=some (.slice A ts.length c)∧w'.cell? ⟨b7,1,none⟩=some (.int .i64 d.x))
     (first | with_reducible exact HS.out _ ((Below.refl wd.heap.size wd).drew) | with_reducible exact HS.out _ (Below.refl wd.heap.size wd) | (with_reducible assumption))
     ((go_at_call 129;(with_reducible refine (HTE.out _ (And.left ‹Below wd.heap.size wd _∧_›)).mono ?_);rintro E w'' ⟨rfl,rfl⟩))
    clear HTE HS z1 z2 z3 z4
    all_goals
     obtain ⟨hq2,-,-,hdx⟩:=‹Below wd.heap.size wd _∧_›
     obtain ⟨wf,hwf⟩:∃ z,wd.drew=z:=⟨_,rfl⟩
     rw [hwf] at hq2 hdx ⊢
     clear hwf
     have HBX:=Lib.hid (HBW.out.trans (hq2.mono HBW.out.size))
     replace HR2:=Lib.hid (HR2.out.below hq2)
     replace HB2:=Lib.hid (HB2.out.trans (hq2.mono HB2.out.size))
     clear hq2
     have hla:=accA_length ts d
     by_cases t2:ty=2
     ·subst t2
      rw [if_pos rfl] at HAT
      go_wp2_with (at_builtin;refine wpList_append_lies _ rfl _ _ 207 rfl wb.heap.size 210 i0 .nilIface 1 16 Tryz.underlying207 HI.out HZ0.out HZ1.out HZ2.out rfl (by decide) _ _ _ rfl ((RowX.own HR2.out).alloc _) ⟨_,0,none⟩ 1 1 [.iface 228 (.int .i64 d.x)] rfl rfl ?x81 ?x82 (by decide) ?x83 ?x84 ?x85 _ rfl ?_)
      try (case x81=>exact news_cell (by simp) rfl)
      try (case x82=>(intro u9 hu9;simp only [List.mem_cons,List.not_mem_nil,or_false] at hu9;rcases hu9 with rfl;rfl))
      try (case x83=>(unfold maxLen;first | omega | (simp only [List.length_nil];omega)))
      try (case x84=>(first | omega | (simp only [List.length_nil];omega)))
      try (case x85=>(have:=HB2.out.size;first | omega | (simp;omega) | simp))
      intro g9 cap9 w9 hown9 hgg9 hat9 hlt9
      have HR9:=Lib.hid (RowX.snoc (l:=accA ts d) (d:=⟨d.x,true⟩) hown9)
      have hba:=(Below.refl wf.heap.size wf).alloc (Nat.le_refl _) (.cells #[.iface 228 (.int .i64 d.x)] 210)
      have HB9:=Lib.hid ((HB2.out.trans (hba.mono HB2.out.size)).grown hgg9 (Nat.le_trans HB2.out.size hba.size) (fun j hj=>(RowX.lt HR2.out j hj).1))
      clear hown9 hgg9 hat9 hlt9 hba
      go_wp2_with fail
      go_ret
      exact ⟨_,rfl,by rw [HAT.out];exact HR9.out.mono HN.out,HB0.out.trans (HB9.out.mono HN.out)⟩
     ·rw [if_neg t2] at HAT
      have m2:(ty==2)=false:=by simp [t2]
      have d2:decide (ty=2)=false:=decide_eq_false t2
      have HAE:Hid (accD ts d ((mb k).testBit d.x.toNat)=accA ts d):=Lib.hid (by rw [HAT.out];simp)
      go_wp2_with fail
      go_ret
      exact ⟨_,rfl,by rw [HAE.out];exact HR2.out.mono HN.out,HBX.out⟩
theorem changeAgainst_any (ts:List Int) (ns:List Nd) (C F hi:Nat) (A:Option Addr) (c:Nat) (ah bk:Nat→Nat) (L m:Nat) (mb lv:Nat→Nat) (v:Nat) (w:World) (h:LndIn ts ns C F hi A c ah bk L m mb lv w) (hv:v<6) :
  Calls Tryz.prog 170 #[.int .i64 v,.pointer (some ⟨L,0,none⟩)] w fun E w'=>E=.returned (.int .u64 (bitsK (isFrom ns v) m:Nat))∧w=w':=by
 have hc:=h.fromCell hv
 obtain ⟨hv0,hv1⟩:(0:Int)≤(v:Int)∧(v:Int)<6:=by omega
 obtain ⟨b,hb⟩:∃ b,bitsK (isFrom ns v) m=b:=⟨_,rfl⟩
 rw [hb] at hc ⊢
 clear hb h
 go_enter Tryz.func170,Tryz.ntmps170
 go_wp2_with fail
 go_ret
 exact ⟨rfl,rfl⟩
theorem lookAgainst_any (ts:List Int) (ns:List Nd) (C F hi:Nat) (A:Option Addr) (c:Nat) (ah bk:Nat→Nat) (L m:Nat) (mb lv:Nat→Nat) (v:Nat) (w:World) (h:LndIn ts ns C F hi A c ah bk L m mb lv w) (hv:v<6) (hle:m≤61) :
  Calls Tryz.prog 168 #[.int .i64 v,.pointer (some ⟨L,0,none⟩)] w fun E w'=>E=.returned (.int .u64 ((bitsK (isFrom ns v) m&&&bitsK (isUniq ns) m:Nat):Int))∧Below w.heap.size w w':=by
 have hc:=h.fromCell hv
 have hu:=h.uniqCell
 obtain ⟨hv0,hv1⟩:(0:Int)≤(v:Int)∧(v:Int)<6:=by omega
 have h1:=bitsK_61 (isFrom ns v) hle
 have h2:=bitsK_61 (isUniq ns) hle
 obtain ⟨b,hb⟩:∃ b,bitsK (isFrom ns v) m=b:=⟨_,rfl⟩
 obtain ⟨q,hq⟩:∃ q,bitsK (isUniq ns) m=q:=⟨_,rfl⟩
 rw [hb] at hc h1 ⊢
 rw [hq] at hu h2 ⊢
 clear hb hq h
 go_enter Tryz.func168,Tryz.ntmps168
 have hand:=bits_and_u64 b q (by omega) (by omega)
 go_wp2_with fail
 go_quiet (fail)
 go_wp2_with fail
 go_ret
 exact ⟨rfl,by first | exact Below.refl _ _ | exact ⟨rfl,rfl,rfl,Nat.le_refl _,fun _ _=>rfl⟩⟩
end Go.Proofs.YtedkkphogeealaaGreatDoor
