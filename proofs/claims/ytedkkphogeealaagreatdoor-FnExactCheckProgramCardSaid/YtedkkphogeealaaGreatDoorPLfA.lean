/- Rows of issues,and the list of the issues of a program. -/
import Derived.Test.YtedkkphogeealaaGreatDoorPMem
import Derived.StillTailTactics
import Derived.Deep.MidRow
import Derived.Test.YtedkkphogeealaaGreatDoorPFwdG
import Derived.Test.YtedkkphogeealaaGreatDoorPL3V
import Derived.Test.YtedkkphogeealaaGreatDoorPLmoG
import Derived.Test.YtedkkphogeealaaGreatDoorPL4SS
import Derived.Test.YtedkkphogeealaaGreatDoorPLmoX
import Derived.Test.YtedkkphogeealaaGreatDoorPL2Xa
import Derived.Deep.RegionHeld3
import Derived.Deep.LoopGhost
import Derived.Test.YtedkkphogeealaaGreatDoorPSpecX
namespace Go.Proofs.YtedkkphogeealaaGreatDoor
open Go.RowKit Go.Deep
set_option linter.unusedVariables false
set_option maxRecDepth 100000
set_option maxHeartbeats 8000000
structure IsD where
 a:Int
 k:Int
 v:Int
def IsD.cells (d:IsD):List Value:=[.int .i64 d.a,.int .i64 d.k,.int .i64 d.v]
theorem IsD.cells_length (d:IsD):d.cells.length=3:=rfl
theorem flatQ_get:∀ (l:List IsD) (j i:Nat) (d:IsD),l[j]?=some d→i<3→(l.flatMap IsD.cells)[j*3+i]?=d.cells[i]?
 | [],j,i,d,h,_=>by simp at h
 | e :: l,0,i,d,h,hi=>by
  simp only [List.getElem?_cons_zero,Option.some.injEq] at h
  subst h
  rw [List.flatMap_cons,Nat.zero_mul,Nat.zero_add,List.getElem?_append_left (by rw [e.cells_length];exact hi)]
 | e :: l,j+1,i,d,h,hi=>by
  rw [List.getElem?_cons_succ] at h
  rw [List.flatMap_cons,List.getElem?_append_right (by rw [e.cells_length];omega),e.cells_length,show (j+1)*3+i-3=j*3+i from by omega]
  exact flatQ_get l j i d h hi
def RowQ (w:World) (B:Nat) (v:Value) (l:List IsD):Prop:=w.ownsRow B 35 3 v l.length (l.flatMap IsD.cells)
theorem RowQ.below {w w':World} {B:Nat} {v:Value} {l:List IsD} (h:RowQ w B v l) (hb:Below w.heap.size w w'):RowQ w' B v l :=
 World.ownsRow.kept (row:=none) h ⟨hb.os,hb.tape,hb.output,hb.size,fun k hk _=>hb.block k hk⟩ (by cases hv:v.ownBlock <;> simp)
theorem RowQ.own {w:World} {B:Nat} {v:Value} {l:List IsD} (h:RowQ w B v l):w.ownsRow B 35 3 v l.length (l.flatMap IsD.cells):=h
theorem RowQ.keep {w w':World} {B:Nat} {v:Value} {l:List IsD} (h:RowQ w B v l) (hk:∀ g,v.ownBlock=some g→w'.heap[g]?=w.heap[g]?):RowQ w' B v l:=by
 refine ⟨h.1,?_⟩
 rcases h.2 with h | ⟨g,cap,cur,h1,h2,h3,h4⟩
 ·exact .inl h
 ·exact .inr ⟨g,cap,cur,h1,h2,(hk g (by rw [h1];rfl)).trans h3,h4⟩
theorem RowQ.mono {w:World} {B B':Nat} {v:Value} {l:List IsD} (h:RowQ w B v l) (hb:B'≤B):RowQ w B' v l:=by
 refine ⟨h.1,?_⟩
 rcases h.2 with h | ⟨g,cap,cur,e1,e2,e3⟩
 ·exact .inl h
 ·exact .inr ⟨g,cap,cur,e1,Nat.le_trans hb e2,e3⟩
theorem RowQ.lt {w:World} {B:Nat} {v:Value} {l:List IsD} (h:RowQ w B v l):∀ g,v.ownBlock=some g→B≤g∧g<w.heap.size:=World.ownsRow.lt h
theorem RowQ.nil (w:World) (B:Nat):RowQ w B (.slice none 0 0) []:=World.ownsRow_nil w B 35 3
theorem RowQ.slice {w:World} {B:Nat} {v:Value} {l:List IsD} (h:RowQ w B v l):∃ A c,v=.slice A l.length c:=by
 rcases h.2 with ⟨e1,e2⟩ | ⟨g,cap,cur,e1,_⟩
 ·exact ⟨none,0,by rw [e1,e2]⟩
 ·exact ⟨_,_,e1⟩
theorem RowQ.snoc {w:World} {B:Nat} {v:Value} {l:List IsD} {d:IsD} (h:w.ownsRow B 35 3 v (l.length+1) (l.flatMap IsD.cells++[.int .i64 d.a,.int .i64 d.k,.int .i64 d.v])):RowQ w B v (l++[d]):=by
 unfold RowQ
 rw [List.length_append,List.flatMap_append]
 simpa [IsD.cells] using h
theorem RowQ.lit (w:World) (B:Nat) (hB:B≤w.heap.size):RowQ (w.alloc (.cells #[] 35)) B (.slice (some ⟨w.heap.size,0,none⟩) 0 0) [] :=
 World.ownsRow_lit (base:=B) (e:=35) (size:=3) w #[] 0 hB (by simp [maxLen]) rfl
theorem Tryz.infoIssue:(Tryz.prog.info? 35).map (fun i=>(i.zero,i.size,i.bytes))=some (some (.agg #[.int .i64 0,.int .i64 0,.int .i64 0]),3,24):=by kernel_rfl
def issP (i:Nat) (f:Nat→Bool) (kd:Nat→Int):Nat→List IsD
 | 0=>[]
 | n+1=>issP i f kd n++(if f n then [⟨i,kd n,n⟩] else [])
theorem issP_yes {i:Nat} {f:Nat→Bool} {kd:Nat→Int} {n:Nat} (h:f n=true):issP i f kd (n+1)=issP i f kd n++[⟨i,kd n,n⟩]:=by simp [issP,h]
theorem issP_no {i:Nat} {f:Nat→Bool} {kd:Nat→Int} {n:Nat} (h:f n=false):issP i f kd (n+1)=issP i f kd n:=by simp [issP,h]
theorem issP_length (i:Nat) (f:Nat→Bool) (kd:Nat→Int):∀ n,(issP i f kd n).length≤n
 | 0=>Nat.le_refl _
 | n+1=>by
  have:=issP_length i f kd n
  unfold issP
  rw [List.length_append]
  split <;> simp <;> omega
theorem issP_congr {i:Nat} {f g:Nat→Bool} {kd:Nat→Int}:∀ {n:Nat},(∀ k,k<n→f k=g k)→issP i f kd n=issP i g kd n
 | 0,_=>rfl
 | n+1,h=>by
  unfold issP
  rw [issP_congr (fun k hk=>h k (by omega)),h n (by omega)]
def issA (U C:Nat→Nat→Bool) (kd:Nat→Int) (T N:Nat):Nat→List IsD
 | 0=>[]
 | n+1=>issA U C kd T N n++(issP n (U n) (fun _=>1) T++issP n (C n) kd N)
theorem issA_length (U C:Nat→Nat→Bool) (kd:Nat→Int) (T N:Nat):∀ n,(issA U C kd T N n).length≤n*(T+N)
 | 0=>by simp [issA]
 | n+1=>by
  have h0:=issA_length U C kd T N n
  have h1:=issP_length n (U n) (fun _=>1) T
  have h2:=issP_length n (C n) kd N
  rw [issA,List.length_append,List.length_append,Nat.succ_mul]
  omega
theorem issA_congr {U C U' C':Nat→Nat→Bool} {kd:Nat→Int} {T N:Nat}:∀ {n:Nat},(∀ i v,i<n→v<T→U i v=U' i v)→(∀ i k,i<n→k<N→C i k=C' i k)→issA U C kd T N n=issA U' C' kd T N n
 | 0,_,_=>rfl
 | n+1,h1,h2=>by
  rw [issA,issA,issA_congr (fun i v hi=>h1 i v (by omega)) (fun i k hi=>h2 i k (by omega)),issP_congr (fun v hv=>h1 n v (by omega) hv),issP_congr (fun k hk=>h2 n k (by omega) hk)]
structure Asd (w w':World):Prop where
 size:w.heap.size≤w'.heap.size
 blk:∀ (j:Nat) (cs:Array Value) (t:TypeId),w.heap[j]?=some (.cells cs t (0,0))→t≠35→w'.heap[j]?=some (.cells cs t (0,0))
theorem Asd.refl (w:World):Asd w w:=⟨Nat.le_refl _,fun _ _ _ h _=>h⟩
theorem Asd.trans {a b c:World} (h:Asd a b) (k:Asd b c):Asd a c:=⟨Nat.le_trans h.size k.size,fun j cs t h0 ht=>k.blk j cs t (h.blk j cs t h0 ht) ht⟩
theorem Asd.below {a b c:World} (h:Asd a b) (hb:Below b.heap.size b c):Asd a c:=⟨Nat.le_trans h.size hb.size,fun j cs t h0 ht=>(hb.block j (heap_lt (h.blk j cs t h0 ht))).trans (h.blk j cs t h0 ht)⟩
theorem Asd.grown {a b c:World} {B:Nat} {v:Value} {l:List IsD} (h:Asd a b) (hr:RowQ b B v l) (hg:b.grownBy c v.ownBlock):Asd a c:=⟨Nat.le_trans h.size hg.size,fun j cs t h0 ht=>(hg.block j (heap_lt (h.blk j cs t h0 ht)) (fun e=>by
 obtain ⟨cur,hc⟩:=ownBlock_row hr j e.symm
 rw [h.blk j cs t h0 ht] at hc
 injection hc with hc
 injection hc with _ hc _
 exact ht hc)).trans (h.blk j cs t h0 ht)⟩
theorem FlW.asd {w w':World} {F n:Nat} {f:Nat→Bool} (h:FlW w F n f) (ha:Asd w w'):FlW w' F n f:=by
 obtain ⟨cs,h1,h2,h3⟩:=h
 exact ⟨cs,ha.blk _ _ _ h1 (by decide),h2,h3⟩
theorem PRow.asd {w w':World} {B:Nat} {v:Value} {ns:List Nd} (h:PRow w B v ns) (ha:Asd w w'):PRow w' B v ns:=by
 obtain ⟨xs,ho,hc⟩:=h
 refine ⟨xs,⟨ho.1,?_⟩,fun k d hd=>?_⟩
 ·rcases ho.2 with h | ⟨g,cap,cur,h1,h2,h3,h4⟩
  ·exact .inl h
  ·exact .inr ⟨g,cap,cur,h1,h2,ha.blk _ _ _ h3 (by decide),h4⟩
 ·obtain ⟨u,h1,h2⟩:=hc k d hd
  refine ⟨u,h1,?_⟩
  rcases h2 with h | ⟨g,h3,h4,h5⟩
  ·exact .inl h
  ·exact .inr ⟨g,h3,h4,ha.blk _ _ _ h5 (by decide)⟩
theorem S4.asd {w w':World} {B T n:Nat} {m:M4} {S:Nat→Nat→Bool} (h:S4 w B T n m S) (ha:Asd w w'):S4 w' B T n m S :=
 ⟨h.fa,fun h0=>by
  obtain ⟨cur,h1,h2⟩:=h.row h0
  exact ⟨cur,ha.blk _ _ _ h1 (by decide),h2⟩,h.cf,fun v hv=>(h.fl v hv).asd ha,h.cp,h.inj,h.own,h.og⟩
theorem F4.asd {w w':World} {B R n T:Nat} {ms:Nat→M4} {o:Nat→Nat→Nat→Bool} (h:F4 w B R n T ms o) (ha:Asd w w'):F4 w' B R n T ms o :=
 ⟨(by
  obtain ⟨cur,h1,h2⟩:=h.row
  exact ⟨cur,ha.blk _ _ _ h1 (by decide),h2⟩),fun i hi=>(h.st i hi).asd ha,h.apart,h.oR⟩
def RdF (w:World) (g n T:Nat) (f:Nat→Nat→Bool):Prop :=
 ∃ cur,w.heap[g]?=some (.cells cur 72 (0,0))∧∀ k,k<n→∃ F c,cur[k]?=some (.slice (some ⟨F,0,none⟩) T c)∧T≤c∧c≤maxLen∧FlW w F T (f k)
theorem RdF.asd {w w':World} {g n T:Nat} {f:Nat→Nat→Bool} (h:RdF w g n T f) (ha:Asd w w'):RdF w' g n T f:=by
 obtain ⟨cur,h0,h⟩:=h
 refine ⟨cur,ha.blk _ _ _ h0 (by decide),fun k hk=>?_⟩
 obtain ⟨F,c,h1,h2,h3,h4⟩:=h k hk
 exact ⟨F,c,h1,h2,h3,h4.asd ha⟩
theorem RdF.below {w w':World} {g n T:Nat} {f:Nat→Nat→Bool} (h:RdF w g n T f) (hb:Below w.heap.size w w'):RdF w' g n T f:=h.asd ((Asd.refl w).below hb)
theorem RdF.cell {w:World} {g n T:Nat} {f:Nat→Nat→Bool} (h:RdF w g n T f) {k:Nat} (hk:k<n):g<w.heap.size∧∃ F c,w.cell? ⟨g,k,none⟩=some (.slice (some ⟨F,0,none⟩) T c)∧T≤c∧c≤maxLen∧FlW w F T (f k):=by
 obtain ⟨cur,h0,h⟩:=h
 obtain ⟨F,c,h1,h2,h3,h4⟩:=h k hk
 exact ⟨heap_lt h0,F,c,(cB h0 k).trans h1,h2,h3,h4⟩
theorem RdF.congr {w:World} {g n T:Nat} {f f':Nat→Nat→Bool} (h:RdF w g n T f) (hf:∀ k v,k<n→v<T→f k v=f' k v):RdF w g n T f':=by
 obtain ⟨cur,h0,h⟩:=h
 refine ⟨cur,h0,fun k hk=>?_⟩
 obtain ⟨F,c,h1,h2,h3,h4⟩:=h k hk
 exact ⟨F,c,h1,h2,h3,h4.congr (fun v hv=>(hf k v hk hv).symm)⟩
theorem FwM.rdF {R S n T:Nat} {w1 wr:World} {seen:Nat→Bool} {o:Nat→Nat→Bool} (h:FwM R S n T w1 wr seen o) (hs:∀ k,k<n→seen k=true):RdF wr R n T o:=by
 obtain ⟨cur,r1,r2,r3⟩:=h.rows
 refine ⟨cur,r1,fun k hk=>?_⟩
 rcases r3 k hk with ⟨h3,_⟩ | ⟨_,F,c,h4,h5,h6,-,h7⟩
 ·rw [hs k hk] at h3;cases h3
 ·exact ⟨F,c,h4,h5,h6,h7⟩
theorem LvM.rdF {g:Nat} {bl:Nat→Nat} {n T:Nat} {w1 wr:World} {o:Nat→Nat→Bool} (h:LvM g bl n T w1 wr o) (hT:T≤maxLen):RdF wr g n T o:=by
 obtain ⟨cur,r1,r2⟩:=h.row
 exact ⟨cur,r1,fun k hk=>⟨bl k,T,r2 k hk,Nat.le_refl _,hT,(h.fl k hk).wide⟩⟩
theorem RowQ.cast {w:World} {B:Nat} {v:Value} {l l':List IsD} (h:RowQ w B v l) (e:l=l'):RowQ w B v l':=e ▸ h
def usF (ts:List Int) (ds:List Nd) (alw:Nat→Nat→Bool) (i v:Nat):Bool:=match ds[i]? with | some d=>decide (useI ts d v≠0) && !alw i v | none=>false
def cfF (ts:List Int) (ds:List Nd) (lv may:Nat→Nat→Bool) (o:Nat→Nat→Nat→Bool) (i k:Nat):Bool:=match ds[i]? with | some d=>cfJ ds (accD ts d (may i d.x.toNat)) (fun j=>lvF ts d (lv i) (o i) ts.length j && o i 6 j) k (accD ts d (may i d.x.toNat)).length | none=>false
def kdF (ds:List Nd) (k:Nat):Int:=match ds[k]? with | some d=>if d.op=5 then 3 else 2 | none=>2
theorem usF_at {ts:List Int} {ds:List Nd} {alw:Nat→Nat→Bool} {i:Nat} {d:Nd} (h:ds[i]?=some d) (v:Nat):usF ts ds alw i v=(decide (useI ts d v≠0) && !alw i v):=by unfold usF;rw [h]
theorem cfF_at {ts:List Int} {ds:List Nd} {lv may:Nat→Nat→Bool} {o:Nat→Nat→Nat→Bool} {i:Nat} {d:Nd} (h:ds[i]?=some d):cfF ts ds lv may o i=fun k=>cfJ ds (accD ts d (may i d.x.toNat)) (fun j=>lvF ts d (lv i) (o i) ts.length j && o i 6 j) k (accD ts d (may i d.x.toNat)).length:=by funext k;unfold cfF;rw [h]
theorem kdF_at {ds:List Nd} {k:Nat} {d:Nd} (h:ds[k]?=some d):kdF ds k=if d.op=5 then 3 else 2:=by unfold kdF;rw [h]
theorem l5Check_any (ts:List Int) (s:Sts) (At As:Option Addr) (ct cs gL cL:Nat) (lv:Nat→Nat→Bool) (w:World) (h1:validB ts s=true) (hT:IntsV w 0 w.heap.size ts At ct) (hR:RepV w 0 w.heap.size s As cs) (hL:RdF w gL (progPts s).length ts.length lv) (hcL:(progPts s).length≤cL) (hcM:cL≤maxLen) :
  Calls Tryz.prog 42 #[.agg #[.slice At ts.length ct,.slice As s.len cs],.slice (some ⟨gL,0,none⟩) (progPts s).length cL] w fun E w'=>∃ v alw may o,E=.returned v∧RowQ w' w.heap.size v (issA (usF ts (progPts s) alw) (cfF ts (progPts s) lv may o) (kdF (progPts s)) ts.length (progPts s).length (progPts s).length)∧(∀ k v,k<(progPts s).length→v<ts.length→(alw k v=true↔¬ MissB ts (progPts s) k v))∧(∀ k v,k<(progPts s).length→(may k v=true↔MayB ts (progPts s) k v))∧(∀ m v l,m<(progPts s).length→(o m v l=true↔LoanB ts (progPts s) m v l))∧Below w.heap.size w w':=by
 have hz0:(w.alloc (.cells #[.slice At ts.length ct,.slice As s.len cs] 30)).heap.size=w.heap.size+1:=by simp
 have hb0:=(Below.refl w.heap.size w).alloc (Nat.le_refl _) (.cells #[.slice At ts.length ct,.slice As s.len cs] 30)
 have hB0:=heap_alloc_new w (.cells #[.slice At ts.length ct,.slice As s.len cs] 30)
 have h30:=valid_size h1
 have hAT:=progPts_allTyped h1
 have ht6:=hAT.1
 have hle:(progPts s).length≤61:=by
  have:=s.npts_le
  rw [progPts_len]
  omega
 have hn0:0<(progPts s).length:=by
  rw [progPts_len]
  omega
 have hlp:∀ W:World,Below w.heap.size w W→Calls Tryz.prog 46 #[.agg #[.slice At ts.length ct,.slice As s.len cs]] W (fun E w'=>∃ v,E=.returned v∧PRow w' W.heap.size v (progPts s)∧Below W.heap.size W w'):=fun W hW=>l2Points_any ts s At As ct cs W (by omega) (hR.below hW hW.size)
 have hla:∀ W:World,Below w.heap.size w W→Calls Tryz.prog 47 #[.agg #[.slice At ts.length ct,.slice As s.len cs],.bool true] W (FwPost ts (progPts s) true (fun _=>True) (fun k v=>usesN ts (progPts s) k v 2∧¬ setsN (progPts s) k v) (fun k v=>setsN (progPts s) k v) W):=fun W hW=>l3Forward_any ts s At As ct cs true _ _ _ W h1 (hT.below hW hW.size) (hR.below hW hW.size) (fun k d r v hd=>behindR_miss hd r v) (fun v=>by simp [db])
 have hlm:∀ W:World,Below w.heap.size w W→Calls Tryz.prog 47 #[.agg #[.slice At ts.length ct,.slice As s.len cs],.bool false] W (FwPost ts (progPts s) false (fun _=>False) (fun k v=>setsN (progPts s) k v) (fun k v=>usesN ts (progPts s) k v 2) W):=fun W hW=>l3Forward_any ts s At As ct cs false _ _ _ W h1 (hT.below hW hW.size) (hR.below hW hW.size) (fun k d r v hd=>behindR_may hd r v) (fun v=>by simp [db])
 have hlf:∀ W:World,Below w.heap.size w W→Calls Tryz.prog 51 #[.agg #[.slice At ts.length ct,.slice As s.len cs]] W (L4Post ts (progPts s) W):=fun W hW=>l4Flow_any ts s At As ct cs W h1 (hT.below hW hW.size) (hR.below hW hW.size)
 obtain ⟨i0,hi,hzz0,hzz1,hzz2⟩:=info_parts Tryz.infoIssue
 have HI:=Lib.hid hi
 have HZ0:=Lib.hid hzz0
 have HZ1:=Lib.hid hzz1
 have HZ2:=Lib.hid hzz2
 clear hi hzz0 hzz1 hzz2 hR h30
 generalize progPts s=ds at *
 have HT:=Lib.hid hT
 have HAT:=Lib.hid hAT
 have HLV:=Lib.hid hL
 have HLP:=Lib.hid hlp
 have HLA:=Lib.hid hla
 have HLM:=Lib.hid hlm
 have HLF:=Lib.hid hlf
 unfold maxLen at hcM
 clear hT hAT hL hlp hla hlm hlf h1
 go_enter Tryz.func42,Tryz.ntmps42
 go_upto_region 1 with fail
 generalize w.alloc (.cells #[.slice At ts.length ct,.slice As s.len cs] 30)=w1 at *
 clear hz0
 go_upto_region 2 with fail
 have hrl:=RowQ.lit w1 w.heap.size hb0.size
 have hb2:=(Below.refl w1.heap.size w1).alloc (Nat.le_refl _) (.cells #[] 35)
 have hbx:=(hb2.block w.heap.size (heap_lt hB0)).trans hB0
 have HR1:=Lib.hid hrl
 have HBX1:=Lib.hid hbx
 have HB1:=Lib.hid (hb0.trans (hb2.mono hb0.size))
 generalize w1.alloc (.cells #[] 35)=w2 at *
 obtain ⟨OB,hOB⟩:∃ OB,OB=w1.heap.size:=⟨_,rfl⟩
 simp only [← hOB]
 rw [← hOB] at HR1
 have p0:w2.cell? ⟨w.heap.size,0,none⟩=some (.slice At ts.length ct):=(cB HBX1.out 0).trans rfl
 have p1:w2.cell? ⟨w.heap.size,1,none⟩=some (.slice As s.len cs):=(cB HBX1.out 1).trans rfl
 have hc:=HLP.out w2 HB1.out
 clear hrl hb2 hbx hOB hb0 hB0
 go_wp2_with fail
 refine hc.mono ?_
 rintro E w3 ⟨v,rfl,hP,hb3⟩
 obtain ⟨g,cv,hgv,-,hgl,hgc,hgm⟩:=hP.form hn0
 subst hgv
 unfold maxLen at hgm
 have HP3:=Lib.hid hP
 have HGL3:=Lib.hid hgl
 have HB3:=Lib.hid (HB1.out.trans (hb3.mono HB1.out.size))
 have HR3:=Lib.hid (HR1.out.below hb3)
 have HBX3:=Lib.hid ((hb3.block w.heap.size (heap_lt HBX1.out)).trans HBX1.out)
 have hc:=HLA.out w3 HB3.out
 clear p0 p1 hP hb3 hgl HR1 HBX1 HB1
 have p0:w3.cell? ⟨w.heap.size,0,none⟩=some (.slice At ts.length ct):=(cB HBX3.out 0).trans rfl
 have p1:w3.cell? ⟨w.heap.size,1,none⟩=some (.slice As s.len cs):=(cB HBX3.out 1).trans rfl
 go_wp2_with fail
 refine hc.mono ?_
 rintro E w4 ⟨Ra,Sa,seena,alw,rfl,hMa,hSa,hia⟩
 have hb4:=hMa.below
 have HAL4:=Lib.hid (hMa.rdF hSa)
 have HIA:Hid (∀ k v,k<ds.length→v<ts.length→(alw k v=true↔¬ MissB ts ds k v)):=Lib.hid (fun k v hk hv=>by
  have h8:=hia k v hk hv
  unfold db at h8
  rw [show MissB ts ds k v↔alw k v=false from h8.symm.trans (by simp)]
  cases alw k v <;> simp)
 have HB4:=Lib.hid (HB3.out.trans (hb4.mono HB3.out.size))
 have HR4:=Lib.hid (HR3.out.below hb4)
 have HP4:=Lib.hid (HP3.out.below hb4)
 have HBX4:=Lib.hid ((hb4.block w.heap.size (heap_lt HBX3.out)).trans HBX3.out)
 have hc:=HLM.out w4 HB4.out
 have HGL4:Hid (g<w4.heap.size):=Lib.hid (Nat.lt_of_lt_of_le HGL3.out hb4.size)
 clear p0 p1 hMa hSa hia hb4 HR3 HBX3 HB3 HP3 HGL3
 have p0:w4.cell? ⟨w.heap.size,0,none⟩=some (.slice At ts.length ct):=(cB HBX4.out 0).trans rfl
 have p1:w4.cell? ⟨w.heap.size,1,none⟩=some (.slice As s.len cs):=(cB HBX4.out 1).trans rfl
 go_wp2_with fail
 refine hc.mono ?_
 rintro E w5 ⟨Rm,Sm,seenm,mo,rfl,hMm,hSm,him⟩
 have hb5:=hMm.below
 obtain ⟨may,hmay⟩:∃ may:Nat→Nat→Bool,may=fun k v=>decide (v<ts.length) && mo k v:=⟨_,rfl⟩
 have HMY5:Hid (RdF w5 Rm ds.length ts.length may):=Lib.hid ((hMm.rdF hSm).congr (fun k v hk hv=>by rw [hmay];simp [hv]))
 have HIM:Hid (∀ k v,k<ds.length→(may k v=true↔MayB ts ds k v)):=Lib.hid (fun k v hk=>by
  rw [hmay]
  simp only [Bool.and_eq_true,decide_eq_true_eq]
  constructor
  ·rintro ⟨h8,h9⟩
   exact (him k v hk h8).mp (by unfold db;rw [h9];rfl)
  ·intro h9
   have h8:=MayB.lt HAT.out h9
   have h7:=(him k v hk h8).mpr h9
   unfold db at h7
   exact ⟨h8,by simpa using h7⟩)
 have HB5:=Lib.hid (HB4.out.trans (hb5.mono HB4.out.size))
 have HR5:=Lib.hid (HR4.out.below hb5)
 have HP5:=Lib.hid (HP4.out.below hb5)
 have HAL5:=Lib.hid (HAL4.out.below hb5)
 have HBX5:=Lib.hid ((hb5.block w.heap.size (heap_lt HBX4.out)).trans HBX4.out)
 have HGL5:Hid (g<w5.heap.size):=Lib.hid (Nat.lt_of_lt_of_le HGL4.out hb5.size)
 have hc:=HLF.out w5 HB5.out
 clear p0 p1 hMm hSm him hb5 HR4 HBX4 HB4 HP4 HAL4 HGL4 hmay
 have p0:w5.cell? ⟨w.heap.size,0,none⟩=some (.slice At ts.length ct):=(cB HBX5.out 0).trans rfl
 have p1:w5.cell? ⟨w.heap.size,1,none⟩=some (.slice As s.len cs):=(cB HBX5.out 1).trans rfl
 go_wp2_with fail
 refine hc.mono ?_
 rintro E wz ⟨R,cR,ms,o,rfl,hrc1,hrc2,hF,hio,hb6⟩
 unfold maxLen at hrc2
 have HIO:=Lib.hid hio
 have HFL:Hid (F4 wz w5.heap.size R ds.length ts.length ms o):=Lib.hid hF
 have HB6:=Lib.hid (HB5.out.trans (hb6.mono HB5.out.size))
 have HR6:=Lib.hid (HR5.out.below hb6)
 have HPR:=Lib.hid (HP5.out.below hb6)
 have HAL:=Lib.hid (HAL5.out.below hb6)
 have HMY:=Lib.hid (HMY5.out.below hb6)
 have HBX:=Lib.hid ((hb6.block w.heap.size (heap_lt HBX5.out)).trans HBX5.out)
 have HGL:Hid (g<wz.heap.size):=Lib.hid (Nat.lt_of_lt_of_le HGL5.out hb6.size)
 replace HLV:=Lib.hid (HLV.out.below HB6.out)
 clear p0 p1 hF hio hb6 HR5 HBX5 HB5 HP5 HAL5 HMY5 hc HLP HLA HLM HLF HGL5
 go_wp2_with fail
 go_loopg [5,10] ds.length (fun gg ov i wr=>∃ k:Nat,i=.int .i64 k∧k≤ds.length∧gg=ds.length-k∧Hid (RowQ wr w.heap.size ov (issA (usF ts ds alw) (cfF ts ds lv may o) (kdF ds) ts.length ds.length k))∧Hid (Asd wz wr)∧Hid (Below w.heap.size w wr))
 case atStart=>exact ⟨0,rfl,Nat.zero_le _,rfl,HR6,Lib.hid (Asd.refl wz),HB6⟩
 case round =>
  clear HR6 HB6
  obtain ⟨k,rfl,hk,hgk,HR,HA,HB⟩:=hrel
  have HGK:=Lib.hid hgk
  clear hgk
  by_cases hlt:k<ds.length
  ·obtain ⟨d,hd⟩:∃ d,ds[k]?=some d:=⟨ds[k],List.getElem?_eq_getElem hlt⟩
   have HDK:=Lib.hid hd
   obtain ⟨hk0,hk1⟩:(0:Int)≤(k:Int)∧(k:Int)<(ds.length:Int):=by omega
   have HLI:Hid ((issA (usF ts ds alw) (cfF ts ds lv may o) (kdF ds) ts.length ds.length k).length≤4087):=Lib.hid (Nat.le_trans (issA_length _ _ _ _ _ _) (Nat.mul_le_mul (show k≤61 by omega) (show ts.length+ds.length≤67 by omega)))
   clear hd
   obtain ⟨LK,hLK⟩:∃ LK,LK=issA (usF ts ds alw) (cfF ts ds lv may o) (kdF ds) ts.length ds.length k:=⟨_,rfl⟩
   rw [← hLK] at HR HLI
   have HLK:=Lib.hid hLK
   clear hLK
   go_wp2_with fail
   go_loopg [5,11] ts.length (fun gg ov j wr=>∃ q:Nat,j=.int .i64 q∧q≤ts.length∧gg=ts.length-q∧Hid (RowQ wr w.heap.size ov (LK++issP k (usF ts ds alw k) (fun _=>1) q))∧Hid (Asd wz wr)∧Hid (Below w.heap.size w wr))
   case atStart=>exact ⟨0,rfl,Nat.zero_le _,rfl,Lib.hid (by rw [issP,List.append_nil];exact HR.out),HA,HB⟩
   case round =>
    clear HR HA HB
    obtain ⟨q,rfl,hq,hgq,HR,HA,HB⟩:=hrel
    have HGQ:=Lib.hid hgq
    clear hgq
    have F0:Hid (wr.cell? ⟨w.heap.size,0,none⟩=some (.slice At ts.length ct)):=Lib.hid ((cB (HA.out.blk _ _ _ HBX.out (by decide)) 0).trans rfl)
    have FB:Hid (w.heap.size<wr.heap.size):=Lib.hid (heap_lt (HA.out.blk _ _ _ HBX.out (by decide)))
    have FPR:=HPR.out.asd HA.out
    obtain ⟨ud,hq,hud⟩:=FPR.cells HDK.out
    obtain ⟨An,cn,hsn⟩:=hud.asSlice
    subst hsn
    have FQ:=Lib.hid hq
    have FG:Hid (g<wr.heap.size):=Lib.hid (Nat.lt_of_lt_of_le HGL.out HA.out.size)
    clear hq hud FPR
    by_cases hlq:q<ts.length
    ·obtain ⟨hq0,hq1⟩:(0:Int)≤(q:Int)∧(q:Int)<(ts.length:Int):=by omega
     have p0:=F0.out
     go_upto_region 12 with fail
     clear p0
     obtain ⟨hra,Fa,ca,hfa1,hfa2,hfa3,hfa4⟩:=(HAL.out.asd HA.out).cell hlt
     obtain ⟨U,hU⟩:∃ U,useI ts d (q:Int)=U:=⟨_,rfl⟩
     have HUS:Hid (∀ W:World,Below wr.heap.size wr W→Calls Tryz.prog 73 #[.slice At ts.length ct,.agg #[.int .i64 d.op,.int .i64 d.x,.int .i64 d.y,.int .i64 d.n,.slice An d.next.length cn],.int .i64 (q:Int)] W fun E w'=>E=.returned (.int .i64 U)∧Below W.heap.size W w'):=Lib.hid (fun W hW=>by
      have h9:=l3Use_any ts At ct d.op d.x d.y d.n d.next (.slice An d.next.length cn) q W hlq (HT.out.below (HB.out.trans (hW.mono HB.out.size)) (Nat.le_trans HB.out.size hW.size))
      rw [show useI ts ⟨d.op,d.x,d.y,d.n,d.next⟩ (q:Int)=U from hU] at h9
      exact h9)
     have FRA:=Lib.hid hra
     have FFA:=Lib.hid hfa1
     have FFL:=Lib.hid hfa4.lt
     have FFC:=Lib.hid (hfa4.cell hlq)
     unfold maxLen at hfa3
     have HUQ:=Lib.hid hU
     clear hra hfa1 hfa4 hU
     by_cases hU0:U=0
     ·subst hU0
      have HNO:Hid (usF ts ds alw k q=false):=Lib.hid (by rw [usF_at HDK.out,HUQ.out];rfl)
      refine wp_region_held_drew (S:=(fun w9=>Below wr.heap.size wr w9)) (by kernel_rfl) (Below.refl _ _).drew (fun hHeld=>?_)
      generalize hwd:wr.drew=wd at *
      clear hwd
      refine tk (i:=0) (v:=.pointer (some ⟨w.heap.size,0,none⟩)) rfl (Or.inl ⟨by rfl,fun w9 hSw=>by go_simp⟩) hHeld ?_
      try simp only [Act.put,sA,sB,sC]
      refine tk (i:=1) (v:=.slice At ts.length ct) rfl (Or.inl ⟨by rfl,fun w9 hSw=>by have h9:=(hSw.cell (p:=⟨w.heap.size,0,none⟩) FB.out).trans F0.out;go_simp⟩) hHeld ?_
      try simp only [Act.put,sA,sB,sC]
      refine tk (i:=2) (v:=.slice (some ⟨g,0,none⟩) ds.length cv) rfl (Or.inl ⟨by rfl,fun w9 hSw=>by go_simp⟩) hHeld ?_
      try simp only [Act.put,sA,sB,sC]
      refine tk (i:=3) (v:=.int .i64 (k:Int)) rfl (Or.inl ⟨by rfl,fun w9 hSw=>by go_simp⟩) hHeld ?_
      try simp only [Act.put,sA,sB,sC]
      refine tk (i:=4) (v:=.pointer (some ⟨g,k*5,none⟩)) rfl (Or.inl ⟨by rfl,fun w9 hSw=>by go_simp⟩) hHeld ?_
      try simp only [Act.put,sA,sB,sC]
      refine tk (i:=5) (v:=.agg #[.int .i64 d.op,.int .i64 d.x,.int .i64 d.y,.int .i64 d.n,.slice An d.next.length cn]) rfl (Or.inl ⟨by rfl,fun w9 hSw=>by have h9:=(hSw.cell (p:=⟨g,k*5,none⟩) FG.out).trans FQ.out.1;have h8:=(hSw.cell (p:=⟨g,k*5+1,none⟩) FG.out).trans FQ.out.2.1;have h7:=(hSw.cell (p:=⟨g,k*5+2,none⟩) FG.out).trans FQ.out.2.2.1;have h6:=(hSw.cell (p:=⟨g,k*5+3,none⟩) FG.out).trans FQ.out.2.2.2.1;have h5:=(hSw.cell (p:=⟨g,k*5+4,none⟩) FG.out).trans FQ.out.2.2.2.2;go_simp⟩) hHeld ?_
      try simp only [Act.put,sA,sB,sC]
      refine tk (i:=6) (v:=.int .i64 (q:Int)) rfl (Or.inl ⟨by rfl,fun w9 hSw=>by go_simp⟩) hHeld ?_
      try simp only [Act.put,sA,sB,sC]
      refine wpAnyH_ready (rs:=[7]) (by kernel_rfl) (by simp) ?_
      refine AllReadyH.cons (o:=⟨_,_,_,_,_,_⟩) rfl (fun K hK=>?_) AllReadyH.nil
      have hc9:=HUS.out wd hHeld
      go_simp
      refine hc9.mono ?_
      rintro E wu ⟨rfl,hbn⟩
      refine hK.out _ _ (hHeld.trans (hbn.mono hHeld.size)) (fun hHeld=>?_)
      clear hK K hc9 hbn
      refine tk (i:=8) (v:=.bool false) rfl (Or.inl ⟨by rfl,fun w9 hSw=>by go_simp⟩) hHeld ?_
      try simp only [Act.put,sA,sB,sC]
      refine tk (i:=9) (v:=.bool false) rfl (Or.inl ⟨by rfl,fun w9 hSw=>by go_simp⟩) hHeld ?_
      try simp only [Act.put,sA,sB,sC]
      refine tk (i:=10) (v:=undef) rfl (Or.inr ⟨by rfl,rfl⟩) hHeld ?_
      try simp only [Act.put,sA,sB,sC]
      refine tk (i:=11) (v:=undef) rfl (Or.inr ⟨by rfl,rfl⟩) hHeld ?_
      try simp only [Act.put,sA,sB,sC]
      refine tk (i:=12) (v:=undef) rfl (Or.inr ⟨by rfl,rfl⟩) hHeld ?_
      try simp only [Act.put,sA,sB,sC]
      refine tk (i:=13) (v:=undef) rfl (Or.inr ⟨by rfl,rfl⟩) hHeld ?_
      try simp only [Act.put,sA,sB,sC]
      refine tk (i:=14) (v:=undef) rfl (Or.inr ⟨by rfl,rfl⟩) hHeld ?_
      try simp only [Act.put,sA,sB,sC]
      refine tk (i:=15) (v:=undef) rfl (Or.inr ⟨by rfl,rfl⟩) hHeld ?_
      try simp only [Act.put,sA,sB,sC]
      refine tk (i:=16) (v:=undef) rfl (Or.inr ⟨by rfl,rfl⟩) hHeld ?_
      try simp only [Act.put,sA,sB,sC]
      refine tk (i:=17) (v:=undef) rfl (Or.inr ⟨by rfl,rfl⟩) hHeld ?_
      try simp only [Act.put,sA,sB,sC]
      refine tk (i:=18) (v:=.bool false) rfl (Or.inl ⟨by rfl,fun w9 hSw=>by go_simp⟩) hHeld ?_
      try simp only [Act.put,sA,sB,sC]
      refine wpAnyH_done (by kernel_rfl) ?_ _
      have HRN:=Lib.hid ((HR.out.below hHeld).cast (show _=LK++issP k (usF ts ds alw k) (fun _=>1) (q+1) by rw [issP_no HNO.out]))
      have HAN:=Lib.hid (HA.out.below hHeld)
      have HBN:=Lib.hid (HB.out.trans (hHeld.mono HB.out.size))
      clear HR HA HB hHeld
      go_wp2_with fail
      go_roundg (ts.length-(q+1))
      case measure=>rw [HGQ.out];omega
      case rel=>exact ⟨q+1,by go_num,by omega,rfl,HRN,HAN,HBN⟩
     ·have hU1:decide (U=0)=false:=decide_eq_false hU0
      have hU2:(U==0)=false:=by simpa using hU0
      have hU3:(U != 0)=true:=by simpa using hU0
      have hU4:decide (¬ U=0)=true:=decide_eq_true hU0
      obtain ⟨ab,hab⟩:∃ ab,alw k q=ab:=⟨_,rfl⟩
      rw [hab] at FFC
      have HAB:=Lib.hid hab
      clear hab
      cases ab
      ·have HYE:Hid (usF ts ds alw k q=true):=Lib.hid (by rw [usF_at HDK.out,HUQ.out,HAB.out,decide_eq_true hU0];rfl)
       refine wp_region_held_drew (S:=(fun w9=>Below wr.heap.size wr w9)) (by kernel_rfl) (Below.refl _ _).drew (fun hHeld=>?_)
       generalize hwd:wr.drew=wd at *
       clear hwd
       refine tk (i:=0) (v:=.pointer (some ⟨w.heap.size,0,none⟩)) rfl (Or.inl ⟨by rfl,fun w9 hSw=>by go_simp⟩) hHeld ?_
       try simp only [Act.put,sA,sB,sC]
       refine tk (i:=1) (v:=.slice At ts.length ct) rfl (Or.inl ⟨by rfl,fun w9 hSw=>by have h9:=(hSw.cell (p:=⟨w.heap.size,0,none⟩) FB.out).trans F0.out;go_simp⟩) hHeld ?_
       try simp only [Act.put,sA,sB,sC]
       refine tk (i:=2) (v:=.slice (some ⟨g,0,none⟩) ds.length cv) rfl (Or.inl ⟨by rfl,fun w9 hSw=>by go_simp⟩) hHeld ?_
       try simp only [Act.put,sA,sB,sC]
       refine tk (i:=3) (v:=.int .i64 (k:Int)) rfl (Or.inl ⟨by rfl,fun w9 hSw=>by go_simp⟩) hHeld ?_
       try simp only [Act.put,sA,sB,sC]
       refine tk (i:=4) (v:=.pointer (some ⟨g,k*5,none⟩)) rfl (Or.inl ⟨by rfl,fun w9 hSw=>by go_simp⟩) hHeld ?_
       try simp only [Act.put,sA,sB,sC]
       refine tk (i:=5) (v:=.agg #[.int .i64 d.op,.int .i64 d.x,.int .i64 d.y,.int .i64 d.n,.slice An d.next.length cn]) rfl (Or.inl ⟨by rfl,fun w9 hSw=>by have h9:=(hSw.cell (p:=⟨g,k*5,none⟩) FG.out).trans FQ.out.1;have h8:=(hSw.cell (p:=⟨g,k*5+1,none⟩) FG.out).trans FQ.out.2.1;have h7:=(hSw.cell (p:=⟨g,k*5+2,none⟩) FG.out).trans FQ.out.2.2.1;have h6:=(hSw.cell (p:=⟨g,k*5+3,none⟩) FG.out).trans FQ.out.2.2.2.1;have h5:=(hSw.cell (p:=⟨g,k*5+4,none⟩) FG.out).trans FQ.out.2.2.2.2;go_simp⟩) hHeld ?_
       try simp only [Act.put,sA,sB,sC]
       refine tk (i:=6) (v:=.int .i64 (q:Int)) rfl (Or.inl ⟨by rfl,fun w9 hSw=>by go_simp⟩) hHeld ?_
       try simp only [Act.put,sA,sB,sC]
       refine wpAnyH_ready (rs:=[7]) (by kernel_rfl) (by simp) ?_
       refine AllReadyH.cons (o:=⟨_,_,_,_,_,_⟩) rfl (fun K hK=>?_) AllReadyH.nil
       have hc9:=HUS.out wd hHeld
       go_simp
       refine hc9.mono ?_
       rintro E wu ⟨rfl,hbn⟩
       refine hK.out _ _ (hHeld.trans (hbn.mono hHeld.size)) (fun hHeld=>?_)
       clear hK K hc9 hbn
       refine tk (i:=8) (v:=.bool true) rfl (Or.inl ⟨by rfl,fun w9 hSw=>by go_simp⟩) hHeld ?_
       try simp only [Act.put,sA,sB,sC]
       refine tk (i:=9) (v:=.bool true) rfl (Or.inl ⟨by rfl,fun w9 hSw=>by go_simp⟩) hHeld ?_
       try simp only [Act.put,sA,sB,sC]
       refine tk (i:=10) (v:=.slice (some ⟨Ra,0,none⟩) ds.length ds.length) rfl (Or.inl ⟨by rfl,fun w9 hSw=>by go_simp⟩) hHeld ?_
       try simp only [Act.put,sA,sB,sC]
       refine tk (i:=11) (v:=.int .i64 (k:Int)) rfl (Or.inl ⟨by rfl,fun w9 hSw=>by go_simp⟩) hHeld ?_
       try simp only [Act.put,sA,sB,sC]
       refine tk (i:=12) (v:=.pointer (some ⟨Ra,k,none⟩)) rfl (Or.inl ⟨by rfl,fun w9 hSw=>by go_simp⟩) hHeld ?_
       try simp only [Act.put,sA,sB,sC]
       refine tk (i:=13) (v:=.slice (some ⟨Fa,0,none⟩) ts.length ca) rfl (Or.inl ⟨by rfl,fun w9 hSw=>by have h9:=(hSw.cell (p:=⟨Ra,k,none⟩) FRA.out).trans FFA.out;go_simp⟩) hHeld ?_
       try simp only [Act.put,sA,sB,sC]
       refine tk (i:=14) (v:=.int .i64 (q:Int)) rfl (Or.inl ⟨by rfl,fun w9 hSw=>by go_simp⟩) hHeld ?_
       try simp only [Act.put,sA,sB,sC]
       refine tk (i:=15) (v:=.pointer (some ⟨Fa,q,none⟩)) rfl (Or.inl ⟨by rfl,fun w9 hSw=>by go_simp⟩) hHeld ?_
       try simp only [Act.put,sA,sB,sC]
       refine tk (i:=16) (v:=.bool false) rfl (Or.inl ⟨by rfl,fun w9 hSw=>by have h9:=(hSw.cell (p:=⟨Fa,q,none⟩) FFL.out).trans FFC.out;go_simp⟩) hHeld ?_
       try simp only [Act.put,sA,sB,sC]
       refine tk (i:=17) (v:=.bool true) rfl (Or.inl ⟨by rfl,fun w9 hSw=>by go_simp⟩) hHeld ?_
       try simp only [Act.put,sA,sB,sC]
       refine tk (i:=18) (v:=.bool true) rfl (Or.inl ⟨by rfl,fun w9 hSw=>by go_simp⟩) hHeld ?_
       try simp only [Act.put,sA,sB,sC]
       refine wpAnyH_done (by kernel_rfl) ?_ _
       obtain ⟨LL,hLL⟩:∃ LL,LL=LK++issP k (usF ts ds alw k) (fun _=>1) q:=⟨_,rfl⟩
       have HR9:=Lib.hid ((HR.out.below hHeld).cast hLL.symm)
       have HA9:=Lib.hid (HA.out.below hHeld)
       have HB9:=Lib.hid (HB.out.trans (hHeld.mono HB.out.size))
       have HLL:Hid (LL.length≤4200):=Lib.hid (by
        have h8:=issP_length k (usF ts ds alw k) (fun _=>1) q
        have h9:=HLI.out
        rw [hLL,List.length_append]
        omega)
       have HLE:=Lib.hid hLL
       clear HR HA HB hHeld hLL
       go_wp2_with (at_builtin;refine wpList_append_lies _ rfl _ _ 39 rfl w.heap.size 35 i0 (.agg #[.int .i64 0,.int .i64 0,.int .i64 0]) 3 24 Tryz.underlying39 HI.out HZ0.out HZ1.out HZ2.out rfl (by decide) _ _ _ rfl ((RowQ.own HR9.out).alloc _) ⟨_,0,none⟩ 1 1 [.int .i64 (k:Int),.int .i64 1,.int .i64 (q:Int)] rfl rfl ?xu1 ?xu2 (by decide) ?xu3 ?xu4 ?xu5 _ rfl ?_)
       try (case xu1=>exact news_cell (by simp) rfl)
       try (case xu2=>(intro u9 hu9;simp only [List.mem_cons,List.not_mem_nil,or_false] at hu9;rcases hu9 with rfl | rfl | rfl <;> rfl))
       try (case xu3=>(have:=HLL.out;unfold maxLen;omega))
       try (case xu4=>(have:=HLL.out;omega))
       try (case xu5=>(have:=HB9.out.size;first | omega | (simp;omega) | simp))
       intro g9 cap9 w9 hown9 hgg9 hat9 hlt9
       have hba:=(Below.refl wu.heap.size wu).alloc (Nat.le_refl _) (.cells #[.int .i64 (k:Int),.int .i64 1,.int .i64 (q:Int)] 35)
       have HST9:Hid (Asd wu w9):=Lib.hid (((Asd.refl wu).below hba).grown (HR9.out.below hba) hgg9)
       have HRN:=Lib.hid (RowQ.snoc (d:=⟨(k:Int),1,(q:Int)⟩) hown9)
       have HAN:=Lib.hid (HA9.out.trans HST9.out)
       have HBN:=Lib.hid ((HB9.out.trans (hba.mono HB9.out.size)).grown hgg9 (Nat.le_trans HB9.out.size hba.size) (fun j hj=>(RowQ.lt HR9.out j hj).1))
       clear hown9 hgg9 hat9 hlt9 hba
       replace HRN:=Lib.hid (HRN.out.cast (show _=LK++issP k (usF ts ds alw k) (fun _=>1) (q+1) by rw [issP_yes HYE.out,← List.append_assoc,HLE.out]))
       clear HR9 HA9 HB9
       go_wp2_with fail
       go_roundg (ts.length-(q+1))
       case measure=>rw [HGQ.out];omega
       case rel=>exact ⟨q+1,by go_num,by omega,rfl,HRN,HAN,HBN⟩
      ·have HNO:Hid (usF ts ds alw k q=false):=Lib.hid (by rw [usF_at HDK.out,HAB.out,Bool.not_true,Bool.and_false])
       refine wp_region_held_drew (S:=(fun w9=>Below wr.heap.size wr w9)) (by kernel_rfl) (Below.refl _ _).drew (fun hHeld=>?_)
       generalize hwd:wr.drew=wd at *
       clear hwd
       refine tk (i:=0) (v:=.pointer (some ⟨w.heap.size,0,none⟩)) rfl (Or.inl ⟨by rfl,fun w9 hSw=>by go_simp⟩) hHeld ?_
       try simp only [Act.put,sA,sB,sC]
       refine tk (i:=1) (v:=.slice At ts.length ct) rfl (Or.inl ⟨by rfl,fun w9 hSw=>by have h9:=(hSw.cell (p:=⟨w.heap.size,0,none⟩) FB.out).trans F0.out;go_simp⟩) hHeld ?_
       try simp only [Act.put,sA,sB,sC]
       refine tk (i:=2) (v:=.slice (some ⟨g,0,none⟩) ds.length cv) rfl (Or.inl ⟨by rfl,fun w9 hSw=>by go_simp⟩) hHeld ?_
       try simp only [Act.put,sA,sB,sC]
       refine tk (i:=3) (v:=.int .i64 (k:Int)) rfl (Or.inl ⟨by rfl,fun w9 hSw=>by go_simp⟩) hHeld ?_
       try simp only [Act.put,sA,sB,sC]
       refine tk (i:=4) (v:=.pointer (some ⟨g,k*5,none⟩)) rfl (Or.inl ⟨by rfl,fun w9 hSw=>by go_simp⟩) hHeld ?_
       try simp only [Act.put,sA,sB,sC]
       refine tk (i:=5) (v:=.agg #[.int .i64 d.op,.int .i64 d.x,.int .i64 d.y,.int .i64 d.n,.slice An d.next.length cn]) rfl (Or.inl ⟨by rfl,fun w9 hSw=>by have h9:=(hSw.cell (p:=⟨g,k*5,none⟩) FG.out).trans FQ.out.1;have h8:=(hSw.cell (p:=⟨g,k*5+1,none⟩) FG.out).trans FQ.out.2.1;have h7:=(hSw.cell (p:=⟨g,k*5+2,none⟩) FG.out).trans FQ.out.2.2.1;have h6:=(hSw.cell (p:=⟨g,k*5+3,none⟩) FG.out).trans FQ.out.2.2.2.1;have h5:=(hSw.cell (p:=⟨g,k*5+4,none⟩) FG.out).trans FQ.out.2.2.2.2;go_simp⟩) hHeld ?_
       try simp only [Act.put,sA,sB,sC]
       refine tk (i:=6) (v:=.int .i64 (q:Int)) rfl (Or.inl ⟨by rfl,fun w9 hSw=>by go_simp⟩) hHeld ?_
       try simp only [Act.put,sA,sB,sC]
       refine wpAnyH_ready (rs:=[7]) (by kernel_rfl) (by simp) ?_
       refine AllReadyH.cons (o:=⟨_,_,_,_,_,_⟩) rfl (fun K hK=>?_) AllReadyH.nil
       have hc9:=HUS.out wd hHeld
       go_simp
       refine hc9.mono ?_
       rintro E wu ⟨rfl,hbn⟩
       refine hK.out _ _ (hHeld.trans (hbn.mono hHeld.size)) (fun hHeld=>?_)
       clear hK K hc9 hbn
       refine tk (i:=8) (v:=.bool true) rfl (Or.inl ⟨by rfl,fun w9 hSw=>by go_simp⟩) hHeld ?_
       try simp only [Act.put,sA,sB,sC]
       refine tk (i:=9) (v:=.bool true) rfl (Or.inl ⟨by rfl,fun w9 hSw=>by go_simp⟩) hHeld ?_
       try simp only [Act.put,sA,sB,sC]
       refine tk (i:=10) (v:=.slice (some ⟨Ra,0,none⟩) ds.length ds.length) rfl (Or.inl ⟨by rfl,fun w9 hSw=>by go_simp⟩) hHeld ?_
       try simp only [Act.put,sA,sB,sC]
       refine tk (i:=11) (v:=.int .i64 (k:Int)) rfl (Or.inl ⟨by rfl,fun w9 hSw=>by go_simp⟩) hHeld ?_
       try simp only [Act.put,sA,sB,sC]
       refine tk (i:=12) (v:=.pointer (some ⟨Ra,k,none⟩)) rfl (Or.inl ⟨by rfl,fun w9 hSw=>by go_simp⟩) hHeld ?_
       try simp only [Act.put,sA,sB,sC]
       refine tk (i:=13) (v:=.slice (some ⟨Fa,0,none⟩) ts.length ca) rfl (Or.inl ⟨by rfl,fun w9 hSw=>by have h9:=(hSw.cell (p:=⟨Ra,k,none⟩) FRA.out).trans FFA.out;go_simp⟩) hHeld ?_
       try simp only [Act.put,sA,sB,sC]
       refine tk (i:=14) (v:=.int .i64 (q:Int)) rfl (Or.inl ⟨by rfl,fun w9 hSw=>by go_simp⟩) hHeld ?_
       try simp only [Act.put,sA,sB,sC]
       refine tk (i:=15) (v:=.pointer (some ⟨Fa,q,none⟩)) rfl (Or.inl ⟨by rfl,fun w9 hSw=>by go_simp⟩) hHeld ?_
       try simp only [Act.put,sA,sB,sC]
       refine tk (i:=16) (v:=.bool true) rfl (Or.inl ⟨by rfl,fun w9 hSw=>by have h9:=(hSw.cell (p:=⟨Fa,q,none⟩) FFL.out).trans FFC.out;go_simp⟩) hHeld ?_
       try simp only [Act.put,sA,sB,sC]
       refine tk (i:=17) (v:=.bool false) rfl (Or.inl ⟨by rfl,fun w9 hSw=>by go_simp⟩) hHeld ?_
       try simp only [Act.put,sA,sB,sC]
       refine tk (i:=18) (v:=.bool false) rfl (Or.inl ⟨by rfl,fun w9 hSw=>by go_simp⟩) hHeld ?_
       try simp only [Act.put,sA,sB,sC]
       refine wpAnyH_done (by kernel_rfl) ?_ _
       have HRN:=Lib.hid ((HR.out.below hHeld).cast (show _=LK++issP k (usF ts ds alw k) (fun _=>1) (q+1) by rw [issP_no HNO.out]))
       have HAN:=Lib.hid (HA.out.below hHeld)
       have HBN:=Lib.hid (HB.out.trans (hHeld.mono HB.out.size))
       clear HR HA HB hHeld
       go_wp2_with fail
       go_roundg (ts.length-(q+1))
       case measure=>rw [HGQ.out];omega
       case rel=>exact ⟨q+1,by go_num,by omega,rfl,HRN,HAN,HBN⟩
    ·have hqe:q=ts.length:=by omega
     subst hqe
     have p0:=F0.out
     go_upto_region 14 with fail
     clear p0
     obtain ⟨hrm,Fm,cm,hfm1,hfm2,hfm3,hfm4⟩:=(HMY.out.asd HA.out).cell hlt
     have FMA:=Lib.hid hfm1
     have FMR:=Lib.hid hrm
     have HACC:Hid (∀ W:World,Below wr.heap.size wr W→Calls Tryz.prog 74 #[.slice At ts.length ct,.agg #[.int .i64 d.op,.int .i64 d.x,.int .i64 d.y,.int .i64 d.n,.slice An d.next.length cn],.slice (some ⟨Fm,0,none⟩) ts.length cm] W fun E w'=>∃ v',E=.returned v'∧RowA w' W.heap.size v' (accD ts d (may k d.x.toNat))∧Below W.heap.size W w'):=Lib.hid (fun W hW =>
      l4Accesses_any ts At ct d An cn Fm cm (may k) W ht6 (HAT.out.2 k d HDK.out) (HT.out.below (HB.out.trans (hW.mono HB.out.size)) (Nat.le_trans HB.out.size hW.size)) (hfm4.keep (hW.block Fm hfm4.lt)) hfm2 hfm3)
     clear hrm hfm1 hfm4
     refine wp_region_held_drew (S:=(fun w9=>Below wr.heap.size wr w9)) (by kernel_rfl) (Below.refl _ _).drew (fun hHeld=>?_)
     generalize hwd:wr.drew=wd at *
     clear hwd
     refine tk (i:=0) (v:=.pointer (some ⟨w.heap.size,0,none⟩)) rfl (Or.inl ⟨by rfl,fun w9 hSw=>by go_simp⟩) hHeld ?_
     try simp only [Act.put,sA,sB,sC]
     refine tk (i:=1) (v:=.slice At ts.length ct) rfl (Or.inl ⟨by rfl,fun w9 hSw=>by have h9:=(hSw.cell (p:=⟨w.heap.size,0,none⟩) FB.out).trans F0.out;go_simp⟩) hHeld ?_
     try simp only [Act.put,sA,sB,sC]
     refine tk (i:=2) (v:=.slice (some ⟨g,0,none⟩) ds.length cv) rfl (Or.inl ⟨by rfl,fun w9 hSw=>by go_simp⟩) hHeld ?_
     try simp only [Act.put,sA,sB,sC]
     refine tk (i:=3) (v:=.int .i64 (k:Int)) rfl (Or.inl ⟨by rfl,fun w9 hSw=>by go_simp⟩) hHeld ?_
     try simp only [Act.put,sA,sB,sC]
     refine tk (i:=4) (v:=.pointer (some ⟨g,k*5,none⟩)) rfl (Or.inl ⟨by rfl,fun w9 hSw=>by go_simp⟩) hHeld ?_
     try simp only [Act.put,sA,sB,sC]
     refine tk (i:=5) (v:=.agg #[.int .i64 d.op,.int .i64 d.x,.int .i64 d.y,.int .i64 d.n,.slice An d.next.length cn]) rfl (Or.inl ⟨by rfl,fun w9 hSw=>by have h9:=(hSw.cell (p:=⟨g,k*5,none⟩) FG.out).trans FQ.out.1;have h8:=(hSw.cell (p:=⟨g,k*5+1,none⟩) FG.out).trans FQ.out.2.1;have h7:=(hSw.cell (p:=⟨g,k*5+2,none⟩) FG.out).trans FQ.out.2.2.1;have h6:=(hSw.cell (p:=⟨g,k*5+3,none⟩) FG.out).trans FQ.out.2.2.2.1;have h5:=(hSw.cell (p:=⟨g,k*5+4,none⟩) FG.out).trans FQ.out.2.2.2.2;go_simp⟩) hHeld ?_
     try simp only [Act.put,sA,sB,sC]
     refine tk (i:=6) (v:=.slice (some ⟨Rm,0,none⟩) ds.length ds.length) rfl (Or.inl ⟨by rfl,fun w9 hSw=>by go_simp⟩) hHeld ?_
     try simp only [Act.put,sA,sB,sC]
     refine tk (i:=7) (v:=.int .i64 (k:Int)) rfl (Or.inl ⟨by rfl,fun w9 hSw=>by go_simp⟩) hHeld ?_
     try simp only [Act.put,sA,sB,sC]
     refine tk (i:=8) (v:=.pointer (some ⟨Rm,k,none⟩)) rfl (Or.inl ⟨by rfl,fun w9 hSw=>by go_simp⟩) hHeld ?_
     try simp only [Act.put,sA,sB,sC]
     refine tk (i:=9) (v:=.slice (some ⟨Fm,0,none⟩) ts.length cm) rfl (Or.inl ⟨by rfl,fun w9 hSw=>by have h9:=(hSw.cell (p:=⟨Rm,k,none⟩) FMR.out).trans FMA.out;go_simp⟩) hHeld ?_
     try simp only [Act.put,sA,sB,sC]
     refine wpAnyH_ready (rs:=[10]) (by kernel_rfl) (by simp) ?_
     refine AllReadyH.cons (o:=⟨_,_,_,_,_,_⟩) rfl (fun K hK=>?_) AllReadyH.nil
     have hc9:=HACC.out wd hHeld
     go_simp
     refine hc9.mono ?_
     rintro E wa ⟨va,rfl,hrowa,hbn⟩
     have HRA:=Lib.hid (RowA.reads hrowa)
     clear hrowa
     refine hK.out _ _ (hHeld.trans (hbn.mono hHeld.size)) (fun hHeld=>?_)
     clear hK K hc9 hbn
     refine wpAnyH_ready (rs:=[11]) (by kernel_rfl) (by simp) ?_
     refine AllReadyH.cons (o:=⟨_,_,_,_,_,_⟩) rfl (fun K hK=>?_) AllReadyH.nil
     go_simp
     refine hK.out _ _ hHeld (fun hHeld=>?_)
     clear hK K
     refine wpAnyH_done (by kernel_rfl) ?_ _
     replace HRA:Hid (RdA wa va (accD ts d (may k d.x.toNat))):=HRA
     replace HR:=Lib.hid (HR.out.below hHeld)
     replace HA:=Lib.hid (HA.out.below hHeld)
     replace HB:=Lib.hid (HB.out.trans (hHeld.mono HB.out.size))
     clear FMA FMR HACC hHeld F0 FB FQ FG
     have F0:Hid (wa.cell? ⟨w.heap.size,0,none⟩=some (.slice At ts.length ct)):=Lib.hid ((cB (HA.out.blk _ _ _ HBX.out (by decide)) 0).trans rfl)
     have FB:Hid (w.heap.size<wa.heap.size):=Lib.hid (heap_lt (HA.out.blk _ _ _ HBX.out (by decide)))
     have FPR:=HPR.out.asd HA.out
     obtain ⟨ud,hq,hud⟩:=FPR.cells HDK.out
     obtain ⟨An,cn,hsn⟩:=hud.asSlice
     subst hsn
     have FQ:=Lib.hid hq
     have FG:Hid (g<wa.heap.size):=Lib.hid (Nat.lt_of_lt_of_le HGL.out HA.out.size)
     clear hq hud FPR
     go_upto_region 15 with fail
     obtain ⟨hrl,Fl,cl,hfl1,hfl2,hfl3,hfl4⟩:=(HLV.out.asd HA.out).cell hlt
     have FVA:=Lib.hid hfl1
     have FVR:=Lib.hid hrl
     have hF4:=HFL.out.asd HA.out
     have FSC:=Lib.hid (hF4.cells hlt)
     have FSR:=Lib.hid hF4.lt
     have hS4:=hF4.st k hlt
     obtain ⟨mk,hmk⟩:∃ mk,mk=ms k:=⟨_,rfl⟩
     rw [← hmk] at FSC hS4
     have HLI4:Hid (∀ W:World,Below wa.heap.size wa W→Calls Tryz.prog 76 #[.slice At ts.length ct,.agg #[.int .i64 d.op,.int .i64 d.x,.int .i64 d.y,.int .i64 d.n,.slice An d.next.length cn],.agg #[.slice mk.fa ts.length mk.cf,.slice (some ⟨mk.bl 6,0,none⟩) ds.length (mk.cp 6)],.slice (some ⟨Fl,0,none⟩) ts.length cl] W fun E w'=>∃ G,E=.returned (.slice (some ⟨G,0,none⟩) ds.length ds.length)∧W.heap.size≤G∧FlW w' G ds.length (lvF ts d (lv k) (o k) ts.length)∧Below W.heap.size W w'):=Lib.hid (fun W hW =>
      l4Live_any ts At ct d (.slice An d.next.length cn) _ ds.length mk (o k) Fl cl (lv k) W ht6 hle (HT.out.below (HB.out.trans (hW.mono HB.out.size)) (Nat.le_trans HB.out.size hW.size)) (hS4.keep hW) (hfl4.keep (hW.block Fl hfl4.lt)) hfl2 hfl3)
     have HCF4:Hid (∀ (W:World) (G:Nat),Below wa.heap.size wa W→FlW W G ds.length (lvF ts d (lv k) (o k) ts.length)→Calls Tryz.prog 75 #[.slice (some ⟨g,0,none⟩) ds.length cv,va,.agg #[.slice mk.fa ts.length mk.cf,.slice (some ⟨mk.bl 6,0,none⟩) ds.length (mk.cp 6)],.slice (some ⟨G,0,none⟩) ds.length ds.length] W fun E w'=>∃ G',E=.returned (.slice (some ⟨G',0,none⟩) ds.length ds.length)∧FlW w' G' ds.length (cfF ts ds lv may o k)∧Below W.heap.size W w'):=Lib.hid (fun W G hW hG=>by
      rw [cfF_at HDK.out]
      exact l4Conflicts_any ds _ va _ _ _ ts.length mk (o k) G ds.length _ W hle hn0 (accD_length ts d _) ((HPR.out.asd HA.out).below hW) (HRA.out.below hW) (hS4.keep hW) hG (Nat.le_refl _) (by unfold maxLen;omega))
     clear hrl hfl1 hfl4 hF4 hS4 hmk HRA
     refine wp_region_held_drew (S:=(fun w9=>Below wa.heap.size wa w9)) (by kernel_rfl) (Below.refl _ _).drew (fun hHeld=>?_)
     generalize hwd:wa.drew=wd at *
     clear hwd
     refine tk (i:=0) (v:=.slice (some ⟨g,0,none⟩) ds.length cv) rfl (Or.inl ⟨by rfl,fun w9 hSw=>by go_simp⟩) hHeld ?_
     try simp only [Act.put,sA,sB,sC]
     refine tk (i:=1) (v:=va) rfl (Or.inl ⟨by rfl,fun w9 hSw=>by go_simp⟩) hHeld ?_
     try simp only [Act.put,sA,sB,sC]
     refine tk (i:=2) (v:=.slice (some ⟨R,0,none⟩) ds.length cR) rfl (Or.inl ⟨by rfl,fun w9 hSw=>by go_simp⟩) hHeld ?_
     try simp only [Act.put,sA,sB,sC]
     refine tk (i:=3) (v:=.int .i64 (k:Int)) rfl (Or.inl ⟨by rfl,fun w9 hSw=>by go_simp⟩) hHeld ?_
     try simp only [Act.put,sA,sB,sC]
     refine tk (i:=4) (v:=.pointer (some ⟨R,k*2,none⟩)) rfl (Or.inl ⟨by rfl,fun w9 hSw=>by go_simp⟩) hHeld ?_
     try simp only [Act.put,sA,sB,sC]
     refine tk (i:=5) (v:=.agg #[.slice mk.fa ts.length mk.cf,.slice (some ⟨mk.bl 6,0,none⟩) ds.length (mk.cp 6)]) rfl (Or.inl ⟨by rfl,fun w9 hSw=>by have h9:=(hSw.cell (p:=⟨R,k*2,none⟩) FSR.out).trans FSC.out.1;have h8:=(hSw.cell (p:=⟨R,k*2+1,none⟩) FSR.out).trans FSC.out.2;go_simp⟩) hHeld ?_
     try simp only [Act.put,sA,sB,sC]
     refine tk (i:=6) (v:=.pointer (some ⟨w.heap.size,0,none⟩)) rfl (Or.inl ⟨by rfl,fun w9 hSw=>by go_simp⟩) hHeld ?_
     try simp only [Act.put,sA,sB,sC]
     refine tk (i:=7) (v:=.slice At ts.length ct) rfl (Or.inl ⟨by rfl,fun w9 hSw=>by have h9:=(hSw.cell (p:=⟨w.heap.size,0,none⟩) FB.out).trans F0.out;go_simp⟩) hHeld ?_
     try simp only [Act.put,sA,sB,sC]
     refine tk (i:=8) (v:=.slice (some ⟨g,0,none⟩) ds.length cv) rfl (Or.inl ⟨by rfl,fun w9 hSw=>by go_simp⟩) hHeld ?_
     try simp only [Act.put,sA,sB,sC]
     refine tk (i:=9) (v:=.int .i64 (k:Int)) rfl (Or.inl ⟨by rfl,fun w9 hSw=>by go_simp⟩) hHeld ?_
     try simp only [Act.put,sA,sB,sC]
     refine tk (i:=10) (v:=.pointer (some ⟨g,k*5,none⟩)) rfl (Or.inl ⟨by rfl,fun w9 hSw=>by go_simp⟩) hHeld ?_
     try simp only [Act.put,sA,sB,sC]
     refine tk (i:=11) (v:=.agg #[.int .i64 d.op,.int .i64 d.x,.int .i64 d.y,.int .i64 d.n,.slice An d.next.length cn]) rfl (Or.inl ⟨by rfl,fun w9 hSw=>by have h9:=(hSw.cell (p:=⟨g,k*5,none⟩) FG.out).trans FQ.out.1;have h8:=(hSw.cell (p:=⟨g,k*5+1,none⟩) FG.out).trans FQ.out.2.1;have h7:=(hSw.cell (p:=⟨g,k*5+2,none⟩) FG.out).trans FQ.out.2.2.1;have h6:=(hSw.cell (p:=⟨g,k*5+3,none⟩) FG.out).trans FQ.out.2.2.2.1;have h5:=(hSw.cell (p:=⟨g,k*5+4,none⟩) FG.out).trans FQ.out.2.2.2.2;go_simp⟩) hHeld ?_
     try simp only [Act.put,sA,sB,sC]
     refine tk (i:=12) (v:=.slice (some ⟨R,0,none⟩) ds.length cR) rfl (Or.inl ⟨by rfl,fun w9 hSw=>by go_simp⟩) hHeld ?_
     try simp only [Act.put,sA,sB,sC]
     refine tk (i:=13) (v:=.int .i64 (k:Int)) rfl (Or.inl ⟨by rfl,fun w9 hSw=>by go_simp⟩) hHeld ?_
     try simp only [Act.put,sA,sB,sC]
     refine tk (i:=14) (v:=.pointer (some ⟨R,k*2,none⟩)) rfl (Or.inl ⟨by rfl,fun w9 hSw=>by go_simp⟩) hHeld ?_
     try simp only [Act.put,sA,sB,sC]
     refine tk (i:=15) (v:=.agg #[.slice mk.fa ts.length mk.cf,.slice (some ⟨mk.bl 6,0,none⟩) ds.length (mk.cp 6)]) rfl (Or.inl ⟨by rfl,fun w9 hSw=>by have h9:=(hSw.cell (p:=⟨R,k*2,none⟩) FSR.out).trans FSC.out.1;have h8:=(hSw.cell (p:=⟨R,k*2+1,none⟩) FSR.out).trans FSC.out.2;go_simp⟩) hHeld ?_
     try simp only [Act.put,sA,sB,sC]
     refine tk (i:=16) (v:=.slice (some ⟨gL,0,none⟩) ds.length cL) rfl (Or.inl ⟨by rfl,fun w9 hSw=>by go_simp⟩) hHeld ?_
     try simp only [Act.put,sA,sB,sC]
     refine tk (i:=17) (v:=.int .i64 (k:Int)) rfl (Or.inl ⟨by rfl,fun w9 hSw=>by go_simp⟩) hHeld ?_
     try simp only [Act.put,sA,sB,sC]
     refine tk (i:=18) (v:=.pointer (some ⟨gL,k,none⟩)) rfl (Or.inl ⟨by rfl,fun w9 hSw=>by go_simp⟩) hHeld ?_
     try simp only [Act.put,sA,sB,sC]
     refine tk (i:=19) (v:=.slice (some ⟨Fl,0,none⟩) ts.length cl) rfl (Or.inl ⟨by rfl,fun w9 hSw=>by have h9:=(hSw.cell (p:=⟨gL,k,none⟩) FVR.out).trans FVA.out;go_simp⟩) hHeld ?_
     try simp only [Act.put,sA,sB,sC]
     refine wpAnyH_ready (rs:=[20]) (by kernel_rfl) (by simp) ?_
     refine AllReadyH.cons (o:=⟨_,_,_,_,_,_⟩) rfl (fun K hK=>?_) AllReadyH.nil
     have hc9:=HLI4.out wd hHeld
     go_simp
     refine hc9.mono ?_
     rintro E wb ⟨Gl,rfl,-,hgl4,hbn⟩
     have HGL4:=Lib.hid hgl4
     clear hgl4
     refine hK.out _ _ (hHeld.trans (hbn.mono hHeld.size)) (fun hHeld=>?_)
     clear hK K hc9 hbn
     refine wpAnyH_ready (rs:=[21]) (by kernel_rfl) (by simp) ?_
     refine AllReadyH.cons (o:=⟨_,_,_,_,_,_⟩) rfl (fun K hK=>?_) AllReadyH.nil
     have hc9:=HCF4.out wb Gl hHeld HGL4.out
     go_simp
     refine hc9.mono ?_
     rintro E wc ⟨Gc,rfl,hgc4,hbn⟩
     have HGC:=Lib.hid hgc4
     clear hgc4
     refine hK.out _ _ (hHeld.trans (hbn.mono hHeld.size)) (fun hHeld=>?_)
     clear hK K hc9 hbn
     refine wpAnyH_ready (rs:=[22]) (by kernel_rfl) (by simp) ?_
     refine AllReadyH.cons (o:=⟨_,_,_,_,_,_⟩) rfl (fun K hK=>?_) AllReadyH.nil
     go_simp
     refine hK.out _ _ hHeld (fun hHeld=>?_)
     clear hK K
     refine wpAnyH_done (by kernel_rfl) ?_ _
     replace HR:=Lib.hid (HR.out.below hHeld)
     replace HA:=Lib.hid (HA.out.below hHeld)
     replace HB:=Lib.hid (HB.out.trans (hHeld.mono HB.out.size))
     clear FVA FVR FSC FSR HLI4 HCF4 HGL4 hHeld F0 FB FQ FG
     replace HGC:Hid (FlW wc Gc ds.length (cfF ts ds lv may o k)):=HGC
     obtain ⟨LU,hLU⟩:∃ LU,LU=LK++issP k (usF ts ds alw k) (fun _=>1) ts.length:=⟨_,rfl⟩
     have HLU:Hid (LU.length≤4200):=Lib.hid (by
      have h8:=issP_length k (usF ts ds alw k) (fun _=>1) ts.length
      have h9:=HLI.out
      rw [hLU,List.length_append]
      omega)
     replace HR:=Lib.hid (HR.out.cast hLU.symm)
     have HLUE:=Lib.hid hLU
     clear hLU
     go_wp2_with fail
     go_loopg [5,14] ds.length (fun gg ov j wr=>∃ q:Nat,j=.int .i64 q∧q≤ds.length∧gg=ds.length-q∧Hid (RowQ wr w.heap.size ov (LU++issP k (cfF ts ds lv may o k) (kdF ds) q))∧Hid (Asd wz wr)∧Hid (Below w.heap.size w wr)∧Hid (FlW wr Gc ds.length (cfF ts ds lv may o k)))
     case atStart=>exact ⟨0,rfl,Nat.zero_le _,rfl,Lib.hid (by rw [issP,List.append_nil];exact HR.out),HA,HB,HGC⟩
     case round =>
      clear HR HA HB HGC
      obtain ⟨q,rfl,hq,hgq,HR,HA,HB,HGC⟩:=hrel
      have HGQ:=Lib.hid hgq
      clear hgq
      by_cases hlq:q<ds.length
      ·obtain ⟨hq0,hq1⟩:(0:Int)≤(q:Int)∧(q:Int)<(ds.length:Int):=by omega
       obtain ⟨dq,hdq⟩:∃ dq,ds[q]?=some dq:=⟨ds[q],List.getElem?_eq_getElem hlq⟩
       obtain ⟨uq,hqq,-⟩:=(HPR.out.asd HA.out).cells hdq
       have HDQ:=Lib.hid hdq
       have hcc:=HGC.out.cell hlq
       obtain ⟨cb,hcb⟩:∃ cb,cfF ts ds lv may o k q=cb:=⟨_,rfl⟩
       rw [hcb] at hcc
       obtain ⟨op,hop⟩:∃ op,dq.op=op:=⟨_,rfl⟩
       have hq9:=hqq.1
       rw [hop] at hq9
       have HCB:=Lib.hid hcb
       have HOP:=Lib.hid hop
       clear hdq hqq hcb hop
       cases cb
       ·have HRN:=Lib.hid (HR.out.cast (show _=LU++issP k (cfF ts ds lv may o k) (kdF ds) (q+1) by rw [issP_no HCB.out]))
        clear HR
        go_wp2_with fail
        go_roundg (ds.length-(q+1))
        case measure=>rw [HGQ.out];omega
        case rel=>exact ⟨q+1,by go_num,by omega,rfl,HRN,HA,HB,HGC⟩
       ·obtain ⟨LL,hLL⟩:∃ LL,LL=LU++issP k (cfF ts ds lv may o k) (kdF ds) q:=⟨_,rfl⟩
        have HLL:Hid (LL.length≤4300):=Lib.hid (by
         have h8:=issP_length k (cfF ts ds lv may o k) (kdF ds) q
         have h9:=HLU.out
         rw [hLL,List.length_append]
         omega)
        have HR9:=Lib.hid (HR.out.cast hLL.symm)
        have HLE:=Lib.hid hLL
        clear hLL
        have HA9:=HA
        have HB9:=HB
        clear HR HA HB
        by_cases h5:op=5
        ·subst h5
         have HKD:Hid (kdF ds q=3):=Lib.hid (by rw [kdF_at HDQ.out,HOP.out];rfl)
         go_wp2_with (at_builtin;refine wpList_append_lies _ rfl _ _ 39 rfl w.heap.size 35 i0 (.agg #[.int .i64 0,.int .i64 0,.int .i64 0]) 3 24 Tryz.underlying39 HI.out HZ0.out HZ1.out HZ2.out rfl (by decide) _ _ _ rfl ((RowQ.own HR9.out).alloc _) ⟨_,0,none⟩ 1 1 [.int .i64 (k:Int),.int .i64 3,.int .i64 (q:Int)] rfl rfl ?xc1 ?xc2 (by decide) ?xc3 ?xc4 ?xc5 _ rfl ?_)
         try (case xc1=>exact news_cell (by simp) rfl)
         try (case xc2=>(intro u9 hu9;simp only [List.mem_cons,List.not_mem_nil,or_false] at hu9;rcases hu9 with rfl | rfl | rfl <;> rfl))
         try (case xc3=>(have:=HLL.out;unfold maxLen;omega))
         try (case xc4=>(have:=HLL.out;omega))
         try (case xc5=>(have:=HB9.out.size;first | omega | (simp;omega) | simp))
         intro g9 cap9 w9 hown9 hgg9 hat9 hlt9
         have hba:=(Below.refl wr.heap.size wr).alloc (Nat.le_refl _) (.cells #[.int .i64 (k:Int),.int .i64 3,.int .i64 (q:Int)] 35)
         have HST9:Hid (Asd wr w9):=Lib.hid (((Asd.refl wr).below hba).grown (HR9.out.below hba) hgg9)
         have HRN:=Lib.hid (RowQ.snoc (d:=⟨(k:Int),3,(q:Int)⟩) hown9)
         have HAN:=Lib.hid (HA9.out.trans HST9.out)
         have HBN:=Lib.hid ((HB9.out.trans (hba.mono HB9.out.size)).grown hgg9 (Nat.le_trans HB9.out.size hba.size) (fun j hj=>(RowQ.lt HR9.out j hj).1))
         clear hown9 hgg9 hat9 hlt9 hba
         replace HRN:=Lib.hid (HRN.out.cast (show _=LU++issP k (cfF ts ds lv may o k) (kdF ds) (q+1) by rw [issP_yes HCB.out,HKD.out,← List.append_assoc,HLE.out]))
         have HGN:=Lib.hid (HGC.out.asd HST9.out)
         clear HR9 HA9 HB9 HGC HST9 hcc hq9
         go_wp2_with fail
         go_roundg (ds.length-(q+1))
         case measure=>rw [HGQ.out];omega
         case rel=>exact ⟨q+1,by go_num,by omega,rfl,HRN,HAN,HBN,HGN⟩
        ·have hd5:decide (op=5)=false:=decide_eq_false h5
         have hd6:(op==5)=false:=by simpa using h5
         have HKD:Hid (kdF ds q=2):=Lib.hid (by rw [kdF_at HDQ.out,HOP.out,if_neg h5])
         go_wp2_with (at_builtin;refine wpList_append_lies _ rfl _ _ 39 rfl w.heap.size 35 i0 (.agg #[.int .i64 0,.int .i64 0,.int .i64 0]) 3 24 Tryz.underlying39 HI.out HZ0.out HZ1.out HZ2.out rfl (by decide) _ _ _ rfl ((RowQ.own HR9.out).alloc _) ⟨_,0,none⟩ 1 1 [.int .i64 (k:Int),.int .i64 2,.int .i64 (q:Int)] rfl rfl ?xd1 ?xd2 (by decide) ?xd3 ?xd4 ?xd5 _ rfl ?_)
         try (case xd1=>exact news_cell (by simp) rfl)
         try (case xd2=>(intro u9 hu9;simp only [List.mem_cons,List.not_mem_nil,or_false] at hu9;rcases hu9 with rfl | rfl | rfl <;> rfl))
         try (case xd3=>(have:=HLL.out;unfold maxLen;omega))
         try (case xd4=>(have:=HLL.out;omega))
         try (case xd5=>(have:=HB9.out.size;first | omega | (simp;omega) | simp))
         intro g9 cap9 w9 hown9 hgg9 hat9 hlt9
         have hba:=(Below.refl wr.heap.size wr).alloc (Nat.le_refl _) (.cells #[.int .i64 (k:Int),.int .i64 2,.int .i64 (q:Int)] 35)
         have HST9:Hid (Asd wr w9):=Lib.hid (((Asd.refl wr).below hba).grown (HR9.out.below hba) hgg9)
         have HRN:=Lib.hid (RowQ.snoc (d:=⟨(k:Int),2,(q:Int)⟩) hown9)
         have HAN:=Lib.hid (HA9.out.trans HST9.out)
         have HBN:=Lib.hid ((HB9.out.trans (hba.mono HB9.out.size)).grown hgg9 (Nat.le_trans HB9.out.size hba.size) (fun j hj=>(RowQ.lt HR9.out j hj).1))
         clear hown9 hgg9 hat9 hlt9 hba
         replace HRN:=Lib.hid (HRN.out.cast (show _=LU++issP k (cfF ts ds lv may o k) (kdF ds) (q+1) by rw [issP_yes HCB.out,HKD.out,← List.append_assoc,HLE.out]))
         have HGN:=Lib.hid (HGC.out.asd HST9.out)
         clear HR9 HA9 HB9 HGC HST9 hcc hq9
         go_wp2_with fail
         go_roundg (ds.length-(q+1))
         case measure=>rw [HGQ.out];omega
         case rel=>exact ⟨q+1,by go_num,by omega,rfl,HRN,HAN,HBN,HGN⟩
      ·have hqe:q=ds.length:=by omega
       subst hqe
       have HRN:=Lib.hid (HR.out.cast (show _=issA (usF ts ds alw) (cfF ts ds lv may o) (kdF ds) ts.length ds.length (k+1) by rw [issA,← List.append_assoc,← HLK.out,← HLUE.out]))
       clear HR
       go_wp2_with fail
       go_roundg (ds.length-(k+1))
       case measure=>rw [HGK.out];omega
       case rel=>exact ⟨k+1,by go_num,by omega,rfl,HRN,HA,HB⟩
  ·have hke:k=ds.length:=by omega
   subst hke
   clear hk
   go_wp2_with fail
   go_ret
   exact ⟨_,alw,may,o,rfl,HR.out,HIA.out,HIM.out,HIO.out,HB.out⟩
def LoCfL (LV:Nat→Nat→Prop) (ts:List Int) (ns:List Nd) (k l:Nat):Prop:=(∃ v,v<6∧LV k v∧¬ lostN ts ns k v∧LoanB ts ns k v l)∧LoPl ts ns k l∧∃ d b,ns[k]?=some d∧(b=true↔MayB ts ns k d.x.toNat)∧∃ a∈accD ts d b,Near ns l a
def UnsB (ts:List Int) (ns:List Nd) (k v:Nat):Prop:=(∃ d,ns[k]?=some d∧useI ts d v≠0)∧MissB ts ns k v
def IssL (LV:Nat→Nat→Prop) (ts:List Int) (ds:List Nd) (l:List IsD):Prop:=∃ U C,l=issA U C (kdF ds) ts.length ds.length ds.length∧(∀ i v,i<ds.length→v<ts.length→(U i v=true↔UnsB ts ds i v))∧(∀ i k,i<ds.length→k<ds.length→(C i k=true↔LoCfL LV ts ds i k))
theorem IssL.unique {LV:Nat→Nat→Prop} {ts:List Int} {ds:List Nd} {l m:List IsD} (h:IssL LV ts ds l) (k:IssL LV ts ds m):l=m:=by
 obtain ⟨U,C,rfl,h1,h2⟩:=h
 obtain ⟨U',C',rfl,k1,k2⟩:=k
 exact issA_congr (fun i v hi hv=>Bool.eq_iff_iff.mpr ((h1 i v hi hv).trans (k1 i v hi hv).symm)) (fun i v hi hv=>Bool.eq_iff_iff.mpr ((h2 i v hi hv).trans (k2 i v hi hv).symm))
theorem issL_of {LV:Nat→Nat→Prop} {ts:List Int} {ds:List Nd} {alw lv may:Nat→Nat→Bool} {o:Nat→Nat→Nat→Bool} (hAT:AllTyped ts ds)
  (hdom:∀ k v,LV k v→v<ts.length) (hlv:∀ k v,k<ds.length→v<ts.length→(lv k v=true↔LV k v))
  (hal:∀ k v,k<ds.length→v<ts.length→(alw k v=true↔¬ MissB ts ds k v)) (hmay:∀ k v,k<ds.length→(may k v=true↔MayB ts ds k v)) (ho:∀ m v l,m<ds.length→(o m v l=true↔LoanB ts ds m v l)) :
  IssL LV ts ds (issA (usF ts ds alw) (cfF ts ds lv may o) (kdF ds) ts.length ds.length ds.length):=by
 have ht6:=hAT.1
 refine ⟨_,_,rfl,fun i v hi hv=>?_,fun i k hi hk=>?_⟩
 ·obtain ⟨d,hd⟩:∃ d,ds[i]?=some d:=⟨ds[i],List.getElem?_eq_getElem hi⟩
  have h9:=hal i v hi hv
  rw [usF_at hd,Bool.and_eq_true,decide_eq_true_eq]
  constructor
  ·rintro ⟨h1,h2⟩
   refine ⟨⟨d,hd,h1⟩,?_⟩
   by_cases h3:MissB ts ds i v
   ·exact h3
   ·rw [h9.mpr h3] at h2
    cases h2
  ·rintro ⟨⟨d',e,h1⟩,h2⟩
   rw [hd] at e
   injection e with e
   subst e
   refine ⟨h1,?_⟩
   cases h3:alw i v
   ·rfl
   ·exact absurd h2 (h9.mp h3)
 ·obtain ⟨d,hd⟩:∃ d,ds[i]?=some d:=⟨ds[i],List.getElem?_eq_getElem hi⟩
  have hlost:∀ v:Nat,lostN ts ds i v↔useI ts d (v:Int)=2∨setI d=(v:Int):=fun v=>or_congr (usesN_at hd v 2) (setsN_at hd v)
  have hlvi:lvF ts d (lv i) (o i) ts.length k=true↔∃ v,v<6∧LV i v∧¬ lostN ts ds i v∧LoanB ts ds i v k:=by
   rw [lvF_iff]
   constructor
   ·rintro ⟨v,h1,h2,h3,h4,h5⟩
    exact ⟨v,by omega,(hlv i v hi h1).mp h2,fun h9=>((hlost v).mp h9).elim h4 h3,(ho i v k hi).mp h5⟩
   ·rintro ⟨v,h1,h2,h3,h4⟩
    have hv:=hdom i v h2
    exact ⟨v,hv,(hlv i v hi hv).mpr h2,fun h9=>h3 ((hlost v).mpr (.inr h9)),fun h9=>h3 ((hlost v).mpr (.inl h9)),(ho i v k hi).mpr h4⟩
  rw [cfF_at hd]
  show cfJ ds (accD ts d (may i d.x.toNat)) _ k _=true↔_
  unfold cfJ
  rw [List.take_length,Bool.and_eq_true,Bool.and_eq_true,hlvi,ho i 6 k hi,List.any_eq_true]
  constructor
  ·rintro ⟨⟨h1,h2⟩,a,ha,h3⟩
   refine ⟨h1,h2,d,may i d.x.toNat,hd,hmay i _ hi,a,ha,?_⟩
   obtain ⟨di,e1,e2⟩:=LoanB.loan h2
   rw [nearB_at e1,Bool.and_eq_true,Bool.or_eq_true,decide_eq_true_eq,decide_eq_true_eq] at h3
   exact ⟨⟨di,e1,e2,h3.1⟩,h3.2.imp id (fun h9=>by rw [isUniq_at e1];exact decide_eq_true h9)⟩
  ·rintro ⟨h1,h2,d',b',e1,e2,a,ha,⟨di,e3,e4,e5⟩,e6⟩
   rw [hd] at e1
   injection e1 with e1
   subst e1
   have hb:b'=may i d.x.toNat:=Bool.eq_iff_iff.mpr (e2.trans (hmay i _ hi).symm)
   subst hb
   refine ⟨⟨h1,h2⟩,a,ha,?_⟩
   rw [nearB_at e3,Bool.and_eq_true,Bool.or_eq_true,decide_eq_true_eq,decide_eq_true_eq]
   exact ⟨e5,e6.imp id (fun h9=>by rw [isUniq_at e3] at h9;exact of_decide_eq_true h9)⟩
def IssR (ts:List Int) (s:Sts) (l:List IsD):Prop:=(validB ts s=true∧IssL (LiveB ts (progPts s)) ts (progPts s) l)∨(validB ts s=false∧l=[])
theorem IssR.unique {ts:List Int} {s:Sts} {l m:List IsD} (h:IssR ts s l) (k:IssR ts s m):l=m:=by
 rcases h with ⟨h1,h2⟩ | ⟨h1,h2⟩ <;> rcases k with ⟨k1,k2⟩ | ⟨k1,k2⟩
 ·exact h2.unique k2
 ·rw [h1] at k1;cases k1
 ·rw [h1] at k1;cases k1
 ·rw [h2,k2]
theorem specCheckProgram_any (ts:List Int) (s:Sts) (At As:Option Addr) (ct cs:Nat) (w:World) (hsz:s.size≤1048576) (hT:IntsV w 0 w.heap.size ts At ct) (hR:RepV w 0 w.heap.size s As cs) :
  Calls Tryz.prog 17 #[.agg #[.slice At ts.length ct,.slice As s.len cs]] w fun E w'=>∃ v l,E=.returned v∧RowQ w' w.heap.size v l∧IssR ts s l∧Below w.heap.size w w':=by
 have hz0:(w.alloc (.cells #[.slice At ts.length ct,.slice As s.len cs] 30)).heap.size=w.heap.size+1:=by simp
 have hb0:=(Below.refl w.heap.size w).alloc (Nat.le_refl _) (.cells #[.slice At ts.length ct,.slice As s.len cs] 30)
 have hB0:=heap_alloc_new w (.cells #[.slice At ts.length ct,.slice As s.len cs] 30)
 have hV:=specProgramValid_any ts s At As ct cs _ hsz (hT.below hb0 (by simp)) (hR.below hb0 (by simp))
 have HZ:=Lib.hid hz0
 have HB:=Lib.hid hB0
 have HB0:=Lib.hid hb0
 clear hz0 hB0 hb0
 cases h1:validB ts s
 ·rw [h1] at hV
  have HV:=Lib.hid h1
  clear h1 hT hR
  go_enter Tryz.func17,Tryz.ntmps17
  go_wp2_with fail
  refine hV.mono ?_
  rintro E w1 ⟨rfl,hb1⟩
  have HB1:=Lib.hid (HB0.out.trans (hb1.mono HB0.out.size))
  clear hb1 hV
  have HRW:=Lib.hid (RowQ.lit w1 w.heap.size HB1.out.size)
  have HBE:=Lib.hid (HB1.out.alloc HB1.out.size (.cells #[] 35))
  go_wp2_with fail
  go_ret
  exact ⟨_,[],rfl,HRW.out,.inr ⟨HV.out,rfl⟩,HBE.out⟩
 ·rw [h1] at hV
  have HV:=Lib.hid h1
  have HAT:=Lib.hid (progPts_allTyped h1)
  have HLL:Hid (∀ W:World,Below w.heap.size w W→Calls Tryz.prog 43 #[.agg #[.slice At ts.length ct,.slice As s.len cs]] W (LivePost ts (progPts s) W)):=Lib.hid (fun W hW=>l3Live_any ts s At As ct cs W h1 (hT.below hW hW.size) (hR.below hW hW.size))
  have HCK:Hid (∀ (W:World) (gL cL:Nat) (lv:Nat→Nat→Bool),Below w.heap.size w W→RdF W gL (progPts s).length ts.length lv→(progPts s).length≤cL→cL≤maxLen→(∀ k v,k<(progPts s).length→v<ts.length→(lv k v=true↔LiveB ts (progPts s) k v))→Calls Tryz.prog 42 #[.agg #[.slice At ts.length ct,.slice As s.len cs],.slice (some ⟨gL,0,none⟩) (progPts s).length cL] W fun E w'=>∃ v l,E=.returned v∧RowQ w' W.heap.size v l∧IssL (LiveB ts (progPts s)) ts (progPts s) l∧Below W.heap.size W w'):=Lib.hid (fun W gL cL lv hW hrd hc1 hc2 hlv=>by
   refine (l5Check_any ts s At As ct cs gL cL lv W h1 (hT.below hW hW.size) (hR.below hW hW.size) hrd hc1 hc2).mono ?_
   rintro E w' ⟨v,alw,may,o,rfl,hrow,ha,hm,ho,hb⟩
   exact ⟨v,_,rfl,hrow,issL_of HAT.out (fun k v hv=>LiveB.lt HAT.out hv) hlv ha hm ho,hb⟩)
  have HMK:Hid (∀ l,IssL (LiveB ts (progPts s)) ts (progPts s) l→IssR ts s l):=Lib.hid (fun l hl=>.inl ⟨HV.out,hl⟩)
  generalize progPts s=ds at *
  clear h1 hT hR
  go_enter Tryz.func17,Tryz.ntmps17
  go_wp2_with fail
  refine hV.mono ?_
  rintro E w1 ⟨rfl,hb1⟩
  have hbx:=(hb1.block w.heap.size (by have:=HZ.out;omega)).trans HB.out
  have HB1:=Lib.hid (HB0.out.trans (hb1.mono HB0.out.size))
  have P0:Hid (w1.cell? ⟨w.heap.size,0,none⟩=some (.slice At ts.length ct)):=Lib.hid ((cB hbx 0).trans rfl)
  have P1:Hid (w1.cell? ⟨w.heap.size,1,none⟩=some (.slice As s.len cs)):=Lib.hid ((cB hbx 1).trans rfl)
  have FB:Hid (w.heap.size<w1.heap.size):=Lib.hid (heap_lt hbx)
  clear hb1 hV hbx
  go_upto_region 3 with fail
  refine wp_region_held_drew (S:=(fun w9=>Below w1.heap.size w1 w9)) (by kernel_rfl) (Below.refl _ _).drew (fun hHeld=>?_)
  generalize hwd:w1.drew=wd at *
  clear hwd
  refine tk (i:=0) (v:=.agg #[.slice At ts.length ct,.slice As s.len cs]) rfl (Or.inl ⟨by rfl,fun w9 hSw=>by have h9:=(hSw.cell (p:=⟨w.heap.size,0,none⟩) FB.out).trans P0.out;have h8:=(hSw.cell (p:=⟨w.heap.size,1,none⟩) FB.out).trans P1.out;go_simp⟩) hHeld ?_
  try simp only [Act.put,sA,sB,sC]
  refine tk (i:=1) (v:=.agg #[.slice At ts.length ct,.slice As s.len cs]) rfl (Or.inl ⟨by rfl,fun w9 hSw=>by have h9:=(hSw.cell (p:=⟨w.heap.size,0,none⟩) FB.out).trans P0.out;have h8:=(hSw.cell (p:=⟨w.heap.size,1,none⟩) FB.out).trans P1.out;go_simp⟩) hHeld ?_
  try simp only [Act.put,sA,sB,sC]
  refine wpAnyH_ready (rs:=[2]) (by kernel_rfl) (by simp) ?_
  refine AllReadyH.cons (o:=⟨_,_,_,_,_,_⟩) rfl (fun K hK=>?_) AllReadyH.nil
  have hc9:=HLL.out wd (HB1.out.trans (hHeld.mono HB1.out.size))
  go_simp
  refine hc9.mono ?_
  rintro E w2 ⟨g2,cap2,bl,lo,rfl,hnc,hcm,hM,hif⟩
  have hbn:=hM.below
  have HRD:=Lib.hid (hM.rdF (show ts.length≤maxLen by unfold maxLen;have:=HAT.out.1;omega))
  have HIF:=Lib.hid hif
  have HNC:=Lib.hid hnc
  have HCM:=Lib.hid hcm
  clear hM hif hnc hcm
  refine hK.out _ _ (hHeld.trans (hbn.mono hHeld.size)) (fun hHeld=>?_)
  clear hK K hc9 hbn
  refine wpAnyH_ready (rs:=[3]) (by kernel_rfl) (by simp) ?_
  refine AllReadyH.cons (o:=⟨_,_,_,_,_,_⟩) rfl (fun K hK=>?_) AllReadyH.nil
  have hc9:=HCK.out w2 g2 cap2 lo (HB1.out.trans (hHeld.mono HB1.out.size)) HRD.out HNC.out HCM.out HIF.out
  go_simp
  refine hc9.mono ?_
  rintro E w3 ⟨v,l,rfl,hrow,hiss,hbn⟩
  have HRW:=Lib.hid (hrow.mono (Nat.le_trans HB1.out.size hHeld.size))
  have HIS:=Lib.hid hiss
  clear hrow hiss
  refine hK.out _ _ (hHeld.trans (hbn.mono hHeld.size)) (fun hHeld=>?_)
  clear hK K hc9 hbn
  refine wpAnyH_ready (rs:=[4]) (by kernel_rfl) (by simp) ?_
  refine AllReadyH.cons (o:=⟨_,_,_,_,_,_⟩) rfl (fun K hK=>?_) AllReadyH.nil
  go_simp
  refine hK.out _ _ hHeld (fun hHeld=>?_)
  clear hK K
  refine wpAnyH_done (by kernel_rfl) ?_ _
  have HBE:=Lib.hid (HB1.out.trans (hHeld.mono HB1.out.size))
  clear hHeld
  go_wp2_with fail
  go_ret
  exact ⟨_,_,rfl,HRW.out,HMK.out _ HIS.out,HBE.out⟩
def firQ:List IsD→IsD
 | []=>⟨0,0,0⟩
 | d :: _=>d
def IsD.val (d:IsD):Value:=.agg #[.int .i64 d.a,.int .i64 d.k,.int .i64 d.v]
end Go.Proofs.YtedkkphogeealaaGreatDoor
