/- Rows of points that a call owns,and what an append and a store make of them. -/
import Derived.Test.YtedkkphogeealaaGreatDoorRows
import Derived.Test.YtedkkphogeealaaGreatDoorPCopy0
import Derived.Test.YtedkkphogeealaaGreatDoorPBase
import Derived.WalkKit
import Derived.WalkSpells
import Derived.Laws.OwnMore
import Derived.Deep.AppendLies
import Derived.Test.YtedkkphogeealaaGreatDoorPGrX
import Derived.Lib.Hide
namespace Go.Proofs.YtedkkphogeealaaGreatDoor
open Go.RowKit Go.Deep
set_option linter.unusedVariables false
set_option maxRecDepth 100000
set_option maxHeartbeats 4000000
def NextV (w:World) (B:Nat) (u:Value) (next:List Int):Prop :=
 (next=[]∧u=.slice none 0 0)∨∃ g,u=.slice (some ⟨g,0,none⟩) next.length next.length∧B≤g∧w.heap[g]?=some (.cells (next.map (Value.int .i64)).toArray 3 (0,0))
def NdIn (w:World) (B:Nat) (xs:List Value) (k:Nat) (d:Nd):Prop :=
 ∃ u,(xs[5*k]?=some (.int .i64 d.op)∧xs[5*k+1]?=some (.int .i64 d.x)∧xs[5*k+2]?=some (.int .i64 d.y)∧xs[5*k+3]?=some (.int .i64 d.n)∧xs[5*k+4]?=some u)∧NextV w B u d.next
def PRow (w:World) (B:Nat) (v:Value) (ns:List Nd):Prop :=
 ∃ xs,w.ownsRow B 75 5 v ns.length xs∧∀ k d,ns[k]?=some d→NdIn w B xs k d
theorem NextV.kept {w w':World} {B:Nat} {u:Value} {next:List Int} {row:Option Nat} (h:NextV w B u next) (hg:w.grownBy w' row) (hr:∀ g,row=some g→∃ cur,w.heap[g]?=some (.cells cur 75 (0,0))):NextV w' B u next:=by
 rcases h with h | ⟨g,h1,h2,h3⟩
 ·exact .inl h
 ·refine .inr ⟨g,h1,h2,?_⟩
  rw [hg.block g (heap_lt h3) ?_]
  ·exact h3
  ·intro e
   obtain ⟨cur,hc⟩:=hr g e.symm
   rw [h3] at hc
   injection hc with hc
   injection hc with _ hc _
   exact absurd hc (by decide)
theorem NdIn.kept {w w':World} {B k:Nat} {xs:List Value} {d:Nd} {row:Option Nat} (h:NdIn w B xs k d) (hg:w.grownBy w' row) (hr:∀ g,row=some g→∃ cur,w.heap[g]?=some (.cells cur 75 (0,0))):NdIn w' B xs k d:=by
 obtain ⟨u,hc,hn⟩:=h
 exact ⟨u,hc,hn.kept hg hr⟩
theorem below_grown {w w':World} (hb:Below w.heap.size w w'):w.grownBy w' none:=⟨hb.os,hb.tape,hb.output,hb.size,fun k hk _=>hb.block k hk⟩
theorem PRow.below {w w':World} {B:Nat} {v:Value} {ns:List Nd} (h:PRow w B v ns) (hb:Below w.heap.size w w'):PRow w' B v ns:=by
 obtain ⟨xs,ho,hc⟩:=h
 exact ⟨xs,ho.kept (below_grown hb) (by cases hv:v.ownBlock <;> simp),fun k d hd=>(hc k d hd).kept (below_grown hb) (fun g e=>by cases e)⟩
theorem PRow.alloc {w:World} {B:Nat} {v:Value} {ns:List Nd} (h:PRow w B v ns) (o:Obj):PRow (w.alloc o) B v ns:=h.below ((Below.refl _ _).alloc (Nat.le_refl _) o)
theorem ownBlock_row {w:World} {B size n:Nat} {e:TypeId} {v:Value} {xs:List Value} (h:w.ownsRow B e size v n xs):∀ g,v.ownBlock=some g→∃ cur,w.heap[g]?=some (.cells cur e (0,0)):=by
 intro g hg
 rcases h.2 with ⟨rfl,_⟩ | ⟨g',cap,cur,rfl,_,hc,_⟩
 ·simp [Value.ownBlock] at hg
 ·simp [Value.ownBlock] at hg
  subst hg
  exact ⟨cur,hc⟩
theorem PRow.snoc {w w':World} {B:Nat} {v v' u:Value} {ns:List Nd} {d:Nd} {xs:List Value} (ho:w.ownsRow B 75 5 v ns.length xs) (hc:∀ k d,ns[k]?=some d→NdIn w B xs k d)
  (hu:NextV w B u d.next) (hg:w.grownBy w' v.ownBlock) (ho':w'.ownsRow B 75 5 v' (ns.length+1) (xs++[.int .i64 d.op,.int .i64 d.x,.int .i64 d.y,.int .i64 d.n,u])):PRow w' B v' (ns++[d]):=by
 have hl:xs.length=ns.length*5:=ho.1
 have hr:=ownBlock_row ho
 refine ⟨_,by rw [List.length_append];exact ho',fun k e he=>?_⟩
 rcases Nat.lt_or_ge k ns.length with hk | hk
 ·rw [List.getElem?_append_left hk] at he
  obtain ⟨u',⟨c0,c1,c2,c3,c4⟩,hn⟩:=(hc k e he).kept hg hr
  refine ⟨u',⟨?_,?_,?_,?_,?_⟩,hn⟩
  all_goals rw [List.getElem?_append_left (by omega)]
  ·exact c0
  ·exact c1
  ·exact c2
  ·exact c3
  ·exact c4
 ·rw [List.getElem?_append_right hk] at he
  have hk':k=ns.length:=by
   have:=(List.getElem?_eq_some_iff.1 he).1
   simp at this
   omega
  subst hk'
  simp at he
  subst he
  refine ⟨u,⟨?_,?_,?_,?_,?_⟩,hu.kept hg hr⟩
  all_goals rw [List.getElem?_append_right (by omega)]
  ·rw [show 5*ns.length-xs.length=0 by omega];rfl
  ·rw [show 5*ns.length+1-xs.length=1 by omega];rfl
  ·rw [show 5*ns.length+2-xs.length=2 by omega];rfl
  ·rw [show 5*ns.length+3-xs.length=3 by omega];rfl
  ·rw [show 5*ns.length+4-xs.length=4 by omega];rfl
theorem PRow.next {w:World} {B g cap j:Nat} {u:Value} {ns:List Nd} {d:Nd} {next:List Int} (h:PRow w B (.slice (some ⟨g,0,none⟩) ns.length cap) ns) (hd:ns[j]?=some d) (hu:NextV w B u next) :
  PRow (w.setCell ⟨g,5*j+4,none⟩ u) B (.slice (some ⟨g,0,none⟩) ns.length cap) (ns.set j { d with next:=next })∧w.grownBy (w.setCell ⟨g,5*j+4,none⟩ u) (some g):=by
 obtain ⟨xs,ho,hc⟩:=h
 obtain ⟨ho',hg⟩:=ho.stored (5*j+4) u
 have hl:xs.length=ns.length*5:=ho.1
 have hr:∀ k,some g=some k→∃ cur,w.heap[k]?=some (.cells cur 75 (0,0)):=fun k hk=>ownBlock_row ho k (by simpa [Value.ownBlock] using hk)
 have hj:=(List.getElem?_eq_some_iff.1 hd).1
 refine ⟨⟨_,by rw [List.length_set];exact ho',fun k e he=>?_⟩,hg⟩
 by_cases hk:j=k
 ·subst hk
  rw [List.getElem?_set_self hj] at he
  injection he with he
  subst he
  obtain ⟨u',⟨c0,c1,c2,c3,c4⟩,hn⟩:=hc j d hd
  refine ⟨u,⟨?_,?_,?_,?_,?_⟩,hu.kept hg hr⟩
  ·rw [List.getElem?_set_ne (by omega)];exact c0
  ·rw [List.getElem?_set_ne (by omega)];exact c1
  ·rw [List.getElem?_set_ne (by omega)];exact c2
  ·rw [List.getElem?_set_ne (by omega)];exact c3
  ·rw [List.getElem?_set_self (by omega)]
 ·rw [List.getElem?_set_ne hk] at he
  obtain ⟨u',⟨c0,c1,c2,c3,c4⟩,hn⟩:=(hc k e he).kept hg hr
  refine ⟨u',⟨?_,?_,?_,?_,?_⟩,hn⟩
  all_goals rw [List.getElem?_set_ne (by omega)]
  ·exact c0
  ·exact c1
  ·exact c2
  ·exact c3
  ·exact c4
theorem PRow.form {w:World} {B:Nat} {v:Value} {ns:List Nd} (h:PRow w B v ns) (h0:0<ns.length):∃ g cap,v=.slice (some ⟨g,0,none⟩) ns.length cap∧B≤g∧g<w.heap.size∧ns.length≤cap∧cap≤maxLen:=by
 obtain ⟨xs,ho,hc⟩:=h
 rcases ho.2 with ⟨_,h1⟩ | ⟨g,cap,cur,hv,hB,hg,hn,hm,_⟩
 ·omega
 ·exact ⟨g,cap,hv,hB,heap_lt hg,hn,hm⟩
theorem PRow.cells {w:World} {B g cap k:Nat} {ns:List Nd} {d:Nd} (h:PRow w B (.slice (some ⟨g,0,none⟩) ns.length cap) ns) (hd:ns[k]?=some d) :
  ∃ u,(w.cell? ⟨g,k*5,none⟩=some (.int .i64 d.op)∧w.cell? ⟨g,k*5+1,none⟩=some (.int .i64 d.x)∧w.cell? ⟨g,k*5+2,none⟩=some (.int .i64 d.y)∧w.cell? ⟨g,k*5+3,none⟩=some (.int .i64 d.n)∧w.cell? ⟨g,k*5+4,none⟩=some u)∧NextV w B u d.next:=by
 obtain ⟨xs,ho,hc⟩:=h
 obtain ⟨u,⟨c0,c1,c2,c3,c4⟩,hn⟩:=hc k d hd
 have hk:=(List.getElem?_eq_some_iff.1 hd).1
 refine ⟨u,⟨?_,?_,?_,?_,?_⟩,hn⟩
 ·rw [ho.cellAt _ (by omega),Nat.mul_comm];exact c0
 ·rw [ho.cellAt _ (by omega),Nat.mul_comm];exact c1
 ·rw [ho.cellAt _ (by omega),Nat.mul_comm];exact c2
 ·rw [ho.cellAt _ (by omega),Nat.mul_comm];exact c3
 ·rw [ho.cellAt _ (by omega),Nat.mul_comm];exact c4
theorem PRow.frozen {w:World} {B g cap:Nat} {ns:List Nd} (h:PRow w B (.slice (some ⟨g,0,none⟩) ns.length cap) ns) (j:Nat):w.frozen? ⟨g,j,none⟩=false:=by
 obtain ⟨xs,ho,hc⟩:=h
 exact ho.frozenAt j
theorem PRow.nil {w:World} {B:Nat} (hb:B≤w.heap.size):PRow (w.alloc (.cells #[] 75)) B (.slice (some ⟨w.heap.size,0,none⟩) 0 0) [] :=
 ⟨[],World.ownsRow_lit w #[] 0 hb (by simp [maxLen]) rfl,fun k d hd=>by simp at hd⟩
theorem NextV.lit {w:World} {B:Nat} (hb:B≤w.heap.size) (next:List Int):NextV (w.alloc (.cells (next.map (Value.int .i64)).toArray 3)) B (.slice (some ⟨w.heap.size,0,none⟩) next.length next.length) next :=
 .inr ⟨w.heap.size,rfl,hb,heap_alloc_new w _⟩
theorem NextV.below {w w':World} {B:Nat} {u:Value} {next:List Int} (h:NextV w B u next) (hb:Below w.heap.size w w'):NextV w' B u next:=h.kept (below_grown hb) (fun g e=>by cases e)
def Onto (w w':World) (v v':Value):Prop:=w.grownBy w' v.ownBlock∧(v'.ownBlock=v.ownBlock∨∀ g,v'.ownBlock=some g→w.heap.size≤g)
theorem Onto.refl (w:World) (v:Value):Onto w w v v:=⟨⟨rfl,rfl,rfl,Nat.le_refl _,fun _ _ _=>rfl⟩,.inl rfl⟩
theorem Onto.of_below {w w':World} (hb:Below w.heap.size w w') (v:Value):Onto w w' v v:=⟨⟨hb.os,hb.tape,hb.output,hb.size,fun k hk _=>hb.block k hk⟩,.inl rfl⟩
theorem Onto.trans {a b c:World} {u v x:Value} (h:Onto a b u v) (k:Onto b c v x):Onto a c u x:=by
 obtain ⟨h1,h2⟩:=h
 obtain ⟨k1,k2⟩:=k
 refine ⟨⟨k1.os.trans h1.os,k1.tape.trans h1.tape,k1.output.trans h1.output,Nat.le_trans h1.size k1.size,fun i hi hne=>?_⟩,?_⟩
 ·refine (k1.block i (Nat.lt_of_lt_of_le hi h1.size) ?_).trans (h1.block i hi hne)
  rcases h2 with h2 | h2
  ·rw [h2];exact hne
  ·intro e
   have:=h2 i e.symm
   omega
 ·rcases k2 with k2 | k2
  ·rcases h2 with h2 | h2
   ·exact .inl (k2.trans h2)
   ·exact .inr fun g hg=>h2 g (k2 ▸ hg)
  ·exact .inr fun g hg=>Nat.le_trans h1.size (k2 g hg)
theorem Onto.alloc {a b:World} {u v:Value} (h:Onto a b u v) (o:Obj):Onto a (b.alloc o) u v:=h.trans (.of_below ((Below.refl _ _).alloc (Nat.le_refl _) o) v)
theorem Onto.block {a b:World} {u v:Value} (h:Onto a b u v) {k:Nat} (hk:k<a.heap.size) (hne:some k≠u.ownBlock):b.heap[k]?=a.heap[k]?:=h.1.block k hk hne
theorem Onto.size {a b:World} {u v:Value} (h:Onto a b u v):a.heap.size≤b.heap.size:=h.1.size
theorem PRow.own {w:World} {B:Nat} {v:Value} {ns:List Nd} (h:PRow w B v ns):∀ g,v.ownBlock=some g→B≤g∧g<w.heap.size:=by
 obtain ⟨xs,ho,_⟩:=h
 exact ho.lt
theorem Onto.below {w w':World} {B:Nat} {v v':Value} {ns:List Nd} (h:Onto w w' v v') (hP:PRow w B v ns) (hB:B≤w.heap.size):Below B w w' :=
 ⟨h.1.os,h.1.tape,h.1.output,h.1.size,fun k hk=>h.1.block k (by omega) fun e=>by have:=(hP.own k e.symm).1;omega⟩
theorem PRow.slice {w:World} {B:Nat} {v:Value} {ns:List Nd} (h:PRow w B v ns):∃ A c,v=.slice A ns.length c:=by
 obtain ⟨xs,ho,_⟩:=h
 rcases ho.2 with ⟨hv,h0⟩ | ⟨g,cap,cur,hv,_⟩
 ·exact ⟨none,0,by rw [hv,h0]⟩
 ·exact ⟨_,_,hv⟩
theorem PRow.appended {w w':World} {B g cap:Nat} {v u:Value} {ns:List Nd} {d:Nd} {xs:List Value} (ho:w.ownsRow B 75 5 v ns.length xs) (hc:∀ k d,ns[k]?=some d→NdIn w B xs k d)
  (hu:NextV w B u d.next) (hg:w.grownBy w' v.ownBlock) (hat:v.ownBlock=some g∨g=w.heap.size)
  (ho':w'.ownsRow B 75 5 (.slice (some ⟨g,0,none⟩) (ns.length+1) cap) (ns.length+1) (xs++[.int .i64 d.op,.int .i64 d.x,.int .i64 d.y,.int .i64 d.n,u])) :
  PRow w' B (.slice (some ⟨g,0,none⟩) (ns.length+1) cap) (ns++[d])∧Onto w w' v (.slice (some ⟨g,0,none⟩) (ns.length+1) cap):=by
 refine ⟨PRow.snoc ho hc hu hg ho',hg,?_⟩
 rcases hat with h | h
 ·exact .inl h.symm
 ·refine .inr fun k hk=>?_
  have hk':g=k:=by simpa [Value.ownBlock] using hk
  omega
theorem PRow.appended_at {w w':World} {B g cap n:Nat} {v u:Value} {ns:List Nd} {d:Nd} {xs:List Value} (hn:Hid (ns.length=n)) (ho:w.ownsRow B 75 5 v n xs) (hc:∀ k d,ns[k]?=some d→NdIn w B xs k d)
  (hu:NextV w B u d.next) (hg:w.grownBy w' v.ownBlock) (hat:v.ownBlock=some g∨g=w.heap.size)
  (ho':w'.ownsRow B 75 5 (.slice (some ⟨g,0,none⟩) (n+1) cap) (n+1) (xs++[.int .i64 d.op,.int .i64 d.x,.int .i64 d.y,.int .i64 d.n,u])) :
  PRow w' B (.slice (some ⟨g,0,none⟩) (n+1) cap) (ns++[d])∧Onto w w' v (.slice (some ⟨g,0,none⟩) (n+1) cap):=by
 have:=hn.out
 subst this
 exact PRow.appended ho hc hu hg hat ho'
theorem PRow.named {w:World} {B n:Nat} {v:Value} {ns:List Nd} (h:PRow w B v ns) (hn:Hid (ns.length=n)) (h0:0<n) :
  ∃ g cap,v=.slice (some ⟨g,0,none⟩) n cap∧B≤g∧g<w.heap.size:=by
 have:=hn.out
 subst this
 obtain ⟨g,cap,hv,h1,h2,_,_⟩:=h.form h0
 exact ⟨g,cap,hv,h1,h2⟩
theorem PRow.parts {w:World} {B n:Nat} {v:Value} {ns:List Nd} (h:PRow w B v ns) (hn:Hid (ns.length=n)) :
  ∃ xs,w.ownsRow B 75 5 v n xs∧∀ k d,ns[k]?=some d→NdIn w B xs k d:=by
 have:=hn.out
 subst this
 exact h
theorem PRow.nextCell {w:World} {B g cap n j:Nat} {A C:List Nd} {d:Nd} (h:PRow w B (.slice (some ⟨g,0,none⟩) n cap) (A++d :: C)) (hn:Hid ((A++d :: C).length=n)) (hj:Hid (A.length=j)) :
  (∃ u,w.cell? ⟨g,j*5+4,none⟩=some u)∧w.frozen? ⟨g,j*5+4,none⟩=false:=by
 have:=hn.out
 subst this
 have:=hj.out
 subst this
 obtain ⟨u,⟨_,_,_,_,h4⟩,_⟩:=h.cells (k:=A.length) (d:=d) (by simp)
 exact ⟨⟨u,h4⟩,h.frozen _⟩
theorem PRow.next_at {w:World} {B g cap n j:Nat} {u:Value} {A C:List Nd} {d:Nd} {next:List Int} (h:PRow w B (.slice (some ⟨g,0,none⟩) n cap) (A++d :: C)) (hn:Hid ((A++d :: C).length=n)) (hj:Hid (A.length=j)) (hu:NextV w B u next) :
  PRow (w.setCell ⟨g,j*5+4,none⟩ u) B (.slice (some ⟨g,0,none⟩) n cap) (A++{ d with next:=next } :: C)∧Onto w (w.setCell ⟨g,j*5+4,none⟩ u) (.slice (some ⟨g,0,none⟩) n cap) (.slice (some ⟨g,0,none⟩) n cap):=by
 have:=hn.out
 subst this
 have:=hj.out
 subst this
 have hd:(A++d :: C)[A.length]?=some d:=by simp
 obtain ⟨h1,h2⟩:=h.next hd hu
 rw [Nat.mul_comm] at h1 h2
 have hs:(A++d :: C).set A.length { d with next:=next }=A++{ d with next:=next } :: C:=by simp
 rw [hs] at h1
 have hl:(A++{ d with next:=next } :: C).length=(A++d :: C).length:=by simp
 exact ⟨h1,h2,.inl rfl⟩
theorem PRow.next_new {w:World} {B g cap n j q:Nat} {A C:List Nd} {d:Nd} {next:List Int} {cs:Array Value} (h:PRow w B (.slice (some ⟨g,0,none⟩) n cap) (A++d :: C)) (hn:Hid ((A++d :: C).length=n)) (hj:Hid (A.length=j)) (hb:B≤w.heap.size) (hq:next.length=q) (hcs:cs=(next.map (Value.int .i64)).toArray) :
  PRow ((w.setCell ⟨g,j*5+4,none⟩ (.slice (some ⟨w.heap.size,0,none⟩) q q)).alloc (.cells cs 3)) B (.slice (some ⟨g,0,none⟩) n cap) (A++{ d with next:=next } :: C) ∧
   Onto w ((w.setCell ⟨g,j*5+4,none⟩ (.slice (some ⟨w.heap.size,0,none⟩) q q)).alloc (.cells cs 3)) (.slice (some ⟨g,0,none⟩) n cap) (.slice (some ⟨g,0,none⟩) n cap):=by
 subst hq hcs
 have hg:=(h.own g rfl).2
 have he:(w.setCell ⟨g,j*5+4,none⟩ (.slice (some ⟨w.heap.size,0,none⟩) next.length next.length)).alloc (.cells (next.map (Value.int .i64)).toArray 3)=(w.alloc (.cells (next.map (Value.int .i64)).toArray 3)).setCell ⟨g,j*5+4,none⟩ (.slice (some ⟨w.heap.size,0,none⟩) next.length next.length) :=
  (World.setCell_alloc_past _ _ _ _ hg).symm
 rw [he]
 obtain ⟨h1,h2⟩:=(h.alloc (.cells (next.map (Value.int .i64)).toArray 3)).next_at hn hj (NextV.lit hb next)
 exact ⟨h1,((Onto.refl w _).alloc _).trans h2⟩
theorem Tryz.infoPoint:(Tryz.prog.info? 75).map (fun i=>(i.zero,i.size,i.bytes))=some (some (.agg #[.int .i64 0,.int .i64 0,.int .i64 0,.int .i64 0,.slice none 0 0]),5,56):=by kernel_rfl
theorem news_cell {w:World} {H:Nat} {cs:Array Value} {t:TypeId} {l:List Value} (hH:w.heap.size=H) (hl:l.toArray=cs):∀ j u,l[j]?=some u→(w.alloc (.cells cs t)).cell? ((⟨H,0,none⟩:Addr).add j)=some u:=by
 subst hH hl
 intro j u hj
 rw [add_block,Nat.zero_add,cB (heap_alloc_new _ _)]
 simpa using hj
def L2Post (B:Nat) (w:World) (v:Value) (ns ds:List Nd) (E:Ending) (w':World):Prop:=∃ v',E=.returned v'∧PRow w' B v' (ns++ds)∧Onto w w' v v'
theorem l2Add_any (N B:Nat):∀ (s:Sts) (A:Option Addr) (c:Nat) (ns:List Nd) (v:Value) (w:World),s.size<N→s.size≤1000000→B≤w.heap.size→RepV w 0 B s A c→PRow w B v ns→ns.length+s.npts≤4000000 →
  Calls Tryz.prog 79 #[v,.slice A s.len c] w (L2Post B w v ns (s.pts ns.length)):=by
 induction N with
 | zero=>intro s A c ns v w h;omega
 | succ N ih =>
  intro s A c ns v w hN hsz hBw hR hP hl
  have hm:=hR.2.1
  have hlc:=hR.1
  have hls:=s.len_le_size
  unfold maxLen at hm
  obtain ⟨i0,hi,hz0,hz1,hz2⟩:=info_parts Tryz.infoPoint
  have HI:=Lib.hid hi
  have HZ0:=Lib.hid hz0
  have HZ1:=Lib.hid hz1
  have HZ2:=Lib.hid hz2
  clear hi hz0 hz1 hz2
  have HP:=Lib.hid hP
  have HL:Hid ((ns++s.pts ns.length).length≤4000000):=by unfold Hid;rw [List.length_append,Sts.pts_len];exact hl
  clear hP
  go_enter Tryz.func79,Tryz.ntmps79
  go_wp2_with fail
  go_loopw [0,5] (fun u i wr=>∃ (k:Nat) (cur:List Nd),k≤s.len∧i=.int .i64 k∧Hid (PRow wr B u cur)∧Onto w wr v u∧Hid (ns++s.pts ns.length=cur++(s.drop k).pts cur.length)) (fun _ i _=>s.len-(intOf i).toNat)
  case atStart=>exact ⟨0,ns,Nat.zero_le _,rfl,HP,Onto.refl _ _,rfl⟩
  case round =>
   obtain ⟨k,cur,hk,rfl,hPc,hO,hpt⟩:=hrel
   have hBr:B≤wr.heap.size:=Nat.le_trans hBw hO.size
   have hbel:=hO.below HP.out hBw
   by_cases hlt:k<s.len
   ·have hR1:RepV wr 0 B s A c:=hR.keep (Nat.le_refl _) (Nat.le_refl _) fun p _ hp=>hbel.cell hp
    obtain ⟨b,op,x,y,n,t,e,rfl,-,hbb,hdr,At,ct,Ae,ce,⟨h0,h1,h2,h3,h4,h5⟩,hRt,hRe⟩:=hR1.elem hlt
    have hz:=RepV.drop_sizes hdr
    have hpd:=Sts.pts_drop s k op x y n t e _ cur hdr
    have hlen:cur.length+stN op t.npts e.npts≤4000000:=by
     have h1:=HL.out
     rw [hpt.out,hpd,List.length_append,List.length_append,stPts_len _ _ _ _ _ _ _ _ _ (t.pts_len _) (e.pts_len _)] at h1
     omega
    have hpt2:Hid (ns++s.pts ns.length=(cur++stPts op x y n cur.length t.npts e.npts (t.pts (cur.length+1)) (e.pts (cur.length+2+t.npts)))++(s.drop (k+1)).pts (cur++stPts op x y n cur.length t.npts e.npts (t.pts (cur.length+1)) (e.pts (cur.length+2+t.npts))).length):=by
     unfold Hid
     rw [hpt.out,hpd]
    obtain ⟨Au,cu,hu⟩:=hPc.out.slice
    obtain ⟨xs,ho,hc⟩:=hPc.out
    have HO:=Lib.hid ho
    have HC:=Lib.hid hc
    have HRt:=Lib.hid hRt
    have HRe:=Lib.hid hRe
    subst hu
    clear hpt hpd hdr hR1 ho hc hRt hRe
    by_cases e9:op=9
    ·subst e9
     obtain ⟨T,hTT⟩:∃ T,T=t.pts (cur.length+1):=⟨_,rfl⟩
     obtain ⟨L,hLL⟩:∃ L,L=e.pts (cur.length+2+t.npts):=⟨_,rfl⟩
     obtain ⟨m,hm'⟩:∃ m,m=cur.length+1+t.npts:=⟨_,rfl⟩
     obtain ⟨q,hq'⟩:∃ q,q=cur.length+2+t.npts+e.npts:=⟨_,rfl⟩
     have htl:T.length=t.npts:=by rw [hTT,Sts.pts_len]
     have hll:L.length=e.npts:=by rw [hLL,Sts.pts_len]
     have hlen2:cur.length+(2+t.npts+e.npts)≤4000000:=by simpa [stN] using hlen
     have HM:Hid ((cur++(⟨9,0,0,0,[]⟩:Nd) :: T).length=m):=by unfold Hid;simp;omega
     have HM3:Hid ((cur++(⟨9,0,0,0,[]⟩:Nd) :: (T++[(⟨10,0,0,1,[]⟩:Nd)])).length=m+1):=by unfold Hid;simp;omega
     have HQ:Hid (((cur++(⟨9,0,0,0,[]⟩:Nd) :: T)++(⟨10,0,0,1,[]⟩:Nd) :: L).length=q):=by unfold Hid;simp;omega
     have HQ2:Hid ((cur++(⟨9,0,0,0,[]⟩:Nd) :: (T++(⟨10,0,0,1,[(q:Int)]⟩:Nd) :: L)).length=q):=by unfold Hid;simp;omega
     have hst:Hid (stPts 9 x y n cur.length t.npts e.npts (t.pts (cur.length+1)) (e.pts (cur.length+2+t.npts))=⟨9,0,0,0,[((cur.length+1:Nat):Int),((m+1:Nat):Int)]⟩ :: (T++⟨10,0,0,1,[(q:Int)]⟩ :: L)):=by
      unfold Hid
      rw [← hTT,← hLL,hm',hq',show cur.length+1+t.npts+1=cur.length+2+t.npts by omega]
      rfl
     have hcm:cur.length<m:=by omega
     have hmq:m<q:=by omega
     have hm4:m≤4000000:=by omega
     have hme:m+1+e.npts≤4000000:=by omega
     have hmt:cur.length+1+t.npts≤4000000:=by omega
     have HMQ:Hid (m+1=cur.length+2+t.npts):=by unfold Hid;omega
     have HTT:=Lib.hid hTT
     have HLL:=Lib.hid hLL
     have hbX:=(Below.refl wr.heap.size wr).alloc (Nat.le_refl _) (.cells #[.int .i64 9,.int .i64 x,.int .i64 y,.int .i64 n,.slice At t.len ct,.slice Ae e.len ce] 121)
     have HOX:=Lib.hid (Onto.of_below hbX (Value.slice Au cur.length cu))
     have hzX:(wr.alloc (.cells #[.int .i64 9,.int .i64 x,.int .i64 y,.int .i64 n,.slice At t.len ct,.slice Ae e.len ce] 121)).heap.size=wr.heap.size+1:=by simp
     have HZX:=Lib.hid hzX
     have HNE:Hid (some wr.heap.size≠(Value.slice Au cur.length cu).ownBlock):=fun e=>by have:=(hPc.out.own _ e.symm).2;omega
     have HBX:=Lib.hid (heap_alloc_new wr (.cells #[.int .i64 9,.int .i64 x,.int .i64 y,.int .i64 n,.slice At t.len ct,.slice Ae e.len ce] 121))
     clear hTT hLL hm' hq' htl hll hlen hlen2 hbX hzX
     go_wp2_with (at_builtin;refine wpList_append_lies _ rfl _ _ 69 rfl B 75 i0 (.agg #[.int .i64 0,.int .i64 0,.int .i64 0,.int .i64 0,.slice none 0 0]) 5 56 Tryz.underlying69 HI.out HZ0.out HZ1.out HZ2.out rfl (by decide) _ _ _ rfl ((HO.out.alloc _).alloc _) ⟨_,0,none⟩ 1 1 [.int .i64 9,.int .i64 0,.int .i64 0,.int .i64 0,.slice none 0 0] rfl rfl ?e91 ?e92 (by decide) ?e93 ?e94 ?e95 _ rfl ?_)
     try (case e91=>exact news_cell (by simp) rfl)
     case e92 =>
      intro u hu
      simp only [List.mem_cons,List.not_mem_nil,or_false] at hu
      rcases hu with rfl | rfl | rfl | rfl | rfl <;> rfl
     case e93=>unfold maxLen;omega
     case e94=>omega
     case e95=>simp;omega
     intro g1 cap1 w1 hown' hg hat hlt'
     have hbA:=(Below.refl (wr.alloc (.cells #[.int .i64 9,.int .i64 x,.int .i64 y,.int .i64 n,.slice At t.len ct,.slice Ae e.len ce] 121)).heap.size (wr.alloc (.cells #[.int .i64 9,.int .i64 x,.int .i64 y,.int .i64 n,.slice At t.len ct,.slice Ae e.len ce] 121))).alloc (Nat.le_refl _) (.cells #[.int .i64 9,.int .i64 0,.int .i64 0,.int .i64 0,.slice none 0 0] 75)
     obtain ⟨hP',hO'⟩:=PRow.appended_at (d:=(⟨9,0,0,0,[]⟩:Nd)) (show Hid (cur.length=cur.length) from rfl) ((HO.out.alloc _).alloc _) (fun k d hd=>(HC.out k d hd).kept (below_grown (((Below.refl wr.heap.size wr).alloc (Nat.le_refl _) (.cells #[.int .i64 9,.int .i64 x,.int .i64 y,.int .i64 n,.slice At t.len ct,.slice Ae e.len ce] 121)).alloc (by simp) (.cells #[.int .i64 9,.int .i64 0,.int .i64 0,.int .i64 0,.slice none 0 0] 75))) (fun g e=>by cases e)) (.inl ⟨rfl,rfl⟩) hg (hat.imp id fun e=>e.trans (by simp)) hown'
     have HP1:=Lib.hid hP'
     have HO1:=Lib.hid ((Onto.of_below hbA _).trans hO')
     have HB1:=Lib.hid ((HO1.out.block (k:=wr.heap.size) (by rw [HZX.out];omega) HNE.out).trans HBX.out)
     have c4:w1.cell? ⟨wr.heap.size,4,none⟩=some (.slice At t.len ct):=(cB HB1.out 4).trans rfl
     have hwb1:wr.heap.size<w1.heap.size:=heap_lt HB1.out
     have HR1:=Lib.hid (HRt.out.keep (Nat.le_refl _) (Nat.le_refl _) fun p _ hp=>(((HOX.out.trans HO1.out).below hPc.out hBr).cell hp))
     clear hown' hg hat hbA hP' hO' HO HC
     go_wp2_with fail
     refine (ih t At ct (cur++[(⟨9,0,0,0,[]⟩:Nd)]) _ w1 (by omega) (by omega) (by omega) HR1.out HP1.out (by simp;omega)).mono ?_
     rintro E w2 ⟨v2,rfl,hP2,hO2⟩
     have HP2:Hid (PRow w2 B v2 (cur++(⟨9,0,0,0,[]⟩:Nd) :: T)):=by
      unfold Hid
      have hln:(cur++[(⟨9,0,0,0,[]⟩:Nd)]).length=cur.length+1:=by simp
      have:=hP2
      rw [hln,List.append_assoc,← HTT.out] at this
      exact this
     obtain ⟨g2,cap2,hv2,hgB2,hgl2⟩:=HP2.out.named HM (by omega)
     subst hv2
     have HO2:=Lib.hid (HO1.out.trans hO2)
     have hw2:=hO2.size
     obtain ⟨xs2,ho2,hc2⟩:=HP2.out.parts HM
     have HX2:=Lib.hid ho2
     have HC2:=Lib.hid hc2
     clear ho2 hc2 hP2 hO2 c4 HB1 HR1 HP1 HO1
     go_wp2_with (at_builtin;refine wpList_append_lies _ rfl _ _ 69 rfl B 75 i0 (.agg #[.int .i64 0,.int .i64 0,.int .i64 0,.int .i64 0,.slice none 0 0]) 5 56 Tryz.underlying69 HI.out HZ0.out HZ1.out HZ2.out rfl (by decide) _ _ _ rfl (HX2.out.alloc _) ⟨_,0,none⟩ 1 1 [.int .i64 10,.int .i64 0,.int .i64 0,.int .i64 1,.slice none 0 0] rfl rfl ?f91 ?f92 (by decide) ?f93 ?f94 ?f95 _ rfl ?_)
     try (case f91=>exact news_cell (by simp) rfl)
     case f92 =>
      intro u hu
      simp only [List.mem_cons,List.not_mem_nil,or_false] at hu
      rcases hu with rfl | rfl | rfl | rfl | rfl <;> rfl
     case f93=>unfold maxLen;omega
     case f94=>omega
     case f95=>simp;omega
     intro g3 cap3 w3 hown' hg hat hlt'
     have hbA:=(Below.refl w2.heap.size w2).alloc (Nat.le_refl _) (.cells #[.int .i64 10,.int .i64 0,.int .i64 0,.int .i64 1,.slice none 0 0] 75)
     obtain ⟨hP',hO'⟩:=PRow.appended_at (d:=(⟨10,0,0,1,[]⟩:Nd)) HM (HX2.out.alloc _) (fun k d hd=>(HC2.out k d hd).kept (below_grown hbA) (fun g e=>by cases e)) (.inl ⟨rfl,rfl⟩) hg (hat.imp id fun e=>e.trans (by simp)) hown'
     have HP3:Hid (PRow w3 B (.slice (some ⟨g3,0,none⟩) (m+1) cap3) (cur++(⟨9,0,0,0,[]⟩:Nd) :: (T++[(⟨10,0,0,1,[]⟩:Nd)]))):=by
      unfold Hid
      rw [List.append_assoc,List.cons_append] at hP'
      exact hP'
     have HO3:=Lib.hid (HO2.out.trans ((Onto.of_below hbA _).trans hO'))
     have HB3:=Lib.hid ((HO3.out.block (k:=wr.heap.size) (by rw [HZX.out];omega) HNE.out).trans HBX.out)
     have c5:w3.cell? ⟨wr.heap.size,5,none⟩=some (.slice Ae e.len ce):=(cB HB3.out 5).trans rfl
     have hwb3:wr.heap.size<w3.heap.size:=heap_lt HB3.out
     have HR3:=Lib.hid (HRe.out.keep (Nat.le_refl _) (Nat.le_refl _) fun p _ hp=>(((HOX.out.trans HO3.out).below hPc.out hBr).cell hp))
     clear hown' hg hat hbA hP' hO' HX2 HC2 HP2 HO2
     go_wp2_with fail
     refine (ih e Ae ce (cur++(⟨9,0,0,0,[]⟩:Nd) :: (T++[(⟨10,0,0,1,[]⟩:Nd)])) _ w3 (by omega) (by omega) (by omega) HR3.out HP3.out (by rw [HM3.out];exact hme)).mono ?_
     rintro E w4 ⟨v4,rfl,hP4,hO4⟩
     have HP4:Hid (PRow w4 B v4 ((cur++(⟨9,0,0,0,[]⟩:Nd) :: T)++(⟨10,0,0,1,[]⟩:Nd) :: L)):=by
      unfold Hid
      have:=hP4
      rw [HM3.out,HMQ.out,← HLL.out] at this
      simpa using this
     obtain ⟨g4,cap4,hv4,hgB4,hgl4⟩:=HP4.out.named HQ (by omega)
     subst hv4
     have HO4:=Lib.hid (HO3.out.trans hO4)
     have hw4:=hO4.size
     obtain ⟨⟨u5,hu5⟩,hf5⟩:=HP4.out.nextCell HQ HM
     have HP4b:Hid (PRow w4 B (.slice (some ⟨g4,0,none⟩) q cap4) (cur++(⟨9,0,0,0,[]⟩:Nd) :: (T++(⟨10,0,0,1,[]⟩:Nd) :: L))):=by
      unfold Hid
      have:=HP4.out
      rw [List.append_assoc,List.cons_append] at this
      exact this
     have HQb:Hid ((cur++(⟨9,0,0,0,[]⟩:Nd) :: (T++(⟨10,0,0,1,[]⟩:Nd) :: L)).length=q):=by
      have:=HQ.out
      rw [List.append_assoc,List.cons_append] at this
      exact this
     obtain ⟨⟨u6',hu6⟩,hf6⟩:=HP4b.out.nextCell HQb (show Hid (cur.length=cur.length) from rfl)
     obtain ⟨hP5,hO5⟩:=HP4.out.next_new (next:=[(q:Int)]) (cs:=#[.int .i64 (q:Int)]) HQ HM (by omega) rfl rfl
     have HP5:Hid (PRow ((w4.setCell ⟨g4,m*5+4,none⟩ (.slice (some ⟨w4.heap.size,0,none⟩) 1 1)).alloc (.cells #[.int .i64 (q:Int)] 3)) B (.slice (some ⟨g4,0,none⟩) q cap4) (cur++(⟨9,0,0,0,[]⟩:Nd) :: (T++(⟨10,0,0,1,[(q:Int)]⟩:Nd) :: L))):=by
      unfold Hid
      rw [List.append_assoc,List.cons_append] at hP5
      exact hP5
     obtain ⟨hP6,hO6⟩:=HP5.out.next_new (next:=[((cur.length+1:Nat):Int),((m+1:Nat):Int)]) (cs:=#[.int .i64 ((cur.length:Int)+1),.int .i64 ((m:Int)+1)]) HQ2 (show Hid (cur.length=cur.length) from rfl) (by simp [World.setCell];omega) rfl rfl
     have hzz:((w4.setCell ⟨g4,m*5+4,none⟩ (.slice (some ⟨w4.heap.size,0,none⟩) 1 1)).alloc (.cells #[.int .i64 (q:Int)] 3)).heap.size=w4.heap.size+1:=by simp [World.setCell]
     rw [hzz,World.setCell_alloc_past _ _ _ _ (by simp [World.setCell];exact hgl4)] at hP6 hO6
     have HP6:=Lib.hid hP6
     have HO6:=Lib.hid (hO.trans (HOX.out.trans (HO4.out.trans (hO5.trans hO6))))
     have hcq:cur.length<q:=by omega
     clear hP4 hO4 c5 HB3 HR3 HP3 HO3 HP5 hP5 hO5 hP6 hO6 hzz
     go_wp2_with fail
     go_roundw
     case rel=>exact ⟨k+1,_,by omega,by go_num,HP6,HO6.out,by rw [← hst.out];exact hpt2⟩
     case measure=>simp [intOf];omega
    ·by_cases e10:op=10
     ·subst e10
      obtain ⟨T,hTT⟩:∃ T,T=t.pts (cur.length+1):=⟨_,rfl⟩
      obtain ⟨m,hm'⟩:∃ m,m=cur.length+1+t.npts:=⟨_,rfl⟩
      have htl:T.length=t.npts:=by rw [hTT,Sts.pts_len]
      have HM:Hid ((cur++(⟨10,0,0,0,[]⟩:Nd) :: T).length=m):=by unfold Hid;simp;omega
      have hcm:cur.length<m:=by omega
      have hst:Hid (stPts 10 x y n cur.length t.npts e.npts (t.pts (cur.length+1)) (e.pts (cur.length+2+t.npts))=⟨10,0,0,0,[((cur.length+1:Nat):Int),((m+1:Nat):Int)]⟩ :: (T++[⟨10,0,0,1,[(cur.length:Int)]⟩])):=by
       unfold Hid
       rw [← hTT,hm',show cur.length+1+t.npts+1=cur.length+2+t.npts by omega]
       rfl
      have hlen2:cur.length+(2+t.npts)≤4000000:=by simpa [stN] using hlen
      have hm4:m≤4000000:=by omega
      have HM2:Hid ((cur++(⟨10,0,0,0,[]⟩:Nd) :: (T++[(⟨10,0,0,1,[(cur.length:Int)]⟩:Nd)])).length=m+1):=by unfold Hid;simp;omega
      have HTT:=Lib.hid hTT
      clear hTT hm' htl hlen
      go_wp2_with (at_builtin;refine wpList_append_lies _ rfl _ _ 69 rfl B 75 i0 (.agg #[.int .i64 0,.int .i64 0,.int .i64 0,.int .i64 0,.slice none 0 0]) 5 56 Tryz.underlying69 HI.out HZ0.out HZ1.out HZ2.out rfl (by decide) _ _ _ rfl ((HO.out.alloc _).alloc _) ⟨_,0,none⟩ 1 1 [.int .i64 10,.int .i64 0,.int .i64 0,.int .i64 0,.slice none 0 0] rfl rfl ?a101 ?a102 (by decide) ?a103 ?a104 ?a105 _ rfl ?_)
      try (case a101=>exact news_cell (by simp) rfl)
      case a102 =>
       intro u hu
       simp only [List.mem_cons,List.not_mem_nil,or_false] at hu
       rcases hu with rfl | rfl | rfl | rfl | rfl <;> rfl
      case a103=>unfold maxLen;omega
      case a104=>omega
      case a105=>simp;omega
      intro g1 cap1 w1 hown' hg hat hlt'
      have hbA:=((Below.refl wr.heap.size wr).alloc (Nat.le_refl _) (.cells #[.int .i64 10,.int .i64 x,.int .i64 y,.int .i64 n,.slice At t.len ct,.slice Ae e.len ce] 121)).alloc (by simp) (.cells #[.int .i64 10,.int .i64 0,.int .i64 0,.int .i64 0,.slice none 0 0] 75)
      obtain ⟨hP',hO'⟩:=PRow.appended_at (d:=(⟨10,0,0,0,[]⟩:Nd)) (show Hid (cur.length=cur.length) from rfl) ((HO.out.alloc _).alloc _) (fun k d hd=>(HC.out k d hd).kept (below_grown hbA) (fun g e=>by cases e)) (.inl ⟨rfl,rfl⟩) hg (hat.imp id fun e=>e.trans (by simp)) hown'
      have HP1:=Lib.hid hP'
      have HO1:=Lib.hid ((Onto.of_below hbA _).trans hO')
      have hw1:=HO1.out.size
      have HB1:=Lib.hid ((hO'.block (k:=wr.heap.size) (by simp <;> omega) (fun e=>by have:=(hPc.out.own _ e.symm).2;omega)).trans ((Below.heap_alloc _ _ _ (by simp <;> omega)).trans (heap_alloc_new wr (.cells #[.int .i64 10,.int .i64 x,.int .i64 y,.int .i64 n,.slice At t.len ct,.slice Ae e.len ce] 121))))
      have c4:w1.cell? ⟨wr.heap.size,4,none⟩=some (.slice At t.len ct):=(cB HB1.out 4).trans rfl
      have hwb1:wr.heap.size<w1.heap.size:=heap_lt HB1.out
      have HR1:=Lib.hid (HRt.out.keep (Nat.le_refl _) (Nat.le_refl _) fun p _ hp=>((HO1.out.below hPc.out hBr).cell hp))
      clear hown' hg hat hbA hP' hO' HO HC
      go_wp2_with fail
      refine (ih t At ct (cur++[(⟨10,0,0,0,[]⟩:Nd)]) _ w1 (by omega) (by omega) (by omega) HR1.out HP1.out (by simp;omega)).mono ?_
      rintro E w2 ⟨v2,rfl,hP2,hO2⟩
      have HP2:Hid (PRow w2 B v2 (cur++(⟨10,0,0,0,[]⟩:Nd) :: T)):=by
       unfold Hid
       have hln:(cur++[(⟨10,0,0,0,[]⟩:Nd)]).length=cur.length+1:=by simp
       have:=hP2
       rw [hln,List.append_assoc,← HTT.out] at this
       exact this
      obtain ⟨g2,cap2,hv2,hgB2,hgl2⟩:=HP2.out.named HM (by omega)
      subst hv2
      have HO2:=Lib.hid (HO1.out.trans hO2)
      have hw2:=hO2.size
      obtain ⟨xs2,ho2,hc2⟩:=HP2.out.parts HM
      have HX2:=Lib.hid ho2
      have HC2:=Lib.hid hc2
      clear ho2 hc2 hP2 hO2 c4 HB1 HR1 HP1 HO1
      go_wp2_with (at_builtin;refine wpList_append_lies _ rfl _ _ 69 rfl B 75 i0 (.agg #[.int .i64 0,.int .i64 0,.int .i64 0,.int .i64 0,.slice none 0 0]) 5 56 Tryz.underlying69 HI.out HZ0.out HZ1.out HZ2.out rfl (by decide) _ _ _ rfl ((HX2.out.alloc _).alloc _) ⟨_,0,none⟩ 1 1 [.int .i64 10,.int .i64 0,.int .i64 0,.int .i64 1,.slice (some ⟨w2.heap.size,0,none⟩) 1 1] rfl rfl ?b101 ?b102 (by decide) ?b103 ?b104 ?b105 _ rfl ?_)
      try (case b101=>exact news_cell (by simp) rfl)
      case b102 =>
       intro u hu
       simp only [List.mem_cons,List.not_mem_nil,or_false] at hu
       rcases hu with rfl | rfl | rfl | rfl | rfl <;> rfl
      case b103=>unfold maxLen;omega
      case b104=>omega
      case b105=>simp;omega
      intro g3 cap3 w3 hown' hg hat hlt'
      have hbA:=((Below.refl w2.heap.size w2).alloc (Nat.le_refl _) (.cells #[.int .i64 (cur.length:Int)] 3)).alloc (by simp) (.cells #[.int .i64 10,.int .i64 0,.int .i64 0,.int .i64 1,.slice (some ⟨w2.heap.size,0,none⟩) 1 1] 75)
      have hnv:NextV ((w2.alloc (.cells #[.int .i64 (cur.length:Int)] 3)).alloc (.cells #[.int .i64 10,.int .i64 0,.int .i64 0,.int .i64 1,.slice (some ⟨w2.heap.size,0,none⟩) 1 1] 75)) B (.slice (some ⟨w2.heap.size,0,none⟩) 1 1) [(cur.length:Int)] :=
       (NextV.lit (w:=w2) (B:=B) (by omega) [(cur.length:Int)]).below ((Below.refl _ _).alloc (Nat.le_refl _) _)
      obtain ⟨hP',hO'⟩:=PRow.appended_at (d:=⟨10,0,0,1,[(cur.length:Int)]⟩) HM ((HX2.out.alloc _).alloc _) (fun k d hd=>(HC2.out k d hd).kept (below_grown hbA) (fun g e=>by cases e)) hnv hg (hat.imp id fun e=>e.trans (by simp)) hown'
      have HP3:Hid (PRow w3 B (.slice (some ⟨g3,0,none⟩) (m+1) cap3) (cur++(⟨10,0,0,0,[]⟩:Nd) :: (T++[(⟨10,0,0,1,[(cur.length:Int)]⟩:Nd)]))):=by
       unfold Hid
       rw [List.append_assoc,List.cons_append] at hP'
       exact hP'
      have HO3:=Lib.hid (HO2.out.trans ((Onto.of_below hbA _).trans hO'))
      have hw3:=HO3.out.size
      have hgl3:=(HP3.out.own g3 rfl).2
      obtain ⟨⟨u4,hu4⟩,hf4⟩:=HP3.out.nextCell HM2 (show Hid (cur.length=cur.length) from rfl)
      have hcm2:cur.length<m+1:=by omega
      clear hown' hg hat hbA hnv hP' hO' HX2 HC2 HP2 HO2
      go_wp2_with fail
      obtain ⟨hP5,hO5⟩:=HP3.out.next_new (next:=[((cur.length+1:Nat):Int),((m+1:Nat):Int)]) HM2 (show Hid (cur.length=cur.length) from rfl) (by omega) rfl rfl
      have HP5:=Lib.hid hP5
      have HO5:=Lib.hid (hO.trans (HO3.out.trans hO5))
      clear hP5 hO5
      go_roundw
      case rel=>exact ⟨k+1,_,by omega,by go_num,HP5,HO5.out,by rw [← hst.out];exact hpt2⟩
      case measure=>simp [intOf];omega
     ·have hn9:(op==9)=false:=by simpa using e9
      have hn10:(op==10)=false:=by simpa using e10
      have hst:Hid (stPts op x y n cur.length t.npts e.npts (t.pts (cur.length+1)) (e.pts (cur.length+2+t.npts))=[⟨op,x,y,n,[((cur.length+1:Nat):Int)]⟩]):=by simp [Hid,stPts,e9,e10]
      have hln:cur.length≤4000000:=by omega
      go_wp2_with (at_builtin;refine wpList_append_lies _ rfl _ _ 69 rfl B 75 i0 (.agg #[.int .i64 0,.int .i64 0,.int .i64 0,.int .i64 0,.slice none 0 0]) 5 56 Tryz.underlying69 HI.out HZ0.out HZ1.out HZ2.out rfl (by decide) _ _ _ rfl (((HO.out.alloc _).alloc _).alloc _) ⟨_,0,none⟩ 1 1 [.int .i64 op,.int .i64 x,.int .i64 y,.int .i64 n,.slice (some ⟨wr.heap.size+1,0,none⟩) 1 1] rfl rfl ?d1 ?d2 (by decide) ?d3 ?d4 ?d5 _ rfl ?_)
      try (case d1=>exact news_cell (by simp) rfl)
      case d2 =>
       intro u hu
       simp only [List.mem_cons,List.not_mem_nil,or_false] at hu
       rcases hu with rfl | rfl | rfl | rfl | rfl <;> rfl
      case d3=>unfold maxLen;omega
      case d4=>omega
      case d5=>simp;omega
      intro g cap w' hown' hg hat hlt'
      have hzb:(wr.alloc (.cells #[.int .i64 op,.int .i64 x,.int .i64 y,.int .i64 n,.slice At t.len ct,.slice Ae e.len ce] 121)).heap.size=wr.heap.size+1:=by simp
      have hbA:=(((Below.refl wr.heap.size wr).alloc (Nat.le_refl _) (.cells #[.int .i64 op,.int .i64 x,.int .i64 y,.int .i64 n,.slice At t.len ct,.slice Ae e.len ce] 121)).alloc (by simp) (.cells #[.int .i64 ((cur.length:Int)+1)] 3)).alloc (by simp;omega) (.cells #[.int .i64 op,.int .i64 x,.int .i64 y,.int .i64 n,.slice (some ⟨wr.heap.size+1,0,none⟩) 1 1] 75)
      have hnv:NextV ((((wr.alloc (.cells #[.int .i64 op,.int .i64 x,.int .i64 y,.int .i64 n,.slice At t.len ct,.slice Ae e.len ce] 121))).alloc (.cells #[.int .i64 ((cur.length:Int)+1)] 3)).alloc (.cells #[.int .i64 op,.int .i64 x,.int .i64 y,.int .i64 n,.slice (some ⟨wr.heap.size+1,0,none⟩) 1 1] 75)) B (.slice (some ⟨wr.heap.size+1,0,none⟩) 1 1) [((cur.length+1:Nat):Int)]:=by
       have:=NextV.lit (w:=(wr.alloc (.cells #[.int .i64 op,.int .i64 x,.int .i64 y,.int .i64 n,.slice At t.len ct,.slice Ae e.len ce] 121))) (B:=B) (by simp;omega) [((cur.length+1:Nat):Int)]
       rw [hzb] at this
       exact this.below ((Below.refl _ _).alloc (Nat.le_refl _) _)
      obtain ⟨hP',hO'⟩:=PRow.appended (d:=⟨op,x,y,n,[((cur.length+1:Nat):Int)]⟩) (((HO.out.alloc _).alloc _).alloc _) (fun k d hd=>(HC.out k d hd).kept (below_grown hbA) (fun g e=>by cases e)) hnv hg (hat.imp id fun e=>e.trans (by simp)) hown'
      have HP':=Lib.hid hP'
      have HO':=Lib.hid (hO.trans ((Onto.of_below hbA _).trans hO'))
      clear hown' hg hat hnv hbA hP' hO' hO
      go_wp2_with fail
      go_roundw
      case rel=>exact ⟨k+1,_,by omega,by go_num,HP',HO'.out,by rw [← hst.out];exact hpt2⟩
      case measure=>simp [intOf];omega
   ·have hk':k=s.len:=by omega
    subst hk'
    have hfin:Hid (ns++s.pts ns.length=cur):=by
     unfold Hid
     rw [hpt.out,s.drop_len]
     simp [Sts.pts]
    clear hpt
    go_wp2_with fail
    go_ret
    exact ⟨_,rfl,by rw [hfin.out];exact hPc.out,hO⟩
end Go.Proofs.YtedkkphogeealaaGreatDoor
