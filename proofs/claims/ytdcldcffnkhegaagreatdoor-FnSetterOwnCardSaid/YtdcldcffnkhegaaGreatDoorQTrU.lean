/- The users of what points set,by the program: users. -/
import Derived.Test.YtdcldcffnkhegaaGreatDoorQTrI
import Derived.Test.YtdcldcffnkhegaaGreatDoorQFloG
import Derived.Test.YtdcldcffnkhegaaGreatDoorQTrP
import Derived.Test.YtdcldcffnkhegaaGreatDoorQBase
namespace Go.Proofs.YtdcldcffnkhegaaGreatDoor.tr
open Go.RowKit Go.Deep
set_option linter.unusedVariables false
def UsIn (w:World) (B:Nat) (P:Nat→Nat→Prop):Prop:=∃ us:Nat→Nat,KnAt w B us∧(∀ i,us i<2305843009213693952)∧∀ i,i<61→∀ a,((us i).testBit a=true↔P i a)
theorem UsIn.keep {w w':World} {B:Nat} {P:Nat→Nat→Prop} (h:UsIn w B P) (hb:Below w.heap.size w w'):UsIn w' B P:=by
 obtain ⟨us,h1,h2,h3⟩:=h
 exact ⟨us,h1.keep hb,h2,h3⟩
theorem UsIn.lt {w:World} {B:Nat} {P:Nat→Nat→Prop} (h:UsIn w B P):B<w.heap.size:=by
 obtain ⟨us,h1,h2,h3⟩:=h
 exact h1.lt
theorem UsIn.congr {w:World} {B:Nat} {P Q:Nat→Nat→Prop} (h:UsIn w B P) (e:∀ i,i<61→∀ a,(P i a↔Q i a)):UsIn w B Q:=by
 obtain ⟨us,h1,h2,h3⟩:=h
 exact ⟨us,h1,h2,fun i hi a=>(h3 i hi a).trans (e i hi a)⟩
theorem zero_sets:(#[.int .u64 0,.int .u64 0,.int .u64 0,.int .u64 0,.int .u64 0,.int .u64 0,.int .u64 0,.int .u64 0,.int .u64 0,.int .u64 0,.int .u64 0,.int .u64 0,.int .u64 0,.int .u64 0,.int .u64 0,.int .u64 0,.int .u64 0,.int .u64 0,.int .u64 0,.int .u64 0,.int .u64 0,.int .u64 0,.int .u64 0,.int .u64 0,.int .u64 0,.int .u64 0,.int .u64 0,.int .u64 0,.int .u64 0,.int .u64 0,.int .u64 0,.int .u64 0,.int .u64 0,.int .u64 0,.int .u64 0,.int .u64 0,.int .u64 0,.int .u64 0,.int .u64 0,.int .u64 0,.int .u64 0,.int .u64 0,.int .u64 0,.int .u64 0,.int .u64 0,.int .u64 0,.int .u64 0,.int .u64 0,.int .u64 0,.int .u64 0,.int .u64 0,.int .u64 0,.int .u64 0,.int .u64 0,.int .u64 0,.int .u64 0,.int .u64 0,.int .u64 0,.int .u64 0,.int .u64 0,.int .u64 0]:Array Value)=Array.replicate 61 (.int .u64 0):=rfl
theorem UsIn.new (w:World):UsIn (w.alloc (.cells #[.int .u64 0,.int .u64 0,.int .u64 0,.int .u64 0,.int .u64 0,.int .u64 0,.int .u64 0,.int .u64 0,.int .u64 0,.int .u64 0,.int .u64 0,.int .u64 0,.int .u64 0,.int .u64 0,.int .u64 0,.int .u64 0,.int .u64 0,.int .u64 0,.int .u64 0,.int .u64 0,.int .u64 0,.int .u64 0,.int .u64 0,.int .u64 0,.int .u64 0,.int .u64 0,.int .u64 0,.int .u64 0,.int .u64 0,.int .u64 0,.int .u64 0,.int .u64 0,.int .u64 0,.int .u64 0,.int .u64 0,.int .u64 0,.int .u64 0,.int .u64 0,.int .u64 0,.int .u64 0,.int .u64 0,.int .u64 0,.int .u64 0,.int .u64 0,.int .u64 0,.int .u64 0,.int .u64 0,.int .u64 0,.int .u64 0,.int .u64 0,.int .u64 0,.int .u64 0,.int .u64 0,.int .u64 0,.int .u64 0,.int .u64 0,.int .u64 0,.int .u64 0,.int .u64 0,.int .u64 0,.int .u64 0] 94)) w.heap.size (fun _ _=>False) :=
 ⟨fun _=>0,⟨_,heap_alloc_new w _,by rw [zero_sets];simp,fun i hi=>by rw [zero_sets,Array.getElem?_replicate,if_pos hi];rfl⟩,fun _=>(by decide:(0:Nat)<2305843009213693952),fun i hi a=>by simp⟩
theorem UsIn.add {w:World} {B:Nat} {P:Nat→Nat→Prop} {us:Nat→Nat} (h1:KnAt w B us) (h2:∀ i,us i<2305843009213693952) (h3:∀ i,i<61→∀ a,((us i).testBit a=true↔P i a)) {s k:Nat} (hs:s<61) (hk:k<61) :
  UsIn (w.setCell ⟨B,s,none⟩ (.int .u64 ((us s|||2 ^ k:Nat):Int))) B (fun i a=>P i a∨(i=s∧a=k)):=by
 have hp:2 ^ k<2305843009213693952:=(Nat.pow_lt_pow_right (by decide) hk:2 ^ k<2 ^ 61)
 refine ⟨setAt us s (us s|||2 ^ k),h1.put hs,fun i=>?_,fun i hi a=>?_⟩
 ·unfold setAt
  split
  ·exact or_lt61 (h2 s) hp
  ·exact h2 i
 ·unfold setAt
  by_cases his:i=s
  ·subst his
   rw [if_pos rfl,Nat.testBit_or,Bool.or_eq_true,h3 i hi,Nat.testBit_two_pow,decide_eq_true_eq]
   exact or_congr Iff.rfl ⟨fun h=>⟨rfl,h.symm⟩,fun h=>h.2.symm⟩
  ·rw [if_neg his,h3 i hi]
   exact ⟨.inl,fun h=>h.resolve_right (fun h9=>his h9.1)⟩
def UserB (ts:List Int) (ns:List Nd) (s a:Nat):Prop:=a<ns.length∧∃ v:Nat,v<6∧(∃ d,ns[a]?=some d∧useI ts d (v:Int)≠0)∧TrB 1 ts ns a v s
def UsPost (ts:List Int) (ns:List Nd) (w:World) (E:Ending) (w':World):Prop:=∃ (cs:Array Value) (us:Nat→Nat),E=.returned (.agg cs)∧cs.size=61∧(∀ i,i<61→cs[i]?=some (.int .u64 (us i:Int)))∧(∀ i,us i<2305843009213693952)∧(∀ i,i<61→∀ a,((us i).testBit a=true↔UserB ts ns i a))∧Below w.heap.size w w'
set_option maxRecDepth 100000 in
set_option maxHeartbeats 4000000 in
theorem users_any (ts:List Int) (ns:List Nd) (z C F hi:Nat) (A:Option Addr) (c:Nat) (ah bk:Nat→Nat) (w:World) (h:FlowsIn ts ns C F hi A c ah bk w) (hD:PtsOk z ns) (hA:AllTyped ts ns)
  (hTab:TabAt 0 Lib.deBruijn64tab w) (hg:0<w.heap.size) :
  Calls Tryz.prog 63 #[.pointer (some ⟨F,0,none⟩)] w (UsPost ts ns w):=by
 have hb0:=(Below.refl w.heap.size w).alloc (Nat.le_refl _) (.cells #[.int .u64 0,.int .u64 0,.int .u64 0,.int .u64 0,.int .u64 0,.int .u64 0,.int .u64 0,.int .u64 0,.int .u64 0,.int .u64 0,.int .u64 0,.int .u64 0,.int .u64 0,.int .u64 0,.int .u64 0,.int .u64 0,.int .u64 0,.int .u64 0,.int .u64 0,.int .u64 0,.int .u64 0,.int .u64 0,.int .u64 0,.int .u64 0,.int .u64 0,.int .u64 0,.int .u64 0,.int .u64 0,.int .u64 0,.int .u64 0,.int .u64 0,.int .u64 0,.int .u64 0,.int .u64 0,.int .u64 0,.int .u64 0,.int .u64 0,.int .u64 0,.int .u64 0,.int .u64 0,.int .u64 0,.int .u64 0,.int .u64 0,.int .u64 0,.int .u64 0,.int .u64 0,.int .u64 0,.int .u64 0,.int .u64 0,.int .u64 0,.int .u64 0,.int .u64 0,.int .u64 0,.int .u64 0,.int .u64 0,.int .u64 0,.int .u64 0,.int .u64 0,.int .u64 0,.int .u64 0,.int .u64 0] 94)
 have hz0:(w.alloc (.cells #[.int .u64 0,.int .u64 0,.int .u64 0,.int .u64 0,.int .u64 0,.int .u64 0,.int .u64 0,.int .u64 0,.int .u64 0,.int .u64 0,.int .u64 0,.int .u64 0,.int .u64 0,.int .u64 0,.int .u64 0,.int .u64 0,.int .u64 0,.int .u64 0,.int .u64 0,.int .u64 0,.int .u64 0,.int .u64 0,.int .u64 0,.int .u64 0,.int .u64 0,.int .u64 0,.int .u64 0,.int .u64 0,.int .u64 0,.int .u64 0,.int .u64 0,.int .u64 0,.int .u64 0,.int .u64 0,.int .u64 0,.int .u64 0,.int .u64 0,.int .u64 0,.int .u64 0,.int .u64 0,.int .u64 0,.int .u64 0,.int .u64 0,.int .u64 0,.int .u64 0,.int .u64 0,.int .u64 0,.int .u64 0,.int .u64 0,.int .u64 0,.int .u64 0,.int .u64 0,.int .u64 0,.int .u64 0,.int .u64 0,.int .u64 0,.int .u64 0,.int .u64 0,.int .u64 0,.int .u64 0,.int .u64 0] 94)).heap.size=w.heap.size+1:=by simp
 have hn0:=heap_alloc_new w (.cells #[.int .u64 0,.int .u64 0,.int .u64 0,.int .u64 0,.int .u64 0,.int .u64 0,.int .u64 0,.int .u64 0,.int .u64 0,.int .u64 0,.int .u64 0,.int .u64 0,.int .u64 0,.int .u64 0,.int .u64 0,.int .u64 0,.int .u64 0,.int .u64 0,.int .u64 0,.int .u64 0,.int .u64 0,.int .u64 0,.int .u64 0,.int .u64 0,.int .u64 0,.int .u64 0,.int .u64 0,.int .u64 0,.int .u64 0,.int .u64 0,.int .u64 0,.int .u64 0,.int .u64 0,.int .u64 0,.int .u64 0,.int .u64 0,.int .u64 0,.int .u64 0,.int .u64 0,.int .u64 0,.int .u64 0,.int .u64 0,.int .u64 0,.int .u64 0,.int .u64 0,.int .u64 0,.int .u64 0,.int .u64 0,.int .u64 0,.int .u64 0,.int .u64 0,.int .u64 0,.int .u64 0,.int .u64 0,.int .u64 0,.int .u64 0,.int .u64 0,.int .u64 0,.int .u64 0,.int .u64 0,.int .u64 0] 94)
 have htr:Calls Tryz.prog 69 #[.pointer (some ⟨F,0,none⟩),.iface 103 (.agg #[])] (w.alloc (.cells #[.int .u64 0,.int .u64 0,.int .u64 0,.int .u64 0,.int .u64 0,.int .u64 0,.int .u64 0,.int .u64 0,.int .u64 0,.int .u64 0,.int .u64 0,.int .u64 0,.int .u64 0,.int .u64 0,.int .u64 0,.int .u64 0,.int .u64 0,.int .u64 0,.int .u64 0,.int .u64 0,.int .u64 0,.int .u64 0,.int .u64 0,.int .u64 0,.int .u64 0,.int .u64 0,.int .u64 0,.int .u64 0,.int .u64 0,.int .u64 0,.int .u64 0,.int .u64 0,.int .u64 0,.int .u64 0,.int .u64 0,.int .u64 0,.int .u64 0,.int .u64 0,.int .u64 0,.int .u64 0,.int .u64 0,.int .u64 0,.int .u64 0,.int .u64 0,.int .u64 0,.int .u64 0,.int .u64 0,.int .u64 0,.int .u64 0,.int .u64 0,.int .u64 0,.int .u64 0,.int .u64 0,.int .u64 0,.int .u64 0,.int .u64 0,.int .u64 0,.int .u64 0,.int .u64 0,.int .u64 0,.int .u64 0] 94)) (Post 1 ts ns (w.alloc (.cells #[.int .u64 0,.int .u64 0,.int .u64 0,.int .u64 0,.int .u64 0,.int .u64 0,.int .u64 0,.int .u64 0,.int .u64 0,.int .u64 0,.int .u64 0,.int .u64 0,.int .u64 0,.int .u64 0,.int .u64 0,.int .u64 0,.int .u64 0,.int .u64 0,.int .u64 0,.int .u64 0,.int .u64 0,.int .u64 0,.int .u64 0,.int .u64 0,.int .u64 0,.int .u64 0,.int .u64 0,.int .u64 0,.int .u64 0,.int .u64 0,.int .u64 0,.int .u64 0,.int .u64 0,.int .u64 0,.int .u64 0,.int .u64 0,.int .u64 0,.int .u64 0,.int .u64 0,.int .u64 0,.int .u64 0,.int .u64 0,.int .u64 0,.int .u64 0,.int .u64 0,.int .u64 0,.int .u64 0,.int .u64 0,.int .u64 0,.int .u64 0,.int .u64 0,.int .u64 0,.int .u64 0,.int .u64 0,.int .u64 0,.int .u64 0,.int .u64 0,.int .u64 0,.int .u64 0,.int .u64 0,.int .u64 0] 94))):=traced_any 1 (by decide) ts ns z C F hi A c ah bk _ (h.keep hb0) hD hA (tab_below hTab hg hb0) (by rw [hz0];omega)
 have hle:=h.gr.le
 have HW:=Lib.hid h
 have HD:=Lib.hid hD
 have HA:=Lib.hid hA
 have HTAB:=Lib.hid hTab
 have HZ:=Lib.hid hz0
 have HN0:=Lib.hid hn0
 have hs6:(Tryz.zeroCells122).size=366:=by rw [zero_all];simp
 have HS6:=Lib.hid hs6
 clear h hD hA hTab hz0 hn0 hs6
 go_enter Tryz.func63,Tryz.ntmps63
 go_wp2_with fail
 refine htr.mono ?_
 rintro E w1 ⟨csK,kn,rfl,k2,k3,k4,hb1⟩
 rw [HZ.out] at hb1
 have hbw:Below w.heap.size w w1:=hb0.trans (hb1.mono (by omega))
 have hr0:=(hb1.block _ (by omega)).trans HN0.out
 have hba:=(Below.refl w1.heap.size w1).alloc (Nat.le_refl _) (.cells Tryz.zeroCells122 122)
 have hna:=heap_alloc_new w1 (.cells Tryz.zeroCells122 122)
 have hza:(w1.alloc (.cells Tryz.zeroCells122 122)).heap.size=w1.heap.size+1:=by simp
 have hlk:csK.toList.length=366:=by simpa using k2
 have hsz:(Tryz.prog.info? 122).map (·.size)=some 366:=by kernel_rfl
 have his:Hid ((Tryz.prog.info? 122).map (·.size)=some csK.size):=Lib.hid (by rw [hsz,k2])
 have hth:Hid ((w1.alloc (.cells Tryz.zeroCells122 122)).there w1.heap.size 0 csK.size):=Lib.hid (by rw [k2];exact there_row hna HS6.out)
 have hout:=heap_setCells csK.toList 0 (w1.alloc (.cells Tryz.zeroCells122 122)) _ hna (by rw [hlk,HS6.out];exact Nat.le_refl _)
 rw [setN_all _ csK (by rw [HS6.out,k2])] at hout
 have hbs:=below_setCells (b:=w1.heap.size) (o:=0) (vs:=csK.toList) hba (Nat.le_refl _) (by omega)
 have HK:Hid (LKn 122 ((w1.alloc (.cells Tryz.zeroCells122 122)).setCells w1.heap.size 0 csK.toList) w1.heap.size kn):=Lib.hid ⟨csK,hout,k2,k3⟩
 have HR0:=Lib.hid ((hbs.block _ (heap_lt hr0)).trans hr0)
 have HBW:=Lib.hid (hbw.trans (hbs.mono hbw.size))
 have HONE:=Lib.hid (lrows_one k2 k3)
 have HLT:=Lib.hid k4.lt
 have HBIT:Hid (∀ m v l,m<ns.length→v<6→((kn m v).testBit l=true↔TrB 1 ts ns m v l)):=Lib.hid (fun m v l hm hv=>k4.last (fun _ h=>h) (fun a b he=>eN_lt he) (fun k v l h=>genT_place 1 ns k v l h) (fun k u v l h=>handT_place 1 ts ns k u v l h) hm hv)
 have HZ1:Hid (((w1.alloc (.cells Tryz.zeroCells122 122)).setCells w1.heap.size 0 csK.toList).heap.size=w1.heap.size+1):=Lib.hid (by rw [size_setCells];exact hza)
 have HL1:Hid (w.heap.size<w1.heap.size):=Lib.hid (by have h1:=hb1.size;rw [HZ.out] at h1;omega)
 clear htr hb1 hbw hr0 hba hna hza hlk hsz hout hbs k2 k3 k4 hb0
 go_upto_region 2 with (((with_reducible show wpList _ _ _ _ _ _);refine wpList_store_mid rfl 122 _ _ rfl w1.heap.size 0 csK rfl rfl ?_ his.out HONE.out ?_;exact hth.out))
 obtain ⟨B3,hB3⟩:∃ B3,B3=w1.heap.size:=⟨_,rfl⟩
 rw [← hB3] at HK HR0 HBW HZ1 hth HL1 ⊢
 generalize (w1.alloc (.cells Tryz.zeroCells122 122)).setCells B3 0 csK.toList=w2 at *
 clear hth his HONE hB3 hle
 have hn4:=UsIn.new w2
 have hb4:=(Below.refl w2.heap.size w2).alloc (Nat.le_refl _) (.cells #[.int .u64 0,.int .u64 0,.int .u64 0,.int .u64 0,.int .u64 0,.int .u64 0,.int .u64 0,.int .u64 0,.int .u64 0,.int .u64 0,.int .u64 0,.int .u64 0,.int .u64 0,.int .u64 0,.int .u64 0,.int .u64 0,.int .u64 0,.int .u64 0,.int .u64 0,.int .u64 0,.int .u64 0,.int .u64 0,.int .u64 0,.int .u64 0,.int .u64 0,.int .u64 0,.int .u64 0,.int .u64 0,.int .u64 0,.int .u64 0,.int .u64 0,.int .u64 0,.int .u64 0,.int .u64 0,.int .u64 0,.int .u64 0,.int .u64 0,.int .u64 0,.int .u64 0,.int .u64 0,.int .u64 0,.int .u64 0,.int .u64 0,.int .u64 0,.int .u64 0,.int .u64 0,.int .u64 0,.int .u64 0,.int .u64 0,.int .u64 0,.int .u64 0,.int .u64 0,.int .u64 0,.int .u64 0,.int .u64 0,.int .u64 0,.int .u64 0,.int .u64 0,.int .u64 0,.int .u64 0,.int .u64 0] 94)
 have HU0:Hid (UsIn (w2.alloc (.cells #[.int .u64 0,.int .u64 0,.int .u64 0,.int .u64 0,.int .u64 0,.int .u64 0,.int .u64 0,.int .u64 0,.int .u64 0,.int .u64 0,.int .u64 0,.int .u64 0,.int .u64 0,.int .u64 0,.int .u64 0,.int .u64 0,.int .u64 0,.int .u64 0,.int .u64 0,.int .u64 0,.int .u64 0,.int .u64 0,.int .u64 0,.int .u64 0,.int .u64 0,.int .u64 0,.int .u64 0,.int .u64 0,.int .u64 0,.int .u64 0,.int .u64 0,.int .u64 0,.int .u64 0,.int .u64 0,.int .u64 0,.int .u64 0,.int .u64 0,.int .u64 0,.int .u64 0,.int .u64 0,.int .u64 0,.int .u64 0,.int .u64 0,.int .u64 0,.int .u64 0,.int .u64 0,.int .u64 0,.int .u64 0,.int .u64 0,.int .u64 0,.int .u64 0,.int .u64 0,.int .u64 0,.int .u64 0,.int .u64 0,.int .u64 0,.int .u64 0,.int .u64 0,.int .u64 0,.int .u64 0,.int .u64 0] 94)) w2.heap.size (fun s a=>a<0∧UserB ts ns s a)):=Lib.hid (hn4.congr fun i _ a=>⟨False.elim,fun h=>absurd h.1 (Nat.not_lt_zero _)⟩)
 have HK4:=Lib.hid (HK.out.keep hb4)
 have HR4:=Lib.hid ((hb4.block _ (heap_lt HR0.out)).trans HR0.out)
 have HB4:=Lib.hid (HBW.out.trans (hb4.mono HBW.out.size))
 have HZ4:Hid (B3<w2.heap.size):=Lib.hid HK.out.lt
 obtain ⟨B4,hB4⟩:∃ B4,B4=w2.heap.size:=⟨_,rfl⟩
 rw [← hB4] at HU0 HZ4
 clear hn4 hb4 HK HR0 HBW HZ1
 go_upto_region 3 with fail
 rw [← hB4]
 generalize w2.alloc (.cells #[.int .u64 0,.int .u64 0,.int .u64 0,.int .u64 0,.int .u64 0,.int .u64 0,.int .u64 0,.int .u64 0,.int .u64 0,.int .u64 0,.int .u64 0,.int .u64 0,.int .u64 0,.int .u64 0,.int .u64 0,.int .u64 0,.int .u64 0,.int .u64 0,.int .u64 0,.int .u64 0,.int .u64 0,.int .u64 0,.int .u64 0,.int .u64 0,.int .u64 0,.int .u64 0,.int .u64 0,.int .u64 0,.int .u64 0,.int .u64 0,.int .u64 0,.int .u64 0,.int .u64 0,.int .u64 0,.int .u64 0,.int .u64 0,.int .u64 0,.int .u64 0,.int .u64 0,.int .u64 0,.int .u64 0,.int .u64 0,.int .u64 0,.int .u64 0,.int .u64 0,.int .u64 0,.int .u64 0,.int .u64 0,.int .u64 0,.int .u64 0,.int .u64 0,.int .u64 0,.int .u64 0,.int .u64 0,.int .u64 0,.int .u64 0,.int .u64 0,.int .u64 0,.int .u64 0,.int .u64 0,.int .u64 0] 94)=w4 at *
 clear hB4
 have hfl:=HW.out.keep HB4.out
 have hgc:=hfl.grCell
 have hcnt:=hfl.gr.count
 have hle:=hfl.gr.le
 clear hfl
 go_wp2_with fail
 clear hgc hcnt
 go_loopw [21] (fun i wr=>∃ k:Nat,i=.int .i64 k∧k≤ns.length∧Hid (UsIn wr B4 (fun s a=>a<k∧UserB ts ns s a))∧Hid (LKn 122 wr B3 kn)∧Hid (wr.heap[w.heap.size]?=some (.cells #[.int .u64 0,.int .u64 0,.int .u64 0,.int .u64 0,.int .u64 0,.int .u64 0,.int .u64 0,.int .u64 0,.int .u64 0,.int .u64 0,.int .u64 0,.int .u64 0,.int .u64 0,.int .u64 0,.int .u64 0,.int .u64 0,.int .u64 0,.int .u64 0,.int .u64 0,.int .u64 0,.int .u64 0,.int .u64 0,.int .u64 0,.int .u64 0,.int .u64 0,.int .u64 0,.int .u64 0,.int .u64 0,.int .u64 0,.int .u64 0,.int .u64 0,.int .u64 0,.int .u64 0,.int .u64 0,.int .u64 0,.int .u64 0,.int .u64 0,.int .u64 0,.int .u64 0,.int .u64 0,.int .u64 0,.int .u64 0,.int .u64 0,.int .u64 0,.int .u64 0,.int .u64 0,.int .u64 0,.int .u64 0,.int .u64 0,.int .u64 0,.int .u64 0,.int .u64 0,.int .u64 0,.int .u64 0,.int .u64 0,.int .u64 0,.int .u64 0,.int .u64 0,.int .u64 0,.int .u64 0,.int .u64 0] 94 (0,0)))∧Hid (Below w.heap.size w wr)) (fun i _=>ns.length-(intOf i).toNat)
 case atStart=>exact ⟨0,rfl,Nat.zero_le _,HU0,HK4,HR4,HB4⟩
 case round =>
  clear HU0 HK4 HR4 HB4
  obtain ⟨k,rfl,hk,HU,HK,HR,HB⟩:=hrel
  by_cases hlt:k<ns.length
  ·obtain ⟨d,hd⟩:∃ d,ns[k]?=some d:=⟨ns[k],List.getElem?_eq_getElem hlt⟩
   have hk61:k<61:=by omega
   have hef:=effD_ok HA.out.1 (HA.out.2 k d hd)
   have hFr:=HW.out.keep HB.out
   obtain ⟨q0,q1,q2,q3⟩:=hFr.effCell hd
   have hr:=hef.rlt
   have ht:=hef.tlt
   have hc:=hef.clt
   have hs:=hef.slt
   have hul:(effD ts d).r|||(effD ts d).t|||(effD ts d).c<64:=Nat.or_lt_two_pow (n:=6) (Nat.or_lt_two_pow (n:=6) hr ht) hc
   have hu:=fun W=>uses_any (effD ts d).r (effD ts d).t (effD ts d).c (effD ts d).s hr ht hc W
   have HDK:=Lib.hid hd
   have HEF:=Lib.hid hef
   have ki0:(0:Int)≤(k:Int):=by omega
   have ki1:(k:Int)<61:=by omega
   obtain ⟨Z,hZ⟩:∃ Z,Z=(effD ts d).r|||(effD ts d).t|||(effD ts d).c:=⟨_,rfl⟩
   rw [← hZ] at hul
   simp only [← hZ] at hu
   have HZE:=Lib.hid hZ
   clear hd hef hFr hr ht hc hs hZ
   go_wp2_with fail
   refine (hu _).mono ?_
   rintro E w5 ⟨rfl,hb5⟩
   have HU5:=Lib.hid (HU.out.keep hb5)
   have HK5:=Lib.hid (HK.out.keep hb5)
   have HR5:=Lib.hid ((hb5.block _ (heap_lt HR.out)).trans HR.out)
   have HB5:=Lib.hid (HB.out.trans (hb5.mono HB.out.size))
   have hlsv:=setList_any Z (by omega) w5 (tab_below HTAB.out hg HB5.out) (by have:=HB5.out.size;omega)
   clear hu hb5 HU HK HR HB q0 q1 q2 q3
   go_wp2_with fail
   refine hlsv.mono ?_
   rintro E w6 ⟨vv,rfl,hrow,hb5⟩
   obtain ⟨Arv,crv,hvs⟩:=hrow.slice
   subst hvs
   obtain ⟨vs,hbl⟩:∃ bl,bl=bitsOf Z:=⟨_,rfl⟩
   have hll:(intsOf Z).length=vs.length:=by rw [hbl];simp [intsOf]
   have hlen64v:=intsOf_length Z
   have HROWv:Hid (RowI w6 w5.heap.size (.slice Arv vs.length crv) (intsOf Z)):=by rw [← hll];exact hrow.mono (Nat.le_refl _)
   rw [hll] at hlen64v
   have HBLv:=Lib.hid hbl
   have HLIv:Hid (intsOf Z=vs.map (fun (k:Nat)=>(k:Int))):=by rw [hbl];rfl
   have HU6:Hid (UsIn w6 B4 (fun s a=>(a<k∧UserB ts ns s a)∨(a=k∧∃ j' v,j'<0∧vs[j']?=some v∧TrB 1 ts ns k v s))):=Lib.hid ((HU5.out.keep hb5).congr fun i _ a=>⟨.inl,fun h=>h.resolve_right (fun h9=>by obtain ⟨_,j',v,h8,_⟩:=h9;exact absurd h8 (Nat.not_lt_zero _))⟩)
   have HK6:=Lib.hid (HK5.out.keep hb5)
   have HR6:=Lib.hid ((hb5.block _ (heap_lt HR5.out)).trans HR5.out)
   have HB6:=Lib.hid (HB5.out.trans (hb5.mono HB5.out.size))
   have HLB:Hid (B4+1≤w5.heap.size):=Lib.hid HU5.out.lt
   rw [hll]
   clear hrow hb5 hll hbl hlsv HU5 HK5 HR5 HB5
   go_wp2_with fail
   go_loopw [33] (fun i wr=>∃ j:Nat,i=.int .i64 j∧j≤vs.length∧Hid (UsIn wr B4 (fun s a=>(a<k∧UserB ts ns s a)∨(a=k∧∃ j' v,j'<j∧vs[j']?=some v∧TrB 1 ts ns k v s)))∧Hid (LKn 122 wr B3 kn)∧Hid (wr.heap[w.heap.size]?=some (.cells #[.int .u64 0,.int .u64 0,.int .u64 0,.int .u64 0,.int .u64 0,.int .u64 0,.int .u64 0,.int .u64 0,.int .u64 0,.int .u64 0,.int .u64 0,.int .u64 0,.int .u64 0,.int .u64 0,.int .u64 0,.int .u64 0,.int .u64 0,.int .u64 0,.int .u64 0,.int .u64 0,.int .u64 0,.int .u64 0,.int .u64 0,.int .u64 0,.int .u64 0,.int .u64 0,.int .u64 0,.int .u64 0,.int .u64 0,.int .u64 0,.int .u64 0,.int .u64 0,.int .u64 0,.int .u64 0,.int .u64 0,.int .u64 0,.int .u64 0,.int .u64 0,.int .u64 0,.int .u64 0,.int .u64 0,.int .u64 0,.int .u64 0,.int .u64 0,.int .u64 0,.int .u64 0,.int .u64 0,.int .u64 0,.int .u64 0,.int .u64 0,.int .u64 0,.int .u64 0,.int .u64 0,.int .u64 0,.int .u64 0,.int .u64 0,.int .u64 0,.int .u64 0,.int .u64 0,.int .u64 0,.int .u64 0] 94 (0,0)))∧Hid (Below w.heap.size w wr)∧Hid (RowI wr w5.heap.size (.slice Arv vs.length crv) (intsOf Z))) (fun i _=>vs.length-(intOf i).toNat)
   case atStart=>exact ⟨0,rfl,Nat.zero_le _,HU6,HK6,HR6,HB6,HROWv⟩
   case round =>
    clear HU6 HK6 HR6 HB6 HROWv
    obtain ⟨j,rfl,hj,HU,HK,HR,HB,HROWv⟩:=hrel
    by_cases hjlv:j<vs.length
    ·obtain ⟨b,hbv⟩:∃ b,vs[j]?=some b:=⟨vs[j],List.getElem?_eq_getElem hjlv⟩
     have hbmv:b∈bitsOf Z:=by rw [← HBLv.out];exact List.mem_of_getElem? hbv
     have hbtv:=((mem_bitsOf _ _).mp hbmv)
     obtain ⟨b0v,u,hb0,-,hbb,hxx,hcv⟩:=(RowI.intsV HROWv.out).elem (k:=j) (by rw [HLIv.out];simpa using hjlv)
     subst hb0
     have hub:u=(b:Int):=by
      rw [HLIv.out,List.getElem?_map,hbv] at hxx
      simpa using hxx.symm
     subst hub
     have hb6:b<6:=by
      rcases Nat.lt_or_ge b 6 with h8 | h8
      ·exact h8
      ·have h9:=hbtv.2
       rw [Nat.testBit_lt_two_pow (Nat.lt_of_lt_of_le hul (Nat.pow_le_pow_right (by decide) h8:2 ^ 6≤2 ^ b))] at h9
       cases h9
     have hcK:=HK.out.cell hk61 hb6
     have bi0:(0:Int)≤(b:Int):=by omega
     have bi1:(b:Int)<6:=by omega
     have ji0:(0:Int)≤(j:Int):=by omega
     have ji1:(j:Int)<(vs.length:Int):=by omega
     obtain ⟨y,hy⟩:∃ y,y=kn k b:=⟨_,rfl⟩
     rw [← hy] at hcK
     have hy61:y<2305843009213693952:=by rw [hy];exact HLT.out k b
     have HY:=Lib.hid hy
     have HBV:=Lib.hid hbv
     have hlss:=fun W=>setList_any y (by omega) W
     obtain ⟨wt,rfl⟩:∃ z9,z9=wr:=⟨_,rfl⟩
     have hlss:=setList_any y (by omega) wt (tab_below HTAB.out hg HB.out) (by have:=HB.out.size;omega)
     clear hy hbv hbmv hbtv hxx
     go_wp2_with fail
     refine hlss.mono ?_
     rintro E w6s ⟨vs,rfl,hrow,hb5⟩
     obtain ⟨Ars,crs,hvs⟩:=hrow.slice
     subst hvs
     obtain ⟨ss,hbl⟩:∃ bl,bl=bitsOf y:=⟨_,rfl⟩
     have hll:(intsOf y).length=ss.length:=by rw [hbl];simp [intsOf]
     have hlen64s:=intsOf_length y
     have HROWs:Hid (RowI w6s wt.heap.size (.slice Ars ss.length crs) (intsOf y)):=by rw [← hll];exact hrow.mono (Nat.le_refl _)
     rw [hll] at hlen64s
     have HBLs:=Lib.hid hbl
     have HLIs:Hid (intsOf y=ss.map (fun (k:Nat)=>(k:Int))):=by rw [hbl];rfl
     have HU6:Hid (UsIn w6s B4 (fun s a=>((a<k∧UserB ts ns s a)∨(a=k∧∃ j' v,j'<j∧vs[j']?=some v∧TrB 1 ts ns k v s))∨(a=k∧∃ i',i'<0∧ss[i']?=some s))):=Lib.hid ((HU.out.keep hb5).congr fun i _ a=>⟨.inl,fun h=>h.resolve_right (fun h9=>by obtain ⟨_,i',h8,_⟩:=h9;exact absurd h8 (Nat.not_lt_zero _))⟩)
     have HK6:=Lib.hid (HK.out.keep hb5)
     have HR6:=Lib.hid ((hb5.block _ (heap_lt HR.out)).trans HR.out)
     have HB6:=Lib.hid (HB.out.trans (hb5.mono HB.out.size))
     have HRV6:=Lib.hid (RowI.below HROWv.out hb5)
     have HLS:Hid (B4+1≤wt.heap.size):=Lib.hid HU.out.lt
     rw [hll]
     clear hrow hb5 hll hbl hlss HU HK HR HB HROWv
     go_wp2_with fail
     go_loopw [44] (fun i wr=>∃ i':Nat,i=.int .i64 i'∧i'≤ss.length∧Hid (UsIn wr B4 (fun s a=>((a<k∧UserB ts ns s a)∨(a=k∧∃ j' v,j'<j∧vs[j']?=some v∧TrB 1 ts ns k v s))∨(a=k∧∃ i2,i2<i'∧ss[i2]?=some s)))∧Hid (LKn 122 wr B3 kn)∧Hid (wr.heap[w.heap.size]?=some (.cells #[.int .u64 0,.int .u64 0,.int .u64 0,.int .u64 0,.int .u64 0,.int .u64 0,.int .u64 0,.int .u64 0,.int .u64 0,.int .u64 0,.int .u64 0,.int .u64 0,.int .u64 0,.int .u64 0,.int .u64 0,.int .u64 0,.int .u64 0,.int .u64 0,.int .u64 0,.int .u64 0,.int .u64 0,.int .u64 0,.int .u64 0,.int .u64 0,.int .u64 0,.int .u64 0,.int .u64 0,.int .u64 0,.int .u64 0,.int .u64 0,.int .u64 0,.int .u64 0,.int .u64 0,.int .u64 0,.int .u64 0,.int .u64 0,.int .u64 0,.int .u64 0,.int .u64 0,.int .u64 0,.int .u64 0,.int .u64 0,.int .u64 0,.int .u64 0,.int .u64 0,.int .u64 0,.int .u64 0,.int .u64 0,.int .u64 0,.int .u64 0,.int .u64 0,.int .u64 0,.int .u64 0,.int .u64 0,.int .u64 0,.int .u64 0,.int .u64 0,.int .u64 0,.int .u64 0,.int .u64 0,.int .u64 0] 94 (0,0)))∧Hid (Below w.heap.size w wr)∧Hid (RowI wr w5.heap.size (.slice (some b0v) vs.length crv) (intsOf Z))∧Hid (RowI wr wt.heap.size (.slice Ars ss.length crs) (intsOf y))) (fun i _=>ss.length-(intOf i).toNat)
     case atStart=>exact ⟨0,rfl,Nat.zero_le _,HU6,HK6,HR6,HB6,HRV6,HROWs⟩
     case round =>
      clear HU6 HK6 HR6 HB6 HRV6 HROWs
      obtain ⟨i',rfl,hi',HU,HK,HR,HB,HRV,HROWs⟩:=hrel
      by_cases hjls:i'<ss.length
      ·obtain ⟨s,hbs⟩:∃ b,ss[i']?=some b:=⟨ss[i'],List.getElem?_eq_getElem hjls⟩
       have hbms:s∈bitsOf y:=by rw [← HBLs.out];exact List.mem_of_getElem? hbs
       have hbts:=((mem_bitsOf _ _).mp hbms)
       obtain ⟨b0s,u,hb0,-,hbb,hxx,hcs⟩:=(RowI.intsV HROWs.out).elem (k:=i') (by rw [HLIs.out];simpa using hjls)
       subst hb0
       have hub:u=(s:Int):=by
        rw [HLIs.out,List.getElem?_map,hbs] at hxx
        simpa using hxx.symm
       subst hub
       have hs61:s<61:=by
        rcases Nat.lt_or_ge s 61 with h8 | h8
        ·exact h8
        ·have h9:=hbts.2
         rw [Nat.testBit_lt_two_pow (Nat.lt_of_lt_of_le (show y<2 ^ 61 from hy61) (Nat.pow_le_pow_right (by decide) h8:2 ^ 61≤2 ^ s))] at h9
         cases h9
       obtain ⟨us,u1,u2,u3⟩:=HU.out
       have cu:=u1.cell hs61
       have fu:=u1.soft s
       have hux:=u2 s
       have si0:(0:Int)≤(s:Int):=by omega
       have si1:(s:Int)<61:=by omega
       have ii0:(0:Int)≤(i':Int):=by omega
       have ii1:(i':Int)<(ss.length:Int):=by omega
       have U1:=Lib.hid u1
       have U2:=Lib.hid u2
       have U3:=Lib.hid u3
       have HSS:=Lib.hid hbs
       have HCU:=Lib.hid cu
       have HFU:=Lib.hid fu
       have hwi:=with_any (us s) k (by omega) (by omega)
       clear u1 u2 u3 hbs hbms hbts hxx HU
       go_wp2_with fail
       refine (hwi _).mono ?_
       rintro E w8 ⟨rfl,hb8⟩
       have U18:=Lib.hid (U1.out.keep hb8)
       have HK8:=Lib.hid (HK.out.keep hb8)
       have HR8:=Lib.hid ((hb8.block _ (heap_lt HR.out)).trans HR.out)
       have HB8:=Lib.hid (HB.out.trans (hb8.mono HB.out.size))
       have HRV8:=Lib.hid (RowI.below HRV.out hb8)
       have HRS8:=Lib.hid (RowI.below HROWs.out hb8)
       have c8:=U18.out.cell hs61
       have f8:=U18.out.soft s
       have HL4:Hid (w.heap.size<B4∧B3<B4):=Lib.hid ⟨by have:=HZ4.out;have:=HL1.out;omega,HZ4.out⟩
       clear hwi hb8 HK HR HB HRV HROWs cu fu U1
       have HUN:=Lib.hid ((UsIn.add U18.out U2.out U3.out hs61 hk61).congr (Q:=fun s' a=>((a<k∧UserB ts ns s' a)∨(a=k∧∃ j' v,j'<j∧vs[j']?=some v∧TrB 1 ts ns k v s'))∨(a=k∧∃ i2,i2<i'+1∧ss[i2]?=some s')) fun i _ a=>by
        constructor
        ·rintro ((h | ⟨h1,i2,h2,h3⟩) | ⟨rfl,rfl⟩)
         ·exact .inl h
         ·exact .inr ⟨h1,i2,by omega,h3⟩
         ·exact .inr ⟨rfl,i',by omega,HSS.out⟩
        ·rintro (h | ⟨h1,i2,h2,h3⟩)
         ·exact .inl (.inl h)
         ·by_cases hii:i2=i'
          ·subst hii
           rw [HSS.out] at h3
           exact .inr ⟨(Option.some.inj h3).symm,h1⟩
          ·exact .inl (.inr ⟨h1,i2,by omega,h3⟩))
       have hoth:∀ g,g≠B4→(w8.setCell ⟨B4,s,none⟩ (.int .u64 ((us s|||2 ^ k:Nat):Int))).heap[g]?=w8.heap[g]?:=fun g h9=>heap_setCell_other _ _ _ _ h9
       have HKN:Hid (LKn 122 (w8.setCell ⟨B4,s,none⟩ (.int .u64 ((us s|||2 ^ k:Nat):Int))) B3 kn):=Lib.hid (by obtain ⟨cs,x1,x2,x3⟩:=HK8.out;exact ⟨cs,(hoth _ (by have:=HL4.out;omega)).trans x1,x2,x3⟩)
       have HRN:=Lib.hid ((hoth w.heap.size (by have:=HL4.out;omega)).trans HR8.out)
       have HBN:Hid (Below w.heap.size w (w8.setCell ⟨B4,s,none⟩ (.int .u64 ((us s|||2 ^ k:Nat):Int)))):=Lib.hid (below_set HB8.out (by have:=HL4.out;omega))
       have HRVN:Hid (RowI (w8.setCell ⟨B4,s,none⟩ (.int .u64 ((us s|||2 ^ k:Nat):Int))) w5.heap.size (.slice (some b0v) vs.length crv) (intsOf Z)):=RowI.keep HRV8.out fun g hg'=>hoth g (by have:=(RowI.lt HRV8.out g hg').1;have:=HLB.out;omega)
       have HRSN:Hid (RowI (w8.setCell ⟨B4,s,none⟩ (.int .u64 ((us s|||2 ^ k:Nat):Int))) wt.heap.size (.slice (some b0s) ss.length crs) (intsOf y)):=RowI.keep HRS8.out fun g hg'=>hoth g (by have:=(RowI.lt HRS8.out g hg').1;have:=HLS.out;omega)
       clear hoth U18 U2 U3 HK8 HR8 HB8 HRV8 HRS8
       go_wp2_with fail
       refine ⟨⟨i'+1,by simp,by omega,HUN,HKN,HRN,HBN,HRVN,HRSN⟩,?_⟩
       simp only [intOf]
       omega
      ·have hie:i'=ss.length:=by omega
       have HUN:=Lib.hid (HU.out.congr (Q:=fun s a=>(a<k∧UserB ts ns s a)∨(a=k∧∃ j' v,j'<j+1∧vs[j']?=some v∧TrB 1 ts ns k v s)) fun s _ a=>by
        have hmem:(∃ i2,i2<i'∧ss[i2]?=some s)↔TrB 1 ts ns k b s:=by
         rw [← HBIT.out k b s hlt hb6,← HY.out]
         have hm:s∈ss↔s<64∧y.testBit s=true:=by rw [HBLs.out];exact mem_bitsOf _ _
         constructor
         ·rintro ⟨i2,_,h3⟩
          exact (hm.mp (List.mem_of_getElem? h3)).2
         ·intro h
          have hs64:s<64:=by
           rcases Nat.lt_or_ge s 64 with h8 | h8
           ·exact h8
           ·rw [Nat.testBit_lt_two_pow (Nat.lt_of_lt_of_le (show y<2 ^ 64 from by omega) (Nat.pow_le_pow_right (by decide) h8:2 ^ 64≤2 ^ s))] at h
            cases h
          obtain ⟨i2,h2,h3⟩:=List.mem_iff_getElem.mp (hm.mpr ⟨hs64,h⟩)
          exact ⟨i2,by omega,by rw [List.getElem?_eq_getElem h2,h3]⟩
        constructor
        ·rintro ((h | ⟨h1,j',v,h2,h3,h4⟩) | ⟨h1,h2⟩)
         ·exact .inl h
         ·exact .inr ⟨h1,j',v,by omega,h3,h4⟩
         ·exact .inr ⟨h1,j,b,by omega,HBV.out,hmem.mp h2⟩
        ·rintro (h | ⟨h1,j',v,h2,h3,h4⟩)
         ·exact .inl (.inl h)
         ·by_cases hjj:j'=j
          ·subst hjj
           rw [HBV.out] at h3
           injection h3 with h3
           subst h3
           exact .inr ⟨h1,hmem.mpr h4⟩
          ·exact .inl (.inr ⟨h1,j',v,by omega,h3,h4⟩))
       clear HU HROWs hie
       go_wp2_with fail
       refine ⟨⟨j+1,by simp,by omega,HUN,HK,HR,HB,HRV⟩,?_⟩
       simp only [intOf]
       omega
    ·have hje:j=vs.length:=by omega
     have HUN:=Lib.hid (HU.out.congr (Q:=fun s a=>a<k+1∧UserB ts ns s a) fun s _ a=>by
      have hmem:∀ v,v<6→((∃ j',j'<j∧vs[j']?=some v)↔useI ts d (v:Int)≠0):=fun v hv=>by
       have hm:v∈vs↔v<64∧Z.testBit v=true:=by rw [HBLv.out];exact mem_bitsOf _ _
       rw [HZE.out,HEF.out.uses v (by omega)] at hm
       constructor
       ·rintro ⟨j',_,h3⟩
        exact (hm.mp (List.mem_of_getElem? h3)).2
       ·intro h
        obtain ⟨i2,h2,h3⟩:=List.mem_iff_getElem.mp (hm.mpr ⟨by omega,h⟩)
        exact ⟨i2,by omega,by rw [List.getElem?_eq_getElem h2,h3]⟩
      constructor
      ·rintro (⟨h1,h2⟩ | ⟨rfl,j',v,h2,h3,h4⟩)
       ·exact ⟨by omega,h2⟩
       ·have hv:=Nat.lt_of_lt_of_le (TrB.dom HA.out h4).1 HA.out.1
        exact ⟨by omega,hlt,v,hv,⟨d,HDK.out,(hmem v hv).mp ⟨j',h2,h3⟩⟩,h4⟩
      ·rintro ⟨h1,h2⟩
       by_cases hak:a=k
       ·subst hak
        obtain ⟨_,v,hv,⟨d',hd',hu'⟩,h4⟩:=h2
        rw [HDK.out] at hd'
        injection hd' with hd'
        subst hd'
        obtain ⟨j',h5,h6⟩:=(hmem v hv).mpr hu'
        exact .inr ⟨rfl,j',v,h5,h6,h4⟩
       ·exact .inl ⟨by omega,h2⟩)
     clear HU HROWv hje
     go_wp2_with fail
     refine ⟨⟨k+1,by simp,by omega,HUN,HK,HR,HB⟩,?_⟩
     simp only [intOf]
     omega
  ·have hke:k=ns.length:=by omega
   obtain ⟨us,⟨csU,u1,uz,uc⟩,u2,u3⟩:=HU.out
   have hu:=Tryz.underlying94
   have hsz:(Tryz.prog.info? 94).map (·.size)=some 61:=by kernel_rfl
   have hlk:csU.toList.length=61:=by simpa using uz
   have hil:(Tryz.prog.info? 94).map (·.size)=some csU.toList.length:=by rw [hsz,hlk]
   have his:(Tryz.prog.info? 94).map (·.size)=some csU.size:=by rw [hsz,uz]
   have hrg:=range_row u1
   have hzs:(#[.int .u64 0,.int .u64 0,.int .u64 0,.int .u64 0,.int .u64 0,.int .u64 0,.int .u64 0,.int .u64 0,.int .u64 0,.int .u64 0,.int .u64 0,.int .u64 0,.int .u64 0,.int .u64 0,.int .u64 0,.int .u64 0,.int .u64 0,.int .u64 0,.int .u64 0,.int .u64 0,.int .u64 0,.int .u64 0,.int .u64 0,.int .u64 0,.int .u64 0,.int .u64 0,.int .u64 0,.int .u64 0,.int .u64 0,.int .u64 0,.int .u64 0,.int .u64 0,.int .u64 0,.int .u64 0,.int .u64 0,.int .u64 0,.int .u64 0,.int .u64 0,.int .u64 0,.int .u64 0,.int .u64 0,.int .u64 0,.int .u64 0,.int .u64 0,.int .u64 0,.int .u64 0,.int .u64 0,.int .u64 0,.int .u64 0,.int .u64 0,.int .u64 0,.int .u64 0,.int .u64 0,.int .u64 0,.int .u64 0,.int .u64 0,.int .u64 0,.int .u64 0,.int .u64 0,.int .u64 0,.int .u64 0]:Array Value).size=61:=by rw [zero_sets];simp
   have hth2:wr.there w.heap.size 0 csU.size:=by rw [uz];exact there_row HR.out hzs
   have hone:csU.all (·.oneCell')=true:=by
    rw [Array.all_eq_true_iff_forall_mem]
    intro x hx
    obtain ⟨i,hi,rfl⟩:=Array.mem_iff_getElem.mp hx
    have h9:=uc i (by omega)
    rw [Array.getElem?_eq_getElem hi] at h9
    injection h9 with h9
    rw [h9]
    rfl
   have hFIN:UsPost ts ns w (.returned (.agg csU)) (wr.setCells w.heap.size 0 csU.toList):=⟨csU,us,rfl,uz,uc,u2,fun i hi a=>(u3 i hi a).trans ⟨fun h=>h.2,fun h=>⟨by rw [hke];exact h.1,h⟩⟩,below_setCells HB.out (by omega) HB.out.size⟩
   have hout:=heap_setCells csU.toList 0 wr _ HR.out (by rw [hlk,hzs];exact Nat.le_refl _)
   rw [setN_all _ csU (by rw [hzs,uz])] at hout
   have HFIN:=Lib.hid hFIN
   have HOUT:=Lib.hid hout
   clear hFIN hout hsz uc HU HK HR HB hke u2 u3 u1 hzs
   go_wp2_with (first
    | ((with_reducible show wpList _ _ _ _ _ _);refine wpList_load_mid rfl 94 _ rfl B4 0 rfl csU.toList _ ?_ hu rfl hil ?_;exact hrg)
    | ((with_reducible show wpList _ _ _ _ _ _);refine wpList_store_mid rfl 94 _ _ rfl w.heap.size 0 csU rfl rfl ?_ his hone ?_;exact hth2))
   refine bodyPost_ret (v:=.agg csU) ?_ rfl HFIN.out
   exact flowSome.results_one_row rfl Tryz.prog _ _ w.heap.size csU rfl (run_loadVar_row _ _ _ _ csU (0,0) _ HOUT.out hu rfl his)
end Go.Proofs.YtdcldcffnkhegaaGreatDoor.tr
namespace Go.Proofs.YtdcldcffnkhegaaGreatDoor.tr
open Go.RowKit Go.Deep
set_option linter.unusedVariables false
theorem index_set {cs:Array Value} {us:Nat→Nat} (h:∀ i,i<61→cs[i]?=some (.int .u64 (us i:Int))) {k:Nat} (hk:k<61) (w:World):(Instr.index 94 (.agg cs) (.int .i64 (k:Int))).run Tryz.prog w=.ok (.int .u64 (us k:Int)) w:=by
 have hu:=Tryz.underlying94
 have hs:(sizeOf 55).run Tryz.prog w=.ok 1 w:=by kernel_rfl
 have hb:(0:Int)≤(k:Int)∧(k:Int)<61:=by omega
 have hc:=h k hk
 simp [Instr.index,run_underlying hu,asIntOf,hs,hb,hk,hc,Result.andThen,go_sem]
theorem userB_lt {ts:List Int} {ns:List Nd} {s a:Nat} (hle:ns.length≤61) (h:UserB ts ns s a):a<64:=by
 have:=h.1
 omega
theorem ans_users {ts:List Int} {s:Sts} {k:Nat} {x:Nat} (hv:validB ts s=true) (hk:k<(progPts s).length) (hx:∀ a,(x.testBit a=true↔UserB ts (progPts s) k a)):AnsAt (UserB ts) (validB ts s) s (k:Int) (intsOf x):=by
 have hle:(progPts s).length≤61:=by
  have h8:=s.npts_le
  have h9:=valid_size hv
  rw [progPts_len]
  omega
 refine .inl ⟨hv,by omega,by omega,fun j=>x.testBit j,by unfold intsOf;rw [bitsOf_filter],fun l=>?_⟩
 rw [Int.toNat_natCast]
 exact ⟨fun h=>(hx l).mp h.2,fun h=>⟨userB_lt hle h,(hx l).mpr h⟩⟩
set_option maxRecDepth 100000 in
set_option maxHeartbeats 4000000 in
theorem implUsersOf_any (ts:List Int) (s:Sts) (At As:Option Addr) (ct cs:Nat) (a:Int) (w:World) (hT:IntsV w 0 w.heap.size ts At ct) (hR:RepV w 0 w.heap.size s As cs)
  (hTab:TabAt 0 Lib.deBruijn64tab w) (hg:0<w.heap.size) :
  Calls Tryz.prog 31 #[.agg #[.slice At ts.length ct,.slice As s.len cs],.int .i64 a] w fun E w'=>∃ v' l,E=.returned v'∧RowI w' w.heap.size v' l∧AnsAt (UserB ts) (validB ts s) s a l∧Below w.heap.size w w':=by
 have hb0:=(Below.refl w.heap.size w).alloc (Nat.le_refl _) (.cells #[.slice At ts.length ct,.slice As s.len cs] 26)
 have hz0:(w.alloc (.cells #[.slice At ts.length ct,.slice As s.len cs] 26)).heap.size=w.heap.size+1:=by simp
 have HZ:=Lib.hid hz0
 have hnil:∀ W:World,RowI W w.heap.size (.slice none 0 0) []:=fun W=>World.ownsRow_nil W w.heap.size 3 1
 cases hok:validB ts s
 ·have hS:=flowsOf_no ts s At As ct cs _ hok (hT.below hb0 (by simp)) (hR.below hb0 (by simp))
  clear hz0 hok
  go_enter Tryz.func31,Tryz.ntmps31
  go_wp2_with fail
  refine hS.mono ?_
  rintro E w1 ⟨rfl,hb1⟩
  rw [HZ.out] at hb1
  have hb:Below w.heap.size w w1:=hb0.trans (hb1.mono (by omega))
  clear hb1 hS hb0
  go_wp2_with fail
  go_ret
  exact ⟨_,[],rfl,hnil _,.inr ⟨fun h=>(by cases h.1),rfl⟩,by first | exact hb | exact hb.drew⟩
 ·have hS:=flowsOf_yes ts s At As ct cs _ hok (hT.below hb0 (by simp)) (hR.below hb0 (by simp))
  have hA:=progPts_allTyped hok
  have hD:=progPts_ok s (valid_ok hok).2.1
  by_cases hin:0≤a∧a<((progPts s).length:Int)
  ·obtain ⟨h0,h1⟩:=hin
   obtain ⟨k,rfl⟩:∃ k:Nat,a=(k:Int):=⟨a.toNat,by omega⟩
   have hmk:∀ x:Nat,(∀ b,(x.testBit b=true↔UserB ts (progPts s) k b))→AnsAt (UserB ts) true s (k:Int) (intsOf x):=fun x hx=>by
    have h9:=ans_users hok (by omega) hx
    rwa [hok] at h9
   generalize progPts s=ds at hS h1 hA hD hmk
   generalize s.npts=zq at hD
   have hkl:k<ds.length:=by omega
   have HD:=Lib.hid hD
   have HA:=Lib.hid hA
   have HMK:=Lib.hid hmk
   clear hz0 hok hA hD hT hR hmk
   go_enter Tryz.func31,Tryz.ntmps31
   go_wp2_with fail
   refine hS.mono ?_
   rintro E w1 ⟨C,F,hi,A2,c2,ah,bk,rfl,hF,hfl,hb1⟩
   rw [HZ.out] at hb1
   have HB:=Lib.hid (hb0.trans (hb1.mono (by omega)))
   have hgc:=hfl.grCell
   have hhas:=has_yes C k ds w1 hfl.gr hkl
   have HFL:=Lib.hid hfl
   have hk61:k<61:=by have:=hfl.gr.le;omega
   clear hfl hb1 hS hb0
   go_wp2_with fail
   refine hhas.mono ?_
   rintro E w2 ⟨rfl,hb2⟩
   have HFL2:=Lib.hid (HFL.out.keep hb2)
   have HB2:=Lib.hid (HB.out.trans (hb2.mono HB.out.size))
   have hus:=users_any ts ds zq C F hi A2 c2 ah bk w2 HFL2.out HD.out HA.out (tab_below hTab hg HB2.out) (by have:=HB2.out.size;omega)
   clear hhas hb2 hgc HFL HB
   go_wp2_with fail
   refine hus.mono ?_
   rintro E w5 ⟨csU,us,rfl,u1,u2,u3,u4,hb5⟩
   have HB5:=Lib.hid (HB2.out.trans (hb5.mono HB2.out.size))
   have ki0:(0:Int)≤(k:Int):=by omega
   have ki1:(k:Int)<61:=by omega
   have hix:=index_set u2 hk61 w5
   have HANS:=Lib.hid (HMK.out (us k) (u4 k hk61))
   have hlt:us k<18446744073709551616:=Nat.lt_trans (u3 k) (by decide)
   obtain ⟨y,hy⟩:∃ y,y=us k:=⟨_,rfl⟩
   rw [← hy] at hix HANS hlt
   have hls:=setList_any y hlt w5 (tab_below hTab hg HB5.out) (by have:=HB5.out.size;omega)
   clear hus hb5 u1 u2 u3 u4 hy HFL2 HB2 hlt
   go_wp2_with fail
   refine hls.mono ?_
   rintro E w6 ⟨v',rfl,hrow,hb6⟩
   have HROW:=Lib.hid (hrow.mono HB5.out.size)
   have HB6:=Lib.hid (HB5.out.trans (hb6.mono HB5.out.size))
   clear hls hrow hb6
   go_wp2_with fail
   go_ret
   exact ⟨v',intsOf y,rfl,HROW.out,HANS.out,HB6.out⟩
  ·have hr:a<0∨((progPts s).length:Int)≤a:=by
    by_cases h0:a<0
    ·exact .inl h0
    ·rcases Int.lt_or_le a ((progPts s).length:Int) with h1 | h1
     ·exact absurd ⟨by omega,h1⟩ hin
     ·exact .inr h1
   have hans:AnsAt (UserB ts) true s a []:=.inr ⟨fun h=>hin h.2,rfl⟩
   have HANS:=Lib.hid hans
   generalize progPts s=ds at hS hr
   clear hz0 hok hin hA hD hT hR hans
   go_enter Tryz.func31,Tryz.ntmps31
   go_wp2_with fail
   refine hS.mono ?_
   rintro E w1 ⟨C,F,hi,A2,c2,ah,bk,rfl,hF,hfl,hb1⟩
   rw [HZ.out] at hb1
   have HB:=Lib.hid (hb0.trans (hb1.mono (by omega)))
   have hgc:=hfl.grCell
   have hhas:=has_no C a ds w1 hfl.gr hr
   clear hfl hb1 hS hb0 hr
   go_wp2_with fail
   refine hhas.mono ?_
   rintro E w2 ⟨rfl,hb2⟩
   have HB2:=Lib.hid (HB.out.trans (hb2.mono HB.out.size))
   clear hhas hb2 hgc HB
   go_wp2_with fail
   go_ret
   exact ⟨_,[],rfl,hnil _,HANS.out,HB2.out⟩
end Go.Proofs.YtdcldcffnkhegaaGreatDoor.tr
