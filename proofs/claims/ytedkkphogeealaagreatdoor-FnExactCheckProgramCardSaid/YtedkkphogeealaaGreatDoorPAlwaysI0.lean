/- impl.AlwaysSet: the sets at a point,listed. -/
import Derived.Test.YtedkkphogeealaaGreatDoorPFlowA
namespace Go.Proofs.YtedkkphogeealaaGreatDoor.flowAll
open Go.RowKit Go.Deep
set_option linter.unusedVariables false
set_option maxRecDepth 100000
set_option maxHeartbeats 4000000
def Rel (ts:List Int) (ns:List Nd) (k v:Nat):Prop:=v<ts.length∧¬ MissB ts ns k v
theorem analysis_any (ts:List Int) (ns:List Nd) (q C F hi:Nat) (A:Option Addr) (c:Nat) (ah bk:Nat→Nat) (w:World) (h:FlowsIn ts ns C F hi A c ah bk w) (hD:PtsOk q ns) (hA:AllTyped ts ns)
  (hTab:TabAt 0 Lib.deBruijn64tab w) (hg:0<w.heap.size) :
  Calls Tryz.prog 70 #[.pointer (some ⟨F,0,none⟩)] w (Post ts ns w):=by
 have hw:=fun W hW hT hG=>walk ts ns q C F hi A c ah bk W hW hD hA hT hG
 have hmf:∀ (fn:Fn) (first cap:Array Value) (w:World),(Instr.makeFunc fn first cap).run Tryz.prog w=.ok (.func fn first cap) w:=fun _ _ _ _=>rfl
 have HW:=Lib.hid hw
 have HF:=Lib.hid h
 clear hw h hD hA
 go_enter Tryz.func70,Tryz.ntmps70
 go_wp2_with fail
 generalize hw0:w.alloc (.cells #[.int .u64 0,.int .u64 0,.int .u64 0,.int .u64 0,.int .u64 0,.int .u64 0,.int .u64 0,.int .u64 0,.int .u64 0,.int .u64 0,.int .u64 0,.int .u64 0,.int .u64 0,.int .u64 0,.int .u64 0,.int .u64 0,.int .u64 0,.int .u64 0,.int .u64 0,.int .u64 0,.int .u64 0,.int .u64 0,.int .u64 0,.int .u64 0,.int .u64 0,.int .u64 0,.int .u64 0,.int .u64 0,.int .u64 0,.int .u64 0,.int .u64 0,.int .u64 0,.int .u64 0,.int .u64 0,.int .u64 0,.int .u64 0,.int .u64 0,.int .u64 0,.int .u64 0,.int .u64 0,.int .u64 0,.int .u64 0,.int .u64 0,.int .u64 0,.int .u64 0,.int .u64 0,.int .u64 0,.int .u64 0,.int .u64 0,.int .u64 0,.int .u64 0,.int .u64 0,.int .u64 0,.int .u64 0,.int .u64 0,.int .u64 0,.int .u64 0,.int .u64 0,.int .u64 0,.int .u64 0,.int .u64 0] 92)=w0
 have hbw:Below w.heap.size w w0:=by rw [← hw0];exact (Below.refl w.heap.size w).alloc (Nat.le_refl _) _
 have hBX:w0.heap[w.heap.size]?=some (.cells #[.int .u64 0,.int .u64 0,.int .u64 0,.int .u64 0,.int .u64 0,.int .u64 0,.int .u64 0,.int .u64 0,.int .u64 0,.int .u64 0,.int .u64 0,.int .u64 0,.int .u64 0,.int .u64 0,.int .u64 0,.int .u64 0,.int .u64 0,.int .u64 0,.int .u64 0,.int .u64 0,.int .u64 0,.int .u64 0,.int .u64 0,.int .u64 0,.int .u64 0,.int .u64 0,.int .u64 0,.int .u64 0,.int .u64 0,.int .u64 0,.int .u64 0,.int .u64 0,.int .u64 0,.int .u64 0,.int .u64 0,.int .u64 0,.int .u64 0,.int .u64 0,.int .u64 0,.int .u64 0,.int .u64 0,.int .u64 0,.int .u64 0,.int .u64 0,.int .u64 0,.int .u64 0,.int .u64 0,.int .u64 0,.int .u64 0,.int .u64 0,.int .u64 0,.int .u64 0,.int .u64 0,.int .u64 0,.int .u64 0,.int .u64 0,.int .u64 0,.int .u64 0,.int .u64 0,.int .u64 0,.int .u64 0] 92):=by rw [← hw0];exact heap_alloc_new w _
 have hzw:w0.heap.size=w.heap.size+1:=by rw [← hw0];simp
 clear hw0
 refine (HW.out w0 (HF.out.keep hbw) (tab_below hTab hg hbw) (by omega)).mono ?_
 rintro E w1 ⟨cs,kn,rfl,hcz,hcc,hflo,hb1⟩
 have hr1:=(hb1.block w.heap.size (by omega)).trans hBX
 have hs1:=hb1.size
 have hth:=there_row hr1 (n:=61) rfl
 have hu:=Tryz.underlying92
 have hsz:(Tryz.prog.info? 92).map (·.size)=some 61:=by kernel_rfl
 have hone:cs.all (·.oneCell')=true:=by
  rw [Array.all_eq_true_iff_forall_mem]
  intro u hu
  exact sets_one hcz kn hcc u (Array.mem_toList_iff.mpr hu)
 have his:(Tryz.prog.info? 92).map (·.size)=some cs.size:=by rw [hsz,hcz]
 have hth2:w1.there w.heap.size 0 cs.size:=by rw [hcz];exact hth
 have hout:=heap_setCells cs.toList 0 w1 _ hr1 (by rw [show cs.toList.length=61 by simpa using hcz];exact Nat.le_refl 61)
 rw [setN_all _ cs (by rw [hcz];rfl)] at hout
 have HFIN:Hid (Post ts ns w (.returned (.agg cs)) (w1.setCells w.heap.size 0 cs.toList)):=⟨cs,kn,rfl,hcz,hcc,hflo,below_setCells (hbw.trans (hb1.mono (by omega))) (Nat.le_refl _) (by omega)⟩
 have HOUT:=Lib.hid hout
 clear hout hsz hflo hcc hBX hr1 hb1 hmf
 go_wp2_with (first
  | refine wpList_store_mid rfl 92 _ _ rfl w.heap.size 0 cs rfl rfl hth2 his hone ?_)
 refine bodyPost_ret (v:=.agg cs) ?_ rfl HFIN.out
 exact results_one_row rfl Tryz.prog _ _ w.heap.size cs rfl (run_loadVar_row _ _ _ _ cs (0,0) _ HOUT.out hu rfl his)
theorem rel_bit {ts:List Int} {ns:List Nd} {q k:Nat} {kn:Nat→Nat} (h:FloIn (fun a b=>eN ns a b) 0 (fun (_:Nat)=>True) (fun k v=>usesN ts ns k v 2∧¬ setsN ns k v) (fun k v=>setsN ns k v) ns.length true kn (fun _=>False)) (hD:PtsOk q ns) (hA:AllTyped ts ns) (hL:∀ k,k<ns.length→k≠0→∃ j,j<k∧eN ns j k) (hk61:k<61) (hk:k<ns.length) (v:Nat):(v<64∧(kn k).testBit v=true)↔Rel ts ns k v:=by
 have hle:∀ a b,((fun a b=>eN ns a b)) a b→a<ns.length:=fun a b hab=>by
  have hab':b∈nextN ns a:=hab
  rcases Nat.lt_or_ge a ns.length with h9 | h9
  ·exact h9
  ·exfalso
   unfold nextN nextP at hab'
   rw [List.getElem?_eq_none h9] at hab'
   simp at hab'
 have h64:∀ v,6≤v→(kn k).testBit v=false:=fun v hv=>Nat.testBit_lt_two_pow (Nat.lt_of_lt_of_le (h.lt k) (Nat.pow_le_pow_right (by decide) hv:2 ^ 6≤2 ^ v))
 have hlast:=fun (hv:v<6)=>h.last (fun _=>id) hle (m:=k) (v:=v) hk hv
 have hts:=hA.1
 constructor
 ·rintro ⟨_,hb⟩
  have h6:v<6:=by
   rcases Nat.lt_or_ge v 6 with h9 | h9
   ·exact h9
   ·rw [h64 v h9] at hb;cases hb
  have hnm:¬ MissB ts ns k v:=fun hm=>by
   have:=(hlast h6).mpr hm
   unfold dv at this
   rw [hb] at this
   cases this
  refine ⟨?_,hnm⟩
  rcases Nat.lt_or_ge v ts.length with h9 | h9
  ·exact h9
  ·exact absurd (MissB.ge hA hL h9 k hk) hnm
 ·rintro ⟨hvt,hnm⟩
  have h6:v<6:=by omega
  refine ⟨by omega,?_⟩
  cases hb:(kn k).testBit v
  ·exact absurd ((hlast h6).mp (by unfold dv;rw [hb];rfl)) hnm
  ·rfl
end Go.Proofs.YtedkkphogeealaaGreatDoor.flowAll
