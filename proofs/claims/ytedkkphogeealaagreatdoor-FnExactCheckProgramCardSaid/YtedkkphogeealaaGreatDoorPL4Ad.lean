/- Flags that take what others have: l4Add. -/
import Derived.Test.YtedkkphogeealaaGreatDoorPFwdG
import Derived.Lib.BufferWrite
import Derived.StillTailTactics
namespace Go.Proofs.YtedkkphogeealaaGreatDoor
open Go.RowKit Go.Deep
set_option linter.unusedVariables false
set_option maxRecDepth 100000
set_option maxHeartbeats 4000000
theorem grown_trans {a b c:World} {row:Option Nat} (h:a.grownBy b row) (k:b.grownBy c row):a.grownBy c row :=
 ⟨k.os.trans h.os,k.tape.trans h.tape,k.output.trans h.output,Nat.le_trans h.size k.size,fun x hx hr=>(k.block x (Nat.lt_of_lt_of_le hx h.size) hr).trans (h.block x hx hr)⟩
theorem grown_set {a b:World} {F o:Nat} (h:a.grownBy b (some F)) (v:Value):a.grownBy (b.setCell ⟨F,o,none⟩ v) (some F):=grown_trans h (Lib.grownBy_setCell b F o v)
theorem l4Add_any (n A ca F cb:Nat) (x y:Nat→Bool) (w:World) (hn:n≤1000000) (hA:FlW w A n x) (hF:FlW w F n y) (hne:F≠A) (ha1:n≤ca) (ha2:ca≤maxLen) (hb1:n≤cb) (hb2:cb≤maxLen) :
  Calls Tryz.prog 86 #[.slice (some ⟨A,0,none⟩) n ca,.slice (some ⟨F,0,none⟩) n cb] w
   fun E w'=>E=.returned (.tuple #[])∧FlW w' A n (fun i=>x i || y i)∧w.grownBy w' (some A):=by
 have HA:=Lib.hid hA
 have HF:=Lib.hid hF
 have HNE:=Lib.hid hne
 unfold maxLen at ha2 hb2
 clear hA hF hne
 go_enter Tryz.func86,Tryz.ntmps86
 go_wp2_with fail
 go_loopw [4] (fun i wr=>∃ k:Nat,i=.int .i64 k∧k≤n∧Hid (FlW wr A n (fun v=>x v || (decide (v<k) && y v)))∧Hid (w.grownBy wr (some A))) (fun i wr=>n-(intOf i).toNat)
 case atStart=>exact ⟨0,rfl,Nat.zero_le _,Lib.hid (HA.out.congr (fun i _=>by simp)),Lib.hid (World.grownBy.refl _ _)⟩
 case round =>
  clear HA
  obtain ⟨k,rfl,hk,HG,HB⟩:=hrel
  by_cases hlt:k<n
  ·have hFr:=HF.out.keep (HB.out.block F HF.out.lt (fun e=>HNE.out (by injection e)))
   have b0:=hFr.cell hlt
   have sG:=HG.out.soft k
   have cG:=HG.out.cell hlt
   have hnx:∀ v:Bool,v=(x k || y k)→Hid (FlW (wr.setCell ⟨A,k,none⟩ (.bool v)) A n (fun v=>x v || (decide (v<k+1) && y v))):=fun v hv=>(HG.out.put hlt v).congr (fun i _=>by
    unfold setR
    by_cases hik:i=k
    ·subst hik
     rw [if_pos rfl,hv,decide_eq_true (by omega),Bool.true_and]
    ·rw [if_neg hik]
     have:decide (i<k+1)=decide (i<k):=decide_eq_decide.mpr (by omega)
     rw [this])
   have hbx:∀ v:Value,Hid (w.grownBy (wr.setCell ⟨A,k,none⟩ v) (some A)):=fun v=>grown_set HB.out v
   have HNX:=Lib.hid hnx
   have HBX:=Lib.hid hbx
   have e9:(x k || (decide (k<k) && y k))=x k:=by simp
   rw [e9] at cG
   clear hFr hnx hbx HG HB e9
   cases hxk:x k <;> cases hyk:y k
   all_goals
    rw [hyk] at b0
    rw [hxk] at cG
    have HXK:=Lib.hid hxk
    have HYK:=Lib.hid hyk
    clear hxk hyk
    go_wp2_with fail
    refine ⟨⟨k+1,by simp,by omega,HNX.out _ (by rw [HXK.out,HYK.out];rfl),HBX.out _⟩,?_⟩
    simp only [intOf]
    omega
  ·have hke:k=n:=by omega
   have HFIN:Hid (FlW wr A n (fun i=>x i || y i)):=HG.out.congr (fun i hi=>by
    have:decide (i<k)=true:=decide_eq_true (by omega)
    rw [this,Bool.true_and])
   subst hke
   clear HG
   go_wp2_with fail
   go_end0
   exact ⟨rfl,HFIN.out,HB.out⟩
end Go.Proofs.YtedkkphogeealaaGreatDoor
