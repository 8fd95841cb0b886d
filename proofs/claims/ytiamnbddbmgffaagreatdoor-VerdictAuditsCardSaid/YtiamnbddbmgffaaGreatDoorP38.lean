/- What the statement's Light of layer 16 returns. Conditions: the records can be read. -/
import Derived.Test.YtiamnbddbmgffaaGreatDoorRows
import Derived.Test.YtiamnbddbmgffaaGreatDoorP9
namespace Go.Proofs.YtiamnbddbmgffaaGreatDoor
open Go.RowKit
set_option linter.unusedVariables false
def lightB (l:List Rc):Bool:=decide (l.length <= 60) && l.all fun r=>decide (r.2.2 <= 300)
theorem light_more {l:List Rc} {k:Nat} {q y z:Int} (hk:k < l.length) (h:l.getD k rz = (q,y,z)):((l.take (k + 1)).all fun r=>decide (r.2.2 <= 300)) = (((l.take k).all fun r=>decide (r.2.2 <= 300)) && decide (z <= 300)):=by
 have e:l[k] = (q,y,z):=by rw [<- h]; simp [List.getD,hk]
 rw [List.take_succ_eq_append_getElem hk,List.all_append,e];simp
theorem light_no {l:List Rc} {k:Nat} {q y z:Int} (hk:k < l.length) (h:l.getD k rz = (q,y,z)) (hz:¬ z <= 300):lightB l = false:=by
 have e:l[k] = (q,y,z):=by rw [<- h]; simp [List.getD,hk]
 unfold lightB;rw [Bool.and_eq_false_iff];right;rw [List.all_eq_false];exact ⟨l[k],List.getElem_mem hk,by rw [e]; simpa using hz⟩
set_option maxRecDepth 100000 in
set_option maxHeartbeats 1000000 in
theorem light16_any (A:Option Addr) (c n:Nat) (l:List Rc) (w:World) (hn:l.length = n) (h:RdR w A l) :
  Calls Tryz.prog 19 #[.slice A n c] w fun e w'=>e = .returned (.bool (lightB l)) /\ Below w.heap.size w w':=by
 have HN:=Zh hn;have HR:=Zh h;by_cases hbig:60 < n
 case pos =>
  have d0:decide ((60:Int) < (n:Int)) = true:=decide_eq_true Zo;have HV:=Zh (show lightB l = false by unfold lightB; rw [decide_eq_false Zo]; rfl);clear hn h hbig;go_enter Tryz.func19,Tryz.ntmps19;go_wp2;go_ret;exact ⟨by rw [HV.out]; try rfl,Below.refl _ _⟩
 have d0:decide ((60:Int) < (n:Int)) = false:=decide_eq_false Zo;have HL:=Zh (show l.length <= 60 by omega);have hn60:n <= 60:=by omega
 clear hn h hbig;go_enter Tryz.func19,Tryz.ntmps19;go_wp2;go_loopw [10] (fun i wr=>∃ k:Nat,k <= n /\ i = .int .i64 (k:Nat) /\ Hid (((l.take k).all fun r=>decide (r.2.2 <= 300)) = true) /\ Hid (Below w.heap.size w wr)) (fun i _=>n - (intOf i).toNat)
 case atStart=>exact ⟨0,Nat.zero_le _,rfl,Zh rfl,Zh (Below.refl _ _)⟩
 case round =>
  obtain ⟨k,hk,rfl,HA,HB⟩:=hrel;obtain ⟨w1,rfl⟩:∃ w1:World,w1 = wr:=⟨_,rfl⟩;have hsz:=HB.out.size;by_cases hlt:k < n
  case neg =>
   obtain rfl:k = n:=by omega
   have HV:=Zh (show lightB l = true by
    unfold lightB;rw [decide_eq_true HL.out,Bool.true_and];have:=HA.out
    rwa [List.take_of_length_le (Nat.le_of_eq HN.out)] at this)
   clear HA;go_wp2;go_ret;exact ⟨by rw [HV.out]; try rfl,HB.out⟩
  have hlt':k < l.length:=by rw [HN.out]; exact hlt
  obtain ⟨b,off,q,y,z,rfl,hbb,hc0,hc1,hc2,hs⟩:=HR.out.at_ hlt';rw [<- HB.out.cell (p:=⟨b,_,none⟩) hbb] at hc0 hc1 hc2;have hbw:b < w1.heap.size:=by omega
  have HB2:=Zh (HB.out.alloc HB.out.size (.cells #[.int .i64 q,.int .i64 y,.int .i64 z] 50));by_cases hz:z <= 300
  case neg =>
   have e1:decide (300 < z) = true:=decide_eq_true Zo;have HV:=Zh (light_no hlt' hs.out hz);clear hs hz HA;go_wp2;go_ret;exact ⟨by rw [HV.out]; try rfl,HB2.out⟩
  have e1:decide (300 < z) = false:=decide_eq_false Zo;have HF:=Zh (show ((l.take (k + 1)).all fun r=>decide (r.2.2 <= 300)) = true by rw [light_more hlt' hs.out,HA.out,decide_eq_true hz]; rfl);clear hs hz HA;go_wp2;go_roundw
  case rel=>exact ⟨k + 1,by omega,by go_num,HF,HB2⟩
  case measure=>simp [intOf]; omega
end Go.Proofs.YtiamnbddbmgffaaGreatDoor
