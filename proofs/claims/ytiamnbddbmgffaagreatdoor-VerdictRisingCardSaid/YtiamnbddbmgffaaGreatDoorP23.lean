/- What record of layer 16 leaves: its minutes gone over, and the clauses noted that they break. Conditions: as each theorem says. -/
import Derived.Test.YtiamnbddbmgffaaGreatDoorRows
import Derived.Test.YtiamnbddbmgffaaGreatDoorP22
namespace Go.Proofs.YtiamnbddbmgffaaGreatDoor
open Go.RowKit
set_option linter.unusedVariables false
set_option maxRecDepth 100000 in
set_option maxHeartbeats 16000000 in
theorem record16_none (base g L:Nat) (x:Nat -> Int) (a:Au) (k y z:Int) (W:World) (h:DutS base g L x a.m a.p a.F W) (hok:a.Ok y) (hx:May x) (hL18:1 <= x 18) (hk:0 <= k /\ k < 4) (hk0:Hid (¬ k = 0)) (hw:Hid (¬ 0 < a.m.lie)) (hb:0 <= y /\ y < z /\ z <= 40320) :
  Calls Tryz.prog 47 #[.pointer (some ⟨g,0,none⟩),.agg #[.int .i64 k,.int .i64 y,.int .i64 z],.func (.func 43) #[] #[.pointer (some ⟨L,0,none⟩),.pointer (some ⟨g,0,none⟩)]] W fun e W'=>e = .returned (.tuple #[]) /\
   DutS base g L x (a.run x (List.replicate (z - y).toNat k)).m (a.run x (List.replicate (z - y).toNat k)).p (a.run x (List.replicate (z - y).toNat k)).F W' /\ Kp2 base g L W W':=Zrec
end Go.Proofs.YtiamnbddbmgffaaGreatDoor
