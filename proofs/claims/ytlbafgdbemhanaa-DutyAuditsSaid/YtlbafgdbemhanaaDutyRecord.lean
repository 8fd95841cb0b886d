/- What record of layer 16 leaves: its minutes gone over, and the clauses noted that they break. Conditions: as each theorem says. -/
import Derived.Test.YtlbafgdbemhanaaRows
import Derived.Test.YtlbafgdbemhanaaBase
import Derived.Test.YtlbafgdbemhanaaZ2
import Derived.Test.YtlbafgdbemhanaaZ3
import Derived.Test.YtlbafgdbemhanaaMeterChk
import Derived.Test.YtlbafgdbemhanaaZ4
import Derived.Test.YtlbafgdbemhanaaDutyFrom
import Derived.Test.YtlbafgdbemhanaaDutySet
import Derived.Test.YtlbafgdbemhanaaDutyRise
import Derived.Test.YtlbafgdbemhanaaDutyNote
import Derived.Test.YtlbafgdbemhanaaZ1
import Derived.Test.YtlbafgdbemhanaaClauseSet
import Derived.Test.YtlbafgdbemhanaaBookLim
import Derived.Test.YtlbafgdbemhanaaMeterRun
import Derived.Test.YtlbafgdbemhanaaMeterStep
import Derived.Test.YtlbafgdbemhanaaStretchChk
import Derived.Test.YtlbafgdbemhanaaStretchOverC
import Derived.WalkKit
import Derived.WalkSpells
import Derived.WalkSmall
import Derived.Below
import Derived.Lib.Hide
import Derived.Shelf.Abstract
import Derived.BigQuiet
import Derived.OwnWalk
import Derived.Outline
import Derived.Deep.DeepCutAuto
import Derived.StillTailTactics
import Derived.Maps.RangeWalk
import Derived.OrdersHeld
import Derived.Deep.RegionHeld3
import Derived.OneCell
import Derived.Great.BuildSlice
import Derived.Test.YtlbafgdbemhanaaDutyRecA
import Derived.Test.YtlbafgdbemhanaaDutyRecB
import Derived.Test.YtlbafgdbemhanaaDutyRecC
namespace Go.Proofs.Ytlbafgdbemhanaa
open Go.RowKit

theorem record16_any (base g L : Nat) (x : Nat → Int) (a : Au) (k y z : Int) (W : World) (h : DutS base g L x a.m a.p a.F W) (hok : a.Ok y) (hx : May x) (hL18 : 1 ≤ x 18) (hk : 0 ≤ k ∧ k < 4) (hb : 0 ≤ y ∧ y < z ∧ z ≤ 40320) :
    Calls Try.prog 26 #[.pointer (some ⟨g, 0, none⟩), .agg #[.int .i64 k, .int .i64 y, .int .i64 z], .func (.func 23) #[] #[.pointer (some ⟨L, 0, none⟩), .pointer (some ⟨g, 0, none⟩)]] W fun e W' => e = .returned (.tuple #[]) ∧
      DutS base g L x (a.run x (List.replicate (z - y).toNat k)).m (a.run x (List.replicate (z - y).toNat k)).p (a.run x (List.replicate (z - y).toNat k)).F W' ∧ Kp2 base g L W W' := by
  by_cases hk0 : k = 0
  · exact record16_rest base g L x a k y z W h hok hx hL18 hk (Lib.hid hk0) hb
  · by_cases hl : 0 < a.m.lie
    · exact record16_rise base g L x a k y z W h hok hx hL18 hk (Lib.hid hk0) (Lib.hid hl) hb
    · exact record16_none base g L x a k y z W h hok hx hL18 hk (Lib.hid hk0) (Lib.hid hl) hb

end Go.Proofs.Ytlbafgdbemhanaa
