/- What from of layer 16 returns. Conditions: as the theorem says. -/
import Derived.Test.YtlbafgdbemhanaaRows
import Derived.Test.YtlbafgdbemhanaaBase
import Derived.Test.YtlbafgdbemhanaaZ2
import Derived.Test.YtlbafgdbemhanaaZ3
import Derived.Test.YtlbafgdbemhanaaMeterChk
import Derived.Test.YtlbafgdbemhanaaZ4
import Derived.Test.YtlbafgdbemhanaaBookLim
import Derived.WalkKit
import Derived.WalkSpells
import Derived.WalkSmall
import Derived.Below
import Derived.Lib.Hide
import Derived.Shelf.Abstract
import Derived.BigQuiet
import Derived.OwnWalk
import Derived.Outline
import Derived.Deep.DeepCutAuto
import Derived.StillTailTactics
import Derived.Maps.RangeWalk
import Derived.OrdersHeld
namespace Go.Proofs.Ytlbafgdbemhanaa
open Go.RowKit

set_option maxRecDepth 20000 in
set_option maxHeartbeats 2000000 in
theorem from16_any (g : Nat) (x : Nat → Int) (m : Mt) (p : Int) (c : Nat) (t : Int) (w : World) (hb : Sw w g x m p) (hx : May x) (hL : 1 ≤ x 18) (hc : c < 10) (h0 : 0 ≤ t) (h1 : t ≤ 40320) :
    Calls Try.prog 25 #[.pointer (some ⟨g, 0, none⟩), .int .i64 (c : Nat), .int .i64 t] w fun e w' => e = .returned (.int .i64 (sinceV x m p c t)) ∧ w = w' := by
  have r18 := (may_time hx 18 (by omega)).2
  have hm := mod_le h0 hL
  have f18 : w.cell? ⟨g, 18, none⟩ = some (.int .i64 (x 18)) := hb.cell rfl
  have f33 : w.cell? ⟨g, 33, none⟩ = some (.int .i64 p) := hb.cell rfl
  have f23 : w.cell? ⟨g, 23, none⟩ = some (.int .i64 m.dawn) := hb.cell rfl
  have f28 : w.cell? ⟨g, 28, none⟩ = some (.int .i64 m.sabbath) := hb.cell rfl
  have hr0 := Int.emod_nonneg t (show x 18 ≠ 0 by omega)
  have hr1 := Int.emod_lt_of_pos t (show 0 < x 18 by omega)
  have e1 : t.tmod (x 18) = t % x 18 := Int.tmod_eq_emod_of_nonneg h0
  unfold sinceV sinceD
  generalize x 18 = L at *
  generalize m.dawn = d at *
  generalize m.sabbath = s at *
  clear hb hx
  generalize hr : t % L = r at *
  have ne : (L == 0) = false := by simp; omega
  have ne2 : ¬ L = 0 := by omega
  obtain ⟨q, hq⟩ : ∃ q, t - r = q := ⟨_, rfl⟩
  rw [hq] at hm ⊢
  have HE := Lib.hid e1
  have this : c = 0 ∨ c = 1 ∨ c = 2 ∨ c = 3 ∨ c = 4 ∨ c = 5 ∨ c = 6 ∨ c = 7 ∨ c = 8 ∨ c = 9 := by omega
  clear hc
  rcases this with rfl | rfl | rfl | rfl | rfl | rfl | rfl | rfl | rfl | rfl
  · have hw := wrap14 q (by omega) (by omega)
    go_enter Try.func25, Try.ntmps25
    go_wp2
    go_ret
    exact ⟨by simp_all, rfl⟩
  · have hw := wrap14 q (by omega) (by omega)
    go_enter Try.func25, Try.ntmps25
    go_wp2
    go_ret
    exact ⟨by simp_all, rfl⟩
  · have hw := wrap14 q (by omega) (by omega)
    go_enter Try.func25, Try.ntmps25
    go_wp2
    go_ret
    exact ⟨by simp_all, rfl⟩
  · have hw := wrap14 q (by omega) (by omega)
    go_enter Try.func25, Try.ntmps25
    go_wp2
    go_ret
    exact ⟨by simp_all, rfl⟩
  · have hw := wrap14 q (by omega) (by omega)
    by_cases hz : q ≤ L
    · have hmx : max 0 (q - L) = 0 := by omega
      go_enter Try.func25, Try.ntmps25
      go_wp2
      go_ret
      exact ⟨by simp_all, rfl⟩
    · have hmx : max 0 (q - L) = q - L := by omega
      go_enter Try.func25, Try.ntmps25
      go_wp2
      go_ret
      exact ⟨by simp_all, rfl⟩
  · have hw := wrap14 q (by omega) (by omega)
    go_enter Try.func25, Try.ntmps25
    go_wp2
    go_ret
    exact ⟨by simp_all, rfl⟩
  · have hw := wrap14 q (by omega) (by omega)
    go_enter Try.func25, Try.ntmps25
    go_wp2
    go_ret
    exact ⟨by simp_all, rfl⟩
  · have hw := wrap14 q (by omega) (by omega)
    go_enter Try.func25, Try.ntmps25
    go_wp2
    go_ret
    exact ⟨by simp_all, rfl⟩
  · have hw := wrap14 q (by omega) (by omega)
    go_enter Try.func25, Try.ntmps25
    go_wp2
    go_ret
    exact ⟨by simp_all, rfl⟩
  · have hw := wrap14 q (by omega) (by omega)
    go_enter Try.func25, Try.ntmps25
    go_wp2
    go_ret
    exact ⟨by simp_all, rfl⟩

end Go.Proofs.Ytlbafgdbemhanaa
