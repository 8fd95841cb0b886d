/- What the document's May of layer 13 returns. Conditions: none. -/
import Derived.Test.YtglgifhpacmhiaaRows
import Derived.Test.YtglgifhpacmhiaaBase
import Derived.Test.YtglgifhpacmhiaaBookRow
import Derived.Test.YtglgifhpacmhiaaBookLim
import Derived.Test.YtglgifhpacmhiaaBookLaws
import Derived.Test.YtglgifhpacmhiaaBox
import Derived.Test.YtglgifhpacmhiaaSpellMath
import Derived.Test.YtglgifhpacmhiaaMeterMath
import Derived.Test.YtglgifhpacmhiaaMeterChk
import Derived.WalkKit
import Derived.WalkSpells
import Derived.WalkSmall
import Derived.Below
import Derived.Lib.Hide
import Derived.BigQuiet
import Derived.OwnWalk
import Derived.Outline
import Derived.Great.BuildSlice
import Derived.Maps.RangeWalk
namespace Go.Proofs.Ytglgifhpacmhiaa
open Go.RowKit

theorem tn_at (y : Nat → Int) : ∀ k, k < 10 → (tn y)[k]? = some (.int .i64 (y k)) := by
  intro i hi
  have : i = 0 ∨ i = 1 ∨ i = 2 ∨ i = 3 ∨ i = 4 ∨ i = 5 ∨ i = 6 ∨ i = 7 ∨ i = 8 ∨ i = 9 := by omega
  rcases this with rfl | rfl | rfl | rfl | rfl | rfl | rfl | rfl | rfl | rfl <;> rfl

set_option maxRecDepth 20000 in
set_option maxHeartbeats 1600000 in
open Classical in
theorem refmay13_any (m : Mt) (w : World) :
    Calls Try.prog 43 #[.agg (mt m)] w fun e w' => e = .returned (.bool (if MayM m then true else false)) ∧ Below w.heap.size w w' := by
  obtain ⟨v, hv⟩ : ∃ v : Bool, (if MayM m then true else false) = v := ⟨_, rfl⟩
  rw [hv]
  have HV := Lib.hid (may_ten m)
  obtain ⟨a0, a1, a2, a3, a4, a5, a6, a7, a8, a9, a10, a11, a12, a13⟩ := m
  have hV1 : Hid (¬ MayM ⟨a0, a1, a2, a3, a4, a5, a6, a7, a8, a9, a10, a11, a12, a13⟩ → v = false) := Lib.hid (fun h => by rw [← hv, if_neg h])
  have hV0 : Hid (MayM ⟨a0, a1, a2, a3, a4, a5, a6, a7, a8, a9, a10, a11, a12, a13⟩ → v = true) := Lib.hid (fun h => by rw [← hv, if_pos h])
  clear hv
  obtain ⟨y, hy⟩ : ∃ y, ten ⟨a0, a1, a2, a3, a4, a5, a6, a7, a8, a9, a10, a11, a12, a13⟩ = y := ⟨_, rfl⟩
  have hT : (#[.int .i64 a1, .int .i64 a3, .int .i64 a4, .int .i64 a5, .int .i64 a6, .int .i64 a8, .int .i64 a9, .int .i64 a11, .int .i64 a12, .int .i64 a13] : Array Value) = tn y := by rw [← hy]; rfl
  have HV : Hid (MayM ⟨a0, a1, a2, a3, a4, a5, a6, a7, a8, a9, a10, a11, a12, a13⟩ ↔ (0 ≤ a0 ∧ a0 ≤ 40320) ∧ ∀ k, k < 10 → 0 ≤ y k ∧ y k ≤ a0) := Lib.hid (by have := HV.out; rw [hy] at this; exact this)
  clear hy
  generalize hMM : MayM ⟨a0, a1, a2, a3, a4, a5, a6, a7, a8, a9, a10, a11, a12, a13⟩ = MM at HV hV0 hV1
  clear hMM
  have B0 : Bx (w.alloc (.cells (mt ⟨a0, a1, a2, a3, a4, a5, a6, a7, a8, a9, a10, a11, a12, a13⟩) 36)) w.heap.size 36 (mt ⟨a0, a1, a2, a3, a4, a5, a6, a7, a8, a9, a10, a11, a12, a13⟩) := Bx.new _ _ rfl
  have p0 : (w.alloc (.cells (mt ⟨a0, a1, a2, a3, a4, a5, a6, a7, a8, a9, a10, a11, a12, a13⟩) 36)).cell? ⟨w.heap.size, 0, none⟩ = some (.int .i64 a0) := B0.cell rfl
  have p1 : (w.alloc (.cells (mt ⟨a0, a1, a2, a3, a4, a5, a6, a7, a8, a9, a10, a11, a12, a13⟩) 36)).cell? ⟨w.heap.size, 1, none⟩ = some (.int .i64 a1) := B0.cell rfl
  have p3 : (w.alloc (.cells (mt ⟨a0, a1, a2, a3, a4, a5, a6, a7, a8, a9, a10, a11, a12, a13⟩) 36)).cell? ⟨w.heap.size, 3, none⟩ = some (.int .i64 a3) := B0.cell rfl
  have p4 : (w.alloc (.cells (mt ⟨a0, a1, a2, a3, a4, a5, a6, a7, a8, a9, a10, a11, a12, a13⟩) 36)).cell? ⟨w.heap.size, 4, none⟩ = some (.int .i64 a4) := B0.cell rfl
  have p5 : (w.alloc (.cells (mt ⟨a0, a1, a2, a3, a4, a5, a6, a7, a8, a9, a10, a11, a12, a13⟩) 36)).cell? ⟨w.heap.size, 5, none⟩ = some (.int .i64 a5) := B0.cell rfl
  have p6 : (w.alloc (.cells (mt ⟨a0, a1, a2, a3, a4, a5, a6, a7, a8, a9, a10, a11, a12, a13⟩) 36)).cell? ⟨w.heap.size, 6, none⟩ = some (.int .i64 a6) := B0.cell rfl
  have p8 : (w.alloc (.cells (mt ⟨a0, a1, a2, a3, a4, a5, a6, a7, a8, a9, a10, a11, a12, a13⟩) 36)).cell? ⟨w.heap.size, 8, none⟩ = some (.int .i64 a8) := B0.cell rfl
  have p9 : (w.alloc (.cells (mt ⟨a0, a1, a2, a3, a4, a5, a6, a7, a8, a9, a10, a11, a12, a13⟩) 36)).cell? ⟨w.heap.size, 9, none⟩ = some (.int .i64 a9) := B0.cell rfl
  have p11 : (w.alloc (.cells (mt ⟨a0, a1, a2, a3, a4, a5, a6, a7, a8, a9, a10, a11, a12, a13⟩) 36)).cell? ⟨w.heap.size, 11, none⟩ = some (.int .i64 a11) := B0.cell rfl
  have p12 : (w.alloc (.cells (mt ⟨a0, a1, a2, a3, a4, a5, a6, a7, a8, a9, a10, a11, a12, a13⟩) 36)).cell? ⟨w.heap.size, 12, none⟩ = some (.int .i64 a12) := B0.cell rfl
  have p13 : (w.alloc (.cells (mt ⟨a0, a1, a2, a3, a4, a5, a6, a7, a8, a9, a10, a11, a12, a13⟩) 36)).cell? ⟨w.heap.size, 13, none⟩ = some (.int .i64 a13) := B0.cell rfl
  by_cases h0 : a0 < 0
  case pos =>
    have d0 : decide (a0 < 0) = true := decide_eq_true h0
    obtain rfl : v = false := hV1.out (fun h => by have := HV.out.1 h; omega)
    clear h0 HV hV0 hV1 hT
    go_enter Try.func43, Try.ntmps43
    go_wp2
    go_ret
    exact ⟨rfl, (Below.refl _ _).alloc (Nat.le_refl _) _⟩
  have d0 : decide (a0 < 0) = false := decide_eq_false h0
  by_cases h1 : 40320 < a0
  case pos =>
    have d1 : decide (40320 < a0) = true := decide_eq_true h1
    obtain rfl : v = false := hV1.out (fun h => by have := HV.out.1 h; omega)
    clear h0 h1 HV hV0 hV1 hT
    go_enter Try.func43, Try.ntmps43
    go_wp2
    go_ret
    exact ⟨rfl, (Below.refl _ _).alloc (Nat.le_refl _) _⟩
  have d1 : decide (40320 < a0) = false := decide_eq_false h1
  have S0 : ∀ k, k < 10 → ((w.alloc (.cells (mt ⟨a0, a1, a2, a3, a4, a5, a6, a7, a8, a9, a10, a11, a12, a13⟩) 36)).alloc (.cells #[.int .i64 a1, .int .i64 a3, .int .i64 a4, .int .i64 a5, .int .i64 a6, .int .i64 a8, .int .i64 a9, .int .i64 a11, .int .i64 a12, .int .i64 a13] 3)).cell? ⟨w.heap.size + 1, k, none⟩ = some (.int .i64 (y k)) := fun k hk => by
    rw [hT]
    exact (Bx.new (W := (w.alloc (.cells (mt ⟨a0, a1, a2, a3, a4, a5, a6, a7, a8, a9, a10, a11, a12, a13⟩) 36))) 3 (tn y) (by simp)).cell (tn_at y k hk)
  have HB1 : Below w.heap.size w ((w.alloc (.cells (mt ⟨a0, a1, a2, a3, a4, a5, a6, a7, a8, a9, a10, a11, a12, a13⟩) 36)).alloc (.cells #[.int .i64 a1, .int .i64 a3, .int .i64 a4, .int .i64 a5, .int .i64 a6, .int .i64 a8, .int .i64 a9, .int .i64 a11, .int .i64 a12, .int .i64 a13] 3)) := b_al (b_al (Below.refl _ _) (Nat.le_refl _) _) (by simp) _
  have HZ1 : w.heap.size + 1 < ((w.alloc (.cells (mt ⟨a0, a1, a2, a3, a4, a5, a6, a7, a8, a9, a10, a11, a12, a13⟩) 36)).alloc (.cells #[.int .i64 a1, .int .i64 a3, .int .i64 a4, .int .i64 a5, .int .i64 a6, .int .i64 a8, .int .i64 a9, .int .i64 a11, .int .i64 a12, .int .i64 a13] 3)).heap.size := by simp
  have N0 : ((w.alloc (.cells (mt ⟨a0, a1, a2, a3, a4, a5, a6, a7, a8, a9, a10, a11, a12, a13⟩) 36)).alloc (.cells #[.int .i64 a1, .int .i64 a3, .int .i64 a4, .int .i64 a5, .int .i64 a6, .int .i64 a8, .int .i64 a9, .int .i64 a11, .int .i64 a12, .int .i64 a13] 3)).cell? ⟨w.heap.size, 0, none⟩ = some (.int .i64 a0) := c_al _ p0
  clear hT
  go_enter Try.func43, Try.ntmps43
  go_wp2
  clear p0 p1 p3 p4 p5 p6 p8 p9 p11 p12 p13 B0
  generalize (w.alloc (.cells (mt ⟨a0, a1, a2, a3, a4, a5, a6, a7, a8, a9, a10, a11, a12, a13⟩) 36)).alloc (.cells #[.int .i64 a1, .int .i64 a3, .int .i64 a4, .int .i64 a5, .int .i64 a6, .int .i64 a8, .int .i64 a9, .int .i64 a11, .int .i64 a12, .int .i64 a13] 3) = w1 at S0 N0 HB1 HZ1 ⊢
  go_loopw [4] (fun i wr => ∃ k : Nat, k ≤ 10 ∧ i = .int .i64 k ∧ Hid (∀ j, j < k → 0 ≤ y j ∧ y j ≤ a0) ∧ Below w1.heap.size w1 wr) (fun i _ => 10 - (intOf i).toNat)
  case atStart => exact ⟨0, Nat.zero_le _, rfl, Lib.hid (fun j hj => by omega), Below.refl _ _⟩
  case round =>
    obtain ⟨k, hk, rfl, H, hbr⟩ := hrel
    obtain ⟨w2, rfl⟩ : ∃ w2 : World, w2 = wr := ⟨_, rfl⟩
    by_cases hlt : k < 10
    case neg =>
      obtain rfl : k = 10 := by omega
      obtain rfl : v = true := hV0.out (HV.out.2 ⟨by omega, fun j hj => H.out j hj⟩)
      go_wp2
      go_ret
      exact ⟨rfl, HB1.trans (hbr.mono HB1.size)⟩
    have hi0 : w2.cell? ⟨w.heap.size + 1, k, none⟩ = some (.int .i64 (y k)) := by
      rw [hbr.cell (p := ⟨w.heap.size + 1, k, none⟩) HZ1]; exact S0 k hlt
    have hn0 : w2.cell? ⟨w.heap.size, 0, none⟩ = some (.int .i64 a0) := by
      rw [hbr.cell (p := ⟨w.heap.size, 0, none⟩) (by show w.heap.size < _; omega)]; exact N0
    obtain ⟨n, hn⟩ : ∃ n, y k = n := ⟨_, rfl⟩
    rw [hn] at hi0
    have hn := Lib.hid hn
    have hk10 : (k : Int) < 10 := by omega
    by_cases lo : n < 0
    case pos =>
      have dl : decide (n < 0) = true := decide_eq_true lo
      obtain rfl : v = false := hV1.out (fun h => by have := (HV.out.1 h).2 k hlt; rw [hn.out] at this; omega)
      clear lo HV hV0 hV1
      go_wp2
      go_quiet (fail)
      go_wp2
      go_ret
      exact ⟨rfl, b_dn (HB1.trans (hbr.mono HB1.size))⟩
    have dl : decide (n < 0) = false := decide_eq_false lo
    by_cases hi : a0 < n
    case pos =>
      have dh : decide (a0 < n) = true := decide_eq_true hi
      obtain rfl : v = false := hV1.out (fun h => by have := (HV.out.1 h).2 k hlt; rw [hn.out] at this; omega)
      clear lo hi HV hV0 hV1
      go_wp2
      go_quiet (fail)
      go_wp2
      go_ret
      exact ⟨rfl, b_dn (HB1.trans (hbr.mono HB1.size))⟩
    have dh : decide (a0 < n) = false := decide_eq_false hi
    have HN : Hid (0 ≤ n ∧ n ≤ a0) := Lib.hid ⟨by omega, by omega⟩
    clear lo hi
    go_wp2
    go_quiet (fail)
    go_wp2
    go_roundw
    case rel => exact ⟨k + 1, by omega, by go_num, Lib.hid (fun j hj => by
        by_cases e : j = k
        · subst e; rw [hn.out]; exact HN.out
        · exact H.out j (by omega)), b_dn hbr⟩
    case measure => simp [intOf]; omega

end Go.Proofs.Ytglgifhpacmhiaa
