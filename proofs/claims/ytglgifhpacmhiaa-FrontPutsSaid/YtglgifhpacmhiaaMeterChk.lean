/- What Check and check of layer 13 return, and the document's May. Conditions: none. -/
import Derived.Test.YtglgifhpacmhiaaRows
import Derived.Test.YtglgifhpacmhiaaBase
import Derived.Test.YtglgifhpacmhiaaBookRow
import Derived.Test.YtglgifhpacmhiaaBookLim
import Derived.Test.YtglgifhpacmhiaaBookLaws
import Derived.Test.YtglgifhpacmhiaaBox
import Derived.Test.YtglgifhpacmhiaaSpellMath
import Derived.Test.YtglgifhpacmhiaaMeterMath
import Derived.WalkKit
import Derived.WalkSpells
import Derived.WalkSmall
import Derived.Below
import Derived.Lib.Hide
import Derived.BigQuiet
import Derived.OwnWalk
import Derived.Outline
import Derived.Great.BuildSlice
import Derived.Maps.RangeWalk
namespace Go.Proofs.Ytglgifhpacmhiaa
open Go.RowKit

/-- The ten numbers that are looked at one by one. -/
def ten (m : Mt) (k : Nat) : Int := match k with
  | 0 => m.acc
  | 1 => m.lie
  | 2 => m.dawn
  | 3 => m.day
  | 4 => m.longers
  | 5 => m.reduces
  | 6 => m.sabbath
  | 7 => m.week
  | 8 => m.last
  | _ => m.labour
theorem may_ten (m : Mt) : MayM m ↔ (0 ≤ m.now ∧ m.now ≤ 40320) ∧ ∀ k, k < 10 → 0 ≤ ten m k ∧ ten m k ≤ m.now := by
  constructor
  · intro h
    refine ⟨h.1, fun k hk => ?_⟩
    obtain ⟨-, h0, h1, h2, h3, h4, h5, h6, h7, h8, h9⟩ := h
    have : k = 0 ∨ k = 1 ∨ k = 2 ∨ k = 3 ∨ k = 4 ∨ k = 5 ∨ k = 6 ∨ k = 7 ∨ k = 8 ∨ k = 9 := by omega
    rcases this with rfl | rfl | rfl | rfl | rfl | rfl | rfl | rfl | rfl | rfl <;> assumption
  · intro ⟨h, t⟩
    exact ⟨h, t 0 (by omega), t 1 (by omega), t 2 (by omega), t 3 (by omega), t 4 (by omega), t 5 (by omega), t 6 (by omega), t 7 (by omega), t 8 (by omega), t 9 (by omega)⟩

/-- A meter by its ten numbers. -/
def byT (now : Int) (half split brief : Bool) (y : Nat → Int) : Mt := ⟨now, y 0, half, y 1, y 2, y 3, y 4, split, y 5, y 6, brief, y 7, y 8, y 9⟩
theorem byT_ten (m : Mt) : byT m.now m.half m.split m.brief (ten m) = m := rfl
def tn (y : Nat → Int) : Array Value := #[.int .i64 (y 0), .int .i64 (y 1), .int .i64 (y 2), .int .i64 (y 3), .int .i64 (y 4), .int .i64 (y 5), .int .i64 (y 6), .int .i64 (y 7), .int .i64 (y 8), .int .i64 (y 9)]
theorem tn_index (y : Nat → Int) (w : World) : ∀ k, k < 10 → (Instr.index 89 (.agg (tn y)) (.int .i64 (k : Nat))).run Try.prog w = .ok (.int .i64 (y k)) w := by
  intro i hi
  have : i = 0 ∨ i = 1 ∨ i = 2 ∨ i = 3 ∨ i = 4 ∨ i = 5 ∨ i = 6 ∨ i = 7 ∨ i = 8 ∨ i = 9 := by omega
  rcases this with rfl | rfl | rfl | rfl | rfl | rfl | rfl | rfl | rfl | rfl <;> (show _ = _; kernel_rfl)

set_option maxRecDepth 20000 in
set_option maxHeartbeats 1600000 in
open Classical in
theorem mcheck_any (m : Mt) (w : World) :
    Calls Try.prog 44 #[.agg (mt m)] w fun e w' => e = .returned (.int .i64 (if MayM m then 0 else 1)) ∧ Below w.heap.size w w' := by
  obtain ⟨v, hv⟩ : ∃ v : Int, (if MayM m then 0 else 1) = v := ⟨_, rfl⟩
  rw [hv]
  have HV := Lib.hid (may_ten m)
  obtain ⟨a0, a1, a2, a3, a4, a5, a6, a7, a8, a9, a10, a11, a12, a13⟩ := m
  have hV1 : Hid (¬ MayM ⟨a0, a1, a2, a3, a4, a5, a6, a7, a8, a9, a10, a11, a12, a13⟩ → v = 1) := Lib.hid (fun h => by rw [← hv, if_neg h])
  have hV0 : Hid (MayM ⟨a0, a1, a2, a3, a4, a5, a6, a7, a8, a9, a10, a11, a12, a13⟩ → v = 0) := Lib.hid (fun h => by rw [← hv, if_pos h])
  clear hv
  obtain ⟨y, hy⟩ : ∃ y, ten ⟨a0, a1, a2, a3, a4, a5, a6, a7, a8, a9, a10, a11, a12, a13⟩ = y := ⟨_, rfl⟩
  have hT : (#[.int .i64 a1, .int .i64 a3, .int .i64 a4, .int .i64 a5, .int .i64 a6, .int .i64 a8, .int .i64 a9, .int .i64 a11, .int .i64 a12, .int .i64 a13] : Array Value) = tn y := by rw [← hy]; rfl
  have HV : Hid (MayM ⟨a0, a1, a2, a3, a4, a5, a6, a7, a8, a9, a10, a11, a12, a13⟩ ↔ (0 ≤ a0 ∧ a0 ≤ 40320) ∧ ∀ k, k < 10 → 0 ≤ y k ∧ y k ≤ a0) := Lib.hid (by have := HV.out; rw [hy] at this; exact this)
  clear hy
  generalize hMM : MayM ⟨a0, a1, a2, a3, a4, a5, a6, a7, a8, a9, a10, a11, a12, a13⟩ = MM at HV hV0 hV1
  clear hMM
  have B0 : Bx (w.alloc (.cells (mt ⟨a0, a1, a2, a3, a4, a5, a6, a7, a8, a9, a10, a11, a12, a13⟩) 36)) w.heap.size 36 (mt ⟨a0, a1, a2, a3, a4, a5, a6, a7, a8, a9, a10, a11, a12, a13⟩) := Bx.new _ _ rfl
  have p0 : (w.alloc (.cells (mt ⟨a0, a1, a2, a3, a4, a5, a6, a7, a8, a9, a10, a11, a12, a13⟩) 36)).cell? ⟨w.heap.size, 0, none⟩ = some (.int .i64 a0) := B0.cell rfl
  have p1 : (w.alloc (.cells (mt ⟨a0, a1, a2, a3, a4, a5, a6, a7, a8, a9, a10, a11, a12, a13⟩) 36)).cell? ⟨w.heap.size, 1, none⟩ = some (.int .i64 a1) := B0.cell rfl
  have p3 : (w.alloc (.cells (mt ⟨a0, a1, a2, a3, a4, a5, a6, a7, a8, a9, a10, a11, a12, a13⟩) 36)).cell? ⟨w.heap.size, 3, none⟩ = some (.int .i64 a3) := B0.cell rfl
  have p4 : (w.alloc (.cells (mt ⟨a0, a1, a2, a3, a4, a5, a6, a7, a8, a9, a10, a11, a12, a13⟩) 36)).cell? ⟨w.heap.size, 4, none⟩ = some (.int .i64 a4) := B0.cell rfl
  have p5 : (w.alloc (.cells (mt ⟨a0, a1, a2, a3, a4, a5, a6, a7, a8, a9, a10, a11, a12, a13⟩) 36)).cell? ⟨w.heap.size, 5, none⟩ = some (.int .i64 a5) := B0.cell rfl
  have p6 : (w.alloc (.cells (mt ⟨a0, a1, a2, a3, a4, a5, a6, a7, a8, a9, a10, a11, a12, a13⟩) 36)).cell? ⟨w.heap.size, 6, none⟩ = some (.int .i64 a6) := B0.cell rfl
  have p8 : (w.alloc (.cells (mt ⟨a0, a1, a2, a3, a4, a5, a6, a7, a8, a9, a10, a11, a12, a13⟩) 36)).cell? ⟨w.heap.size, 8, none⟩ = some (.int .i64 a8) := B0.cell rfl
  have p9 : (w.alloc (.cells (mt ⟨a0, a1, a2, a3, a4, a5, a6, a7, a8, a9, a10, a11, a12, a13⟩) 36)).cell? ⟨w.heap.size, 9, none⟩ = some (.int .i64 a9) := B0.cell rfl
  have p11 : (w.alloc (.cells (mt ⟨a0, a1, a2, a3, a4, a5, a6, a7, a8, a9, a10, a11, a12, a13⟩) 36)).cell? ⟨w.heap.size, 11, none⟩ = some (.int .i64 a11) := B0.cell rfl
  have p12 : (w.alloc (.cells (mt ⟨a0, a1, a2, a3, a4, a5, a6, a7, a8, a9, a10, a11, a12, a13⟩) 36)).cell? ⟨w.heap.size, 12, none⟩ = some (.int .i64 a12) := B0.cell rfl
  have p13 : (w.alloc (.cells (mt ⟨a0, a1, a2, a3, a4, a5, a6, a7, a8, a9, a10, a11, a12, a13⟩) 36)).cell? ⟨w.heap.size, 13, none⟩ = some (.int .i64 a13) := B0.cell rfl
  by_cases h0 : a0 < 0
  case pos =>
    have d0 : decide (a0 < 0) = true := decide_eq_true h0
    obtain rfl : v = 1 := hV1.out (fun h => by have := HV.out.1 h; omega)
    clear h0 HV hV0 hV1 hT
    go_enter Try.func44, Try.ntmps44
    go_wp2
    go_ret
    exact ⟨rfl, (Below.refl _ _).alloc (Nat.le_refl _) _⟩
  have d0 : decide (a0 < 0) = false := decide_eq_false h0
  by_cases h1 : 40320 < a0
  case pos =>
    have d1 : decide (40320 < a0) = true := decide_eq_true h1
    obtain rfl : v = 1 := hV1.out (fun h => by have := HV.out.1 h; omega)
    clear h0 h1 HV hV0 hV1 hT
    go_enter Try.func44, Try.ntmps44
    go_wp2
    go_ret
    exact ⟨rfl, (Below.refl _ _).alloc (Nat.le_refl _) _⟩
  have d1 : decide (40320 < a0) = false := decide_eq_false h1
  go_enter Try.func44, Try.ntmps44
  go_wp2_with (refine wpList_build_as rfl 89 _ rfl (tn y) (by first | exact congrArg some hT | (rw [← hT]; kernel_rfl)) ?_)
  clear p1 p3 p4 p5 p6 p8 p9 p11 p12 p13 B0 hT
  go_loop [34] (fun i => ∃ k : Nat, k ≤ 10 ∧ i = .int .i64 k ∧ Hid (∀ j, j < k → 0 ≤ y j ∧ y j ≤ a0)) (fun i => 10 - (intOf i).toNat)
  case atStart => exact ⟨0, Nat.zero_le _, rfl, Lib.hid (fun j hj => by omega)⟩
  case round =>
    obtain ⟨k, hk, rfl, H⟩ := hrel
    by_cases hlt : k < 10
    case neg =>
      obtain rfl : k = 10 := by omega
      obtain rfl : v = 0 := hV0.out (HV.out.2 ⟨by omega, fun j hj => H.out j hj⟩)
      go_wp2
      go_ret
      exact ⟨rfl, (Below.refl _ _).alloc (Nat.le_refl _) _⟩
    have hi0 := fun W => tn_index y W k hlt
    obtain ⟨n, hn⟩ : ∃ n, y k = n := ⟨_, rfl⟩
    rw [hn] at hi0
    have hn := Lib.hid hn
    by_cases lo : n < 0
    case pos =>
      have dl : decide (n < 0) = true := decide_eq_true lo
      obtain rfl : v = 1 := hV1.out (fun h => by have := (HV.out.1 h).2 k hlt; rw [hn.out] at this; omega)
      clear lo HV hV0 hV1
      go_wp2
      go_ret
      exact ⟨rfl, (Below.refl _ _).alloc (Nat.le_refl _) _⟩
    have dl : decide (n < 0) = false := decide_eq_false lo
    by_cases hi : a0 < n
    case pos =>
      have dh : decide (a0 < n) = true := decide_eq_true hi
      obtain rfl : v = 1 := hV1.out (fun h => by have := (HV.out.1 h).2 k hlt; rw [hn.out] at this; omega)
      clear lo hi HV hV0 hV1
      go_wp2
      go_ret
      exact ⟨rfl, (Below.refl _ _).alloc (Nat.le_refl _) _⟩
    have dh : decide (a0 < n) = false := decide_eq_false hi
    have HN : Hid (0 ≤ n ∧ n ≤ a0) := Lib.hid ⟨by omega, by omega⟩
    clear lo hi
    go_wp2
    go_round
    case rel => exact ⟨k + 1, by omega, by go_num, Lib.hid (fun j hj => by
        by_cases e : j = k
        · subst e; rw [hn.out]; exact HN.out
        · exact H.out j (by omega))⟩
    case measure => simp [intOf]; omega

end Go.Proofs.Ytglgifhpacmhiaa
