/- What Right of layer 3 returns, for any slice of spans that can be read. Conditions: as each theorem says. -/
import Derived.Test.YthgieanhlmnneaaRows
import Derived.Test.YthgieanhlmnneaaBase
import Derived.Test.YthgieanhlmnneaaIvalsWords
import Derived.Test.YthgieanhlmnneaaIvalLeaf
import Derived.WalkKit
import Derived.WalkSpells
import Derived.WalkSmall
import Derived.Below
import Derived.Outline
import Derived.Lib.Hide
import Derived.BigQuiet
import Derived.Deep.QuietTactic
namespace Go.Proofs.Ythgieanhlmnneaa
open Go.RowKit

set_option maxHeartbeats 800000 in
theorem rightl_any (A : Option Addr) (c : Nat) (l : List Sp) (w : World) (h : RdS w A l) (hl : l.length ≤ 4611686018427387904) :
    Calls Try.prog 44 #[.slice A l.length c] w fun e w' => e = .returned (.bool (rightB l)) ∧ Below w.heap.size w w' := by
  go_enter Try.func44, Try.ntmps44
  go_wp2
  go_loopw [7] (fun i wr => ∃ k : Nat, k ≤ l.length ∧ i = .int .i64 k ∧ Below w.heap.size w wr ∧ Hid (∀ j, j < k → okAt l j = true)) (fun i _ => l.length - (intOf i).toNat)
  case atStart => exact ⟨0, Nat.zero_le _, rfl, Below.refl _ _, Lib.hid (by omega)⟩
  case round =>
    obtain ⟨k, hk, rfl, hb, hn⟩ := hrel
    have hsz := hb.size
    by_cases hlt : k < l.length
    · obtain ⟨b, off, x, y, rfl, hbb, hc1, hc2, hs⟩ := h.at_ hlt
      rw [← hb.cell (p := ⟨b, _, none⟩) hbb] at hc1 hc2
      have hbr : b < wr.heap.size := by omega
      have q1 : ∀ p : BelowOf (wr.alloc (.cells #[.int .i64 x, .int .i64 y] 58)), p.world.cell? ⟨wr.heap.size, 0, none⟩ = some (.int .i64 x) := fun p => p.cell (by simp)
      have q2 : ∀ p : BelowOf (wr.alloc (.cells #[.int .i64 x, .int .i64 y] 58)), p.world.cell? ⟨wr.heap.size, 1, none⟩ = some (.int .i64 y) := fun p => p.cell (by simp)
      by_cases hxy : x < y
      · by_cases h0 : k = 0
        · subst h0
          have hg : decide ((0 : Int) < 0) = false := by decide
          simp only [Nat.zero_mul, Nat.add_zero] at hc1 hc2
          go_wp2
          refine wp_region_bel (by kernel_rfl) (by kernel_rfl) ?_
          repeat (go_big_quiet_step (first | (go_at_call 42; exact Calls.bel_of (right_yes _ _ _ hxy))))
          refine wpQuiet_nil ?_
          refine bel_all fun wq hbq => ?_
          have hbw := (hb.alloc hsz (.cells #[.int .i64 x, .int .i64 y] 58)).trans (hbq.mono (by simp; omega))
          clear q1 q2
          go_wp2
          go_roundw
          case rel => exact ⟨0 + 1, by omega, by go_num, hbw, Lib.hid (fun j hj => by
            have : j = 0 := by omega
            subst this
            unfold okAt; rw [hs.out]; simp [hxy])⟩
          case measure => simp [intOf]; omega
        · obtain ⟨j, hj⟩ : ∃ j, k = j + 1 := ⟨k - 1, by omega⟩
          have HJ := Lib.hid hj
          have hkj : (k : Int) - 1 = (j : Int) := by omega
          have hjl : j < l.length := by omega
          clear hj
          obtain ⟨b', off', x', y', hA, hbb', hc1', hc2', hs'⟩ := h.at_ hjl
          obtain ⟨rfl, rfl⟩ : b = b' ∧ off = off' := by simpa using hA
          clear hA
          rw [← hb.cell (p := ⟨b, _, none⟩) hbb'] at hc1' hc2'
          have q3 : ∀ p : BelowOf (wr.alloc (.cells #[.int .i64 x, .int .i64 y] 58)), p.world.cell? ⟨b, off + j * 2 + 1, none⟩ = some (.int .i64 y') := fun p => p.cell (c_al _ hc2')
          have hg : decide (0 < k) = true := decide_eq_true (by have := HJ.out; omega)
          have OK := Lib.hid (show okAt l k = decide (y' < x) by
            unfold okAt; rw [hs.out, HJ.out, show j + 1 - 1 = j from rfl, hs'.out]; simp [hxy])
          by_cases hp : x ≤ y'
          · go_wp2
            refine wp_region_bel (by kernel_rfl) (by kernel_rfl) ?_
            repeat (go_big_quiet_step (first | (go_at_call 42; exact Calls.bel_of (right_yes _ _ _ hxy))))
            refine wpQuiet_nil ?_
            refine bel_all fun wq hbq => ?_
            have hbw := (hb.alloc hsz (.cells #[.int .i64 x, .int .i64 y] 58)).trans (hbq.mono (by simp; omega))
            clear q1 q2 q3
            go_wp2
            go_ret
            refine ⟨?_, hbw⟩
            rw [rightB_no hlt (by rw [OK.out]; simp; omega)]; rfl
          · have hp' : y' < x := by omega
            have HP := Lib.hid hp'
            go_wp2
            refine wp_region_bel (by kernel_rfl) (by kernel_rfl) ?_
            repeat (go_big_quiet_step (first | (go_at_call 42; exact Calls.bel_of (right_yes _ _ _ hxy))))
            refine wpQuiet_nil ?_
            refine bel_all fun wq hbq => ?_
            have hbw := (hb.alloc hsz (.cells #[.int .i64 x, .int .i64 y] 58)).trans (hbq.mono (by simp; omega))
            clear q1 q2 q3
            go_wp2
            go_roundw
            case rel => exact ⟨k + 1, by omega, by go_num, hbw, Lib.hid (fun i hi => by
              by_cases e : i = k
              · subst e; rw [OK.out]; exact decide_eq_true HP.out
              · exact hn.out i (by omega))⟩
            case measure => simp [intOf]; omega
      · have hyx : y ≤ x := by omega
        clear hxy
        go_wp2
        refine wp_region_bel (by kernel_rfl) (by kernel_rfl) ?_
        repeat (go_big_quiet_step (first | (go_at_call 42; exact Calls.bel_of (right_no _ _ _ (by omega)))))
        refine wpQuiet_nil ?_
        refine bel_all fun wq hbq => ?_
        have hbw := (hb.alloc hsz (.cells #[.int .i64 x, .int .i64 y] 58)).trans (hbq.mono (by simp; omega))
        clear q1 q2
        go_wp2
        go_ret
        refine ⟨?_, hbw⟩
        rw [rightB_no hlt (by unfold okAt; rw [hs.out]; simp; omega)]; rfl
    · go_wp2
      go_ret
      refine ⟨?_, hb⟩
      rw [rightB_yes fun j hj => hn.out j (by omega)]; rfl

end Go.Proofs.Ythgieanhlmnneaa
