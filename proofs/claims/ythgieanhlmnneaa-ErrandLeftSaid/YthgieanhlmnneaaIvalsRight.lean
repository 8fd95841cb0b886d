/- What the reference's Right of layer 3 returns, for any slice of spans that can be read. Conditions: as each theorem says. -/
import Derived.Test.YthgieanhlmnneaaRows
import Derived.Test.YthgieanhlmnneaaBase
import Derived.Test.YthgieanhlmnneaaIvalsWords
import Derived.Test.YthgieanhlmnneaaIvalLeaf
import Derived.WalkKit
import Derived.WalkSpells
import Derived.WalkSmall
import Derived.Below
import Derived.Outline
import Derived.Lib.Hide
import Derived.BigQuiet
import Derived.Deep.QuietTactic
namespace Go.Proofs.Ythgieanhlmnneaa
open Go.RowKit

set_option maxHeartbeats 400000 in
theorem refrightl_any (A : Option Addr) (c : Nat) (l : List Sp) (w : World) (h : RdS w A l) (hl : l.length ≤ 4611686018427387904) :
    Calls Try.prog 33 #[.slice A l.length c] w fun e w' => e = .returned (.bool (rightB l)) ∧ Below w.heap.size w w' := by
  go_enter Try.func33, Try.ntmps33
  go_wp2
  go_loopw [3] (fun i wr => ∃ k : Nat, k ≤ l.length ∧ i = .int .i64 k ∧ Below w.heap.size w wr ∧ Hid (∀ j, j < k → okAt l j = true)) (fun i _ => l.length - (intOf i).toNat)
  case atStart => exact ⟨0, Nat.zero_le _, rfl, Below.refl _ _, Lib.hid (by omega)⟩
  case round =>
    obtain ⟨k, hk, rfl, hb, hn⟩ := hrel
    have hsz := hb.size
    by_cases hlt : k < l.length
    · obtain ⟨b, off, x, y, rfl, hbb, hc1, hc2, hs⟩ := h.at_ hlt
      rw [← hb.cell (p := ⟨b, _, none⟩) hbb] at hc1 hc2
      have q1 : ∀ p : BelowOf wr, p.world.cell? ⟨b, off + k * 2, none⟩ = some (.int .i64 x) := fun p => p.cell hc1
      have q2 : ∀ p : BelowOf wr, p.world.cell? ⟨b, off + k * 2 + 1, none⟩ = some (.int .i64 y) := fun p => p.cell hc2
      by_cases hxy : x < y
      · by_cases h0 : k = 0
        · subst h0
          have hg : decide ((0 : Int) < 0) = false := by decide
          simp only [Nat.zero_mul, Nat.add_zero] at q1 q2
          go_wp2
          refine wp_region_bel (by kernel_rfl) (by kernel_rfl) ?_
          repeat (go_big_quiet_step (first | (go_at_call 32; exact Calls.bel_of (refright_yes _ _ _ hxy))))
          refine wpQuiet_nil ?_
          rintro _ ⟨⟨wq, hbq⟩, rfl⟩
          clear q1 q2
          go_wp2
          go_roundw
          case rel => exact ⟨0 + 1, by omega, by go_num, hb.trans (hbq.mono hsz), Lib.hid (fun j hj => by
            have : j = 0 := by omega
            subst this
            unfold okAt; rw [hs.out]; simp [hxy])⟩
          case measure => simp [intOf]; omega
        · obtain ⟨j, rfl⟩ : ∃ j, k = j + 1 := ⟨k - 1, by omega⟩
          obtain ⟨b', off', x', y', hA, hbb', hc1', hc2', hs'⟩ := h.at_ (show j < l.length by omega)
          obtain ⟨rfl, rfl⟩ : b = b' ∧ off = off' := by simpa using hA
          clear hA
          rw [← hb.cell (p := ⟨b, _, none⟩) hbb'] at hc1' hc2'
          have q3 : ∀ p : BelowOf wr, p.world.cell? ⟨b, off + j * 2 + 1, none⟩ = some (.int .i64 y') := fun p => p.cell hc2'
          have hg : decide ((0 : Int) < (j : Int) + 1) = true := decide_eq_true (by omega)
          have ok : okAt l (j + 1) = decide (y' < x) := by
            unfold okAt; rw [hs.out, show j + 1 - 1 = j from rfl, hs'.out]; simp [hxy]
          have OK := Lib.hid ok
          clear ok
          by_cases hp : x ≤ y'
          · go_wp2
            refine wp_region_bel (by kernel_rfl) (by kernel_rfl) ?_
            repeat (go_big_quiet_step (first | (go_at_call 32; exact Calls.bel_of (refright_yes _ _ _ hxy))))
            refine wpQuiet_nil ?_
            rintro _ ⟨⟨wq, hbq⟩, rfl⟩
            clear q1 q2 q3
            go_wp2
            go_ret
            refine ⟨?_, hb.trans (hbq.mono hsz)⟩
            rw [rightB_no hlt (by rw [OK.out]; simp; omega)]; rfl
          · have hp' : y' < x := by omega
            go_wp2
            refine wp_region_bel (by kernel_rfl) (by kernel_rfl) ?_
            repeat (go_big_quiet_step (first | (go_at_call 32; exact Calls.bel_of (refright_yes _ _ _ hxy))))
            refine wpQuiet_nil ?_
            rintro _ ⟨⟨wq, hbq⟩, rfl⟩
            clear q1 q2 q3
            go_wp2
            go_roundw
            case rel => exact ⟨j + 1 + 1, by omega, by go_num, hb.trans (hbq.mono hsz), Lib.hid (fun i hi => by
              by_cases e : i = j + 1
              · subst e; rw [OK.out]; simpa using hp'
              · exact hn.out i (by omega))⟩
            case measure => simp [intOf]; omega
      · go_wp2
        refine wp_region_bel (by kernel_rfl) (by kernel_rfl) ?_
        repeat (go_big_quiet_step (first | (go_at_call 32; exact Calls.bel_of (refright_no _ _ _ (by omega)))))
        refine wpQuiet_nil ?_
        rintro _ ⟨⟨wq, hbq⟩, rfl⟩
        clear q1 q2
        go_wp2
        go_ret
        refine ⟨?_, hb.trans (hbq.mono hsz)⟩
        rw [rightB_no hlt (by unfold okAt; rw [hs.out]; simp; omega)]; rfl
    · go_wp2
      go_ret
      refine ⟨?_, hb⟩
      rw [rightB_yes fun j hj => hn.out j (by omega)]; rfl

end Go.Proofs.Ythgieanhlmnneaa
