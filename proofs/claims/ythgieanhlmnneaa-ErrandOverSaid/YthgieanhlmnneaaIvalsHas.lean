/- What the reference's Has and Right of layer 3 return, for any slice of spans that can be read. Conditions: as each theorem says. -/
import Derived.Test.YthgieanhlmnneaaRows
import Derived.Test.YthgieanhlmnneaaBase
import Derived.Test.YthgieanhlmnneaaIvalsWords
import Derived.Test.YthgieanhlmnneaaIvalLeaf
import Derived.WalkKit
import Derived.WalkSpells
import Derived.WalkSmall
import Derived.Below
import Derived.Outline
import Derived.Lib.Hide
namespace Go.Proofs.Ythgieanhlmnneaa
open Go.RowKit

set_option maxHeartbeats 400000 in
theorem refhasl_any (A : Option Addr) (c : Nat) (l : List Sp) (m : Int) (w : World) (h : RdS w A l) (hl : l.length ≤ 4611686018427387904) :
    Calls Try.prog 26 #[.slice A l.length c, .int .i64 m] w fun e w' => e = .returned (.bool (hasL l m)) ∧ Below w.heap.size w w' := by
  go_enter Try.func26, Try.ntmps26
  go_wp2
  go_loopw [5] (fun i wr => ∃ k : Nat, k ≤ l.length ∧ i = .int .i64 k ∧ Below w.heap.size w wr ∧ Hid (∀ s ∈ l.take k, ¬ (s.1 ≤ m ∧ m < s.2))) (fun i _ => l.length - (intOf i).toNat)
  case atStart => exact ⟨0, Nat.zero_le _, rfl, Below.refl _ _, Lib.hid (by simp)⟩
  case round =>
    obtain ⟨k, hk, rfl, hb, hn⟩ := hrel
    by_cases hlt : k < l.length
    · obtain ⟨b, off, x, y, rfl, hbb, hc1, hc2, hs⟩ := h.at_ hlt
      rw [← hb.cell (p := ⟨b, _, none⟩) hbb] at hc1 hc2
      have hsz := hb.size
      by_cases hxy : x ≤ m ∧ m < y
      · go_wp2_with (go_at_call 37; refine (refhas_yes _ _ _ _ hxy).mono ?_; rintro e w1 ⟨rfl, hb1⟩)
        go_ret
        refine ⟨?_, hb.trans (hb1.mono hsz)⟩
        rw [hasL_of l m k hlt (by rw [hs.out]; exact hxy)]; rfl
      · go_wp2_with (go_at_call 37; refine (refhas_no _ _ _ _ hxy).mono ?_; rintro e w1 ⟨rfl, hb1⟩)
        go_roundw
        case rel => exact ⟨k + 1, by omega, by go_num, hb.trans (hb1.mono hsz), Lib.hid (hasL_not l m k hlt (by rw [hs.out]; exact hxy) hn.out)⟩
        case measure => simp [intOf]; omega
    · go_wp2
      go_ret
      refine ⟨?_, hb⟩
      rw [hasL_no.2 (by have := hn.out; rwa [List.take_of_length_le (by omega)] at this)]; rfl

end Go.Proofs.Ythgieanhlmnneaa
