/- What the reference's Same and Next of layer 3, and Next itself, return, for any slices of spans that can be read. Conditions: as each theorem says. -/
import Derived.Test.YtllinfcdbbmjaaaRows
import Derived.Test.YtllinfcdbbmjaaaBase
import Derived.Test.YtllinfcdbbmjaaaIvalsWords
import Derived.Test.YtllinfcdbbmjaaaIvalLeaf
import Derived.Test.YtllinfcdbbmjaaaIvalTwo
import Derived.WalkKit
import Derived.WalkSpells
import Derived.WalkSmall
import Derived.Below
import Derived.Outline
import Derived.Lib.Hide
import Derived.BigQuiet
import Derived.Deep.QuietTactic
namespace Go.Proofs.Ytllinfcdbbmjaaa
open Go.RowKit

theorem same_go {a b : List Sp} {k : Nat} (h : a.length = b.length) (hk : a.length ≤ k) (hn : ∀ j, j < k → a.getD j (0, 0) = b.getD j (0, 0)) : decide (a = b) = true := by
  refine decide_eq_true (List.ext_getElem h fun i h1 h2 => ?_)
  have := hn i (by omega)
  simpa [List.getD, h1, h2] using this

theorem same_no {a b : List Sp} {k : Nat} (h : a.getD k (0, 0) ≠ b.getD k (0, 0)) : decide (a = b) = false := by
  refine decide_eq_false fun e => h (by rw [e])

set_option maxHeartbeats 800000 in
theorem same_even (A B : Option Addr) (c d n : Nat) (a b : List Sp) (w : World) (hna : Hid (a.length = n)) (hnb : Hid (b.length = n)) (ha : RdS w A a) (hb : RdS w B b) (hl : n ≤ 4611686018427387904) :
    Calls Try.prog 17 #[.slice A n c, .slice B n d] w fun e w' => e = .returned (.bool (decide (a = b))) ∧ Below w.heap.size w w' := by
  go_enter Try.func17, Try.ntmps17
  go_wp2
  go_loopw [5] (fun i wr => ∃ k : Nat, k ≤ n ∧ i = .int .i64 k ∧ Below w.heap.size w wr ∧ Hid (∀ j, j < k → a.getD j (0, 0) = b.getD j (0, 0))) (fun i _ => n - (intOf i).toNat)
  case atStart => exact ⟨0, Nat.zero_le _, rfl, Below.refl _ _, Lib.hid (by omega)⟩
  case round =>
    obtain ⟨k, hk, rfl, hbw, hn⟩ := hrel
    have hsz := hbw.size
    by_cases hlt : k < n
    · obtain ⟨b1, off, x, y, rfl, hbb, hc1, hc2, hs⟩ := ha.at_ (k := k) (by rw [hna.out]; exact hlt)
      obtain ⟨b2, off2, x2, y2, rfl, hbb2, hd1, hd2, hs2⟩ := hb.at_ (k := k) (by rw [hnb.out]; exact hlt)
      rw [← hbw.cell (p := ⟨b1, _, none⟩) hbb] at hc1 hc2
      rw [← hbw.cell (p := ⟨b2, _, none⟩) hbb2] at hd1 hd2
      have q1 : ∀ p : BelowOf wr, p.world.cell? ⟨b1, off + k * 2, none⟩ = some (.int .i64 x) := fun p => p.cell hc1
      have q2 : ∀ p : BelowOf wr, p.world.cell? ⟨b1, off + k * 2 + 1, none⟩ = some (.int .i64 y) := fun p => p.cell hc2
      have q3 : ∀ p : BelowOf wr, p.world.cell? ⟨b2, off2 + k * 2, none⟩ = some (.int .i64 x2) := fun p => p.cell hd1
      have q4 : ∀ p : BelowOf wr, p.world.cell? ⟨b2, off2 + k * 2 + 1, none⟩ = some (.int .i64 y2) := fun p => p.cell hd2
      by_cases hx : x = x2
      · subst hx
        by_cases hy : y = y2
        · subst hy
          go_wp2
          refine wp_region_bel (by kernel_rfl) (by kernel_rfl) ?_
          repeat (go_big_quiet_step (fail))
          refine wpQuiet_nil ?_
          rintro _ ⟨⟨wq, hbq⟩, rfl⟩
          clear q1 q2 q3 q4
          go_wp2
          go_roundw
          case rel => exact ⟨k + 1, by omega, by go_num, hbw.trans (hbq.mono hsz), Lib.hid (fun j hj => by
            by_cases e : j = k
            · subst e; rw [hs.out, hs2.out]
            · exact hn.out j (by omega))⟩
          case measure => simp [intOf]; omega
        · have e1 : (y == y2) = false := by simpa using hy
          have H := Lib.hid hy
          clear hy
          go_wp2
          refine wp_region_bel (by kernel_rfl) (by kernel_rfl) ?_
          repeat (go_big_quiet_step (fail))
          refine wpQuiet_nil ?_
          rintro _ ⟨⟨wq, hbq⟩, rfl⟩
          clear q1 q2 q3 q4
          go_wp2
          go_ret
          refine ⟨?_, hbw.trans (hbq.mono hsz)⟩
          rw [same_no (k := k) (by rw [hs.out, hs2.out]; intro e; injection e with e1 e2; exact H.out (by assumption))]; rfl
      · have e1 : (x == x2) = false := by simpa using hx
        have H := Lib.hid hx
        clear hx
        go_wp2
        refine wp_region_bel (by kernel_rfl) (by kernel_rfl) ?_
        repeat (go_big_quiet_step (fail))
        refine wpQuiet_nil ?_
        rintro _ ⟨⟨wq, hbq⟩, rfl⟩
        clear q1 q2 q3 q4
        go_wp2
        go_ret
        refine ⟨?_, hbw.trans (hbq.mono hsz)⟩
        rw [same_no (k := k) (by rw [hs.out, hs2.out]; intro e; injection e with e1 e2; exact H.out (by assumption))]; rfl
    · go_wp2
      go_ret
      refine ⟨?_, hbw⟩
      rw [same_go (hna.out.trans hnb.out.symm) (by rw [hna.out]; omega) hn.out]; rfl

set_option maxHeartbeats 400000 in
theorem same_any (A B : Option Addr) (c d : Nat) (a b : List Sp) (w : World) (ha : RdS w A a) (hb : RdS w B b) (hl : a.length ≤ 4611686018427387904) :
    Calls Try.prog 17 #[.slice A a.length c, .slice B b.length d] w fun e w' => e = .returned (.bool (decide (a = b))) ∧ Below w.heap.size w w' := by
  by_cases hlen : b.length = a.length
  · rw [hlen]
    exact same_even A B c d a.length a b w (Lib.hid rfl) (Lib.hid hlen) ha hb hl
  · have e : decide (a = b) = false := decide_eq_false fun e => hlen (by rw [e])
    have hbl : ((a.length : Int) == (b.length : Int)) = false := by simp; omega
    rw [e]
    have H := Lib.hid hlen
    clear hlen e
    go_enter Try.func17, Try.ntmps17
    go_wp2
    go_ret
    exact ⟨rfl, Below.refl _ _⟩

end Go.Proofs.Ytllinfcdbbmjaaa
