/- What the document's own Same of layer 15 returns. Conditions: the findings can be read. -/
import Derived.Test.YtdepglceffpfhaaDoorRows
import Derived.Test.YtdepglceffpfhaaDoorBase
import Derived.Test.YtdepglceffpfhaaDoorRow
import Derived.Test.YtdepglceffpfhaaDoorRecMath
import Derived.Test.YtdepglceffpfhaaDoorFindHeap
import Derived.WalkKit
import Derived.WalkSpells
import Derived.WalkSmall
import Derived.Below
import Derived.Outline
import Derived.OwnWalk
import Derived.Lib.Hide
import Derived.BigQuiet
import Derived.Deep.QuietTactic
namespace Go.Proofs.YtdepglceffpfhaaDoor
open Go.RowKit

theorem samef_go {a b : List Rc} {k : Nat} (h : a.length = b.length) (hk : a.length ≤ k) (hn : ∀ j, j < k → a.getD j rz = b.getD j rz) : decide (a = b) = true := by
  refine decide_eq_true (List.ext_getElem h fun i h1 h2 => ?_)
  have := hn i (by omega)
  simpa [List.getD, h1, h2] using this

theorem samef_no {a b : List Rc} {k : Nat} (h : a.getD k rz ≠ b.getD k rz) : decide (a = b) = false := by
  refine decide_eq_false fun e => h (by rw [e])

set_option maxHeartbeats 1600000 in
theorem sameF_even (A B : Option Addr) (c d n : Nat) (a b : List Rc) (w : World) (hna : Hid (a.length = n)) (hnb : Hid (b.length = n)) (ha : RdF w A a) (hb : RdF w B b) (hl : n ≤ 4611686018427387904) :
    Calls Tryd.prog 18 #[.slice A n c, .slice B n d] w fun e w' => e = .returned (.bool (decide (a = b))) ∧ Below w.heap.size w w' := by
  go_enter Tryd.func18, Tryd.ntmps18
  go_wp2
  go_loopw [5] (fun i wr => ∃ k : Nat, k ≤ n ∧ i = .int .i64 k ∧ Below w.heap.size w wr ∧ Hid (∀ j, j < k → a.getD j rz = b.getD j rz)) (fun i _ => n - (intOf i).toNat)
  case atStart => exact ⟨0, Nat.zero_le _, rfl, Below.refl _ _, Lib.hid (by omega)⟩
  case round =>
    obtain ⟨k, hk, rfl, hbw, hn⟩ := hrel
    have hsz := hbw.size
    by_cases hlt : k < n
    · obtain ⟨b1, off, x, y, z, rfl, hbb, hc0, hc1, hc2, hs⟩ := ha.at_ (k := k) (by rw [hna.out]; exact hlt)
      obtain ⟨b2, off2, x2, y2, z2, rfl, hbb2, hd0, hd1, hd2, hs2⟩ := hb.at_ (k := k) (by rw [hnb.out]; exact hlt)
      rw [← hbw.cell (p := ⟨b1, _, none⟩) hbb] at hc0 hc1 hc2
      rw [← hbw.cell (p := ⟨b2, _, none⟩) hbb2] at hd0 hd1 hd2
      have q0 : ∀ p : BelowOf wr, p.world.cell? ⟨b1, off + k * 3, none⟩ = some (.int .i64 x) := fun p => p.cell hc0
      have q1 : ∀ p : BelowOf wr, p.world.cell? ⟨b1, off + k * 3 + 1, none⟩ = some (.int .i64 y) := fun p => p.cell hc1
      have q2 : ∀ p : BelowOf wr, p.world.cell? ⟨b1, off + k * 3 + 2, none⟩ = some (.int .i64 z) := fun p => p.cell hc2
      have q3 : ∀ p : BelowOf wr, p.world.cell? ⟨b2, off2 + k * 3, none⟩ = some (.int .i64 x2) := fun p => p.cell hd0
      have q4 : ∀ p : BelowOf wr, p.world.cell? ⟨b2, off2 + k * 3 + 1, none⟩ = some (.int .i64 y2) := fun p => p.cell hd1
      have q5 : ∀ p : BelowOf wr, p.world.cell? ⟨b2, off2 + k * 3 + 2, none⟩ = some (.int .i64 z2) := fun p => p.cell hd2
      by_cases hx : x = x2
      · subst hx
        by_cases hy : y = y2
        · subst hy
          by_cases hz : z = z2
          · subst hz
            go_wp2
            refine wp_region_bel (by kernel_rfl) (by kernel_rfl) ?_
            repeat (go_big_quiet_step (first | (fail)))
            refine wpQuiet_nil ?_
            refine bel_all fun wq hbq => ?_
            clear q0 q1 q2 q3 q4 q5
            go_wp2
            go_roundw
            case rel => exact ⟨k + 1, by omega, by go_num, hbw.trans (hbq.mono hsz), Lib.hid (fun j hj => by
              by_cases e : j = k
              · subst e; rw [hs.out, hs2.out]
              · exact hn.out j (by omega))⟩
            case measure => simp [intOf]; omega
          · have e1 : (z == z2) = false := by simpa using hz
            have H := Lib.hid hz
            clear hz
            go_wp2
            refine wp_region_bel (by kernel_rfl) (by kernel_rfl) ?_
            repeat (go_big_quiet_step (first | (fail)))
            refine wpQuiet_nil ?_
            refine bel_all fun wq hbq => ?_
            clear q0 q1 q2 q3 q4 q5
            go_wp2
            go_ret
            refine ⟨?_, hbw.trans (hbq.mono hsz)⟩
            rw [samef_no (k := k) (by rw [hs.out, hs2.out]; intro e; simp only [Prod.mk.injEq] at e; exact H.out (by first | exact e.1 | exact e.2.1 | exact e.2.2))]; rfl
        · have e1 : (y == y2) = false := by simpa using hy
          have H := Lib.hid hy
          clear hy
          go_wp2
          refine wp_region_bel (by kernel_rfl) (by kernel_rfl) ?_
          repeat (go_big_quiet_step (first | (fail)))
          refine wpQuiet_nil ?_
          refine bel_all fun wq hbq => ?_
          clear q0 q1 q2 q3 q4 q5
          go_wp2
          go_ret
          refine ⟨?_, hbw.trans (hbq.mono hsz)⟩
          rw [samef_no (k := k) (by rw [hs.out, hs2.out]; intro e; simp only [Prod.mk.injEq] at e; exact H.out (by first | exact e.1 | exact e.2.1 | exact e.2.2))]; rfl
      · have e1 : (x == x2) = false := by simpa using hx
        have H := Lib.hid hx
        clear hx
        go_wp2
        refine wp_region_bel (by kernel_rfl) (by kernel_rfl) ?_
        repeat (go_big_quiet_step (first | (fail)))
        refine wpQuiet_nil ?_
        refine bel_all fun wq hbq => ?_
        clear q0 q1 q2 q3 q4 q5
        go_wp2
        go_ret
        refine ⟨?_, hbw.trans (hbq.mono hsz)⟩
        rw [samef_no (k := k) (by rw [hs.out, hs2.out]; intro e; simp only [Prod.mk.injEq] at e; exact H.out (by first | exact e.1 | exact e.2.1 | exact e.2.2))]; rfl
    · go_wp2
      go_ret
      refine ⟨?_, hbw⟩
      rw [samef_go (hna.out.trans hnb.out.symm) (by rw [hna.out]; omega) hn.out]; rfl

theorem sameF_any (A B : Option Addr) (c d n m : Nat) (a b : List Rc) (w : World) (hn : Hid (a.length = n)) (hm : Hid (b.length = m)) (ha : RdF w A a) (hb : RdF w B b) (hl : n ≤ 4611686018427387904) :
    Calls Tryd.prog 18 #[.slice A n c, .slice B m d] w fun e w' => e = .returned (.bool (decide (a = b))) ∧ Below w.heap.size w w' := by
  by_cases hlen : m = n
  · subst hlen
    exact sameF_even A B c d m a b w hn hm ha hb hl
  · have e : decide (a = b) = false := decide_eq_false fun e => hlen (by rw [← hn.out, ← hm.out, e])
    have hbl : ((n : Int) == (m : Int)) = false := by simp; omega
    rw [e]
    have H := Lib.hid hlen
    clear hlen e
    go_enter Tryd.func18, Tryd.ntmps18
    go_wp2
    go_ret
    exact ⟨rfl, Below.refl _ _⟩

end Go.Proofs.YtdepglceffpfhaaDoor
