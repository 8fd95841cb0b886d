/- What the document's own Same of layer 7 returns, for any ints. Conditions: the ints can be read. -/
import Derived.Test.YthgdclcmohgciaaRows
import Derived.Test.YthgdclcmohgciaaBase
import Derived.Test.YthgdclcmohgciaaRow
import Derived.Test.YthgdclcmohgciaaRecHeap
import Derived.WalkKit
import Derived.WalkSpells
import Derived.WalkSmall
import Derived.Below
import Derived.Outline
import Derived.OwnWalk
import Derived.Lib.Hide
import Derived.BigQuiet
import Derived.Deep.QuietTactic
namespace Go.Proofs.Ythgdclcmohgciaa
open Go.RowKit

theorem RdN.getD {w : World} {A : Option Addr} {l : List Int} (h : RdN w A l) {k : Nat} (hk : k < l.length) : ∃ b off x, A = some ⟨b, off, none⟩ ∧ b < w.heap.size ∧ w.cell? ⟨b, off + k, none⟩ = some (.int .i64 x) ∧ Hid (l.getD k 0 = x) := by
  obtain ⟨b, off, hA, hb, hc⟩ := h (nonnil hk)
  exact ⟨b, off, _, hA, hb, hc k hk, Lib.hid rfl⟩

theorem samen_go {a b : List Int} {k : Nat} (h : a.length = b.length) (hk : a.length ≤ k) (hn : ∀ j, j < k → a.getD j 0 = b.getD j 0) : decide (a = b) = true := by
  refine decide_eq_true (List.ext_getElem h fun i h1 h2 => ?_)
  have := hn i (by omega)
  simpa [List.getD, h1, h2] using this

theorem samen_no {a b : List Int} {k : Nat} (h : a.getD k 0 ≠ b.getD k 0) : decide (a = b) = false := by
  refine decide_eq_false fun e => h (by rw [e])

set_option maxHeartbeats 1600000 in
theorem sameN_even (A B : Option Addr) (c d n : Nat) (a b : List Int) (w : World) (hna : Hid (a.length = n)) (hnb : Hid (b.length = n)) (ha : RdN w A a) (hb : RdN w B b) (hl : n ≤ 4611686018427387904) :
    Calls Try.prog 11 #[.slice A n c, .slice B n d] w fun e w' => e = .returned (.bool (decide (a = b))) ∧ Below w.heap.size w w' := by
  go_enter Try.func11, Try.ntmps11
  go_wp2
  go_loopw [5] (fun i wr => ∃ k : Nat, k ≤ n ∧ i = .int .i64 k ∧ Below w.heap.size w wr ∧ Hid (∀ j, j < k → a.getD j 0 = b.getD j 0)) (fun i _ => n - (intOf i).toNat)
  case atStart => exact ⟨0, Nat.zero_le _, rfl, Below.refl _ _, Lib.hid (by omega)⟩
  case round =>
    obtain ⟨k, hk, rfl, hbw, hn⟩ := hrel
    have hsz := hbw.size
    by_cases hlt : k < n
    · obtain ⟨b1, off, x, rfl, hbb, hc0, hs⟩ := ha.getD (k := k) (by rw [hna.out]; exact hlt)
      obtain ⟨b2, off2, x2, rfl, hbb2, hd0, hs2⟩ := hb.getD (k := k) (by rw [hnb.out]; exact hlt)
      rw [← hbw.cell (p := ⟨b1, _, none⟩) hbb] at hc0
      rw [← hbw.cell (p := ⟨b2, _, none⟩) hbb2] at hd0
      have q0 : ∀ p : BelowOf wr, p.world.cell? ⟨b1, off + k, none⟩ = some (.int .i64 x) := fun p => p.cell hc0
      have q3 : ∀ p : BelowOf wr, p.world.cell? ⟨b2, off2 + k, none⟩ = some (.int .i64 x2) := fun p => p.cell hd0
      by_cases hx : x = x2
      · subst hx
        go_wp2
        refine wp_region_bel (by kernel_rfl) (by kernel_rfl) ?_
        repeat (go_big_quiet_step (first | (fail)))
        refine wpQuiet_nil ?_
        refine bel_all fun wq hbq => ?_
        clear q0 q3
        go_wp2
        go_roundw
        case rel => exact ⟨k + 1, by omega, by go_num, hbw.trans (hbq.mono hsz), Lib.hid (fun j hj => by
          by_cases e : j = k
          · subst e; rw [hs.out, hs2.out]
          · exact hn.out j (by omega))⟩
        case measure => simp [intOf]; omega
      · have e1 : (x == x2) = false := by simpa using hx
        have e2 : (x != x2) = true := by simpa using hx
        have H := Lib.hid hx
        clear hx
        go_wp2
        refine wp_region_bel (by kernel_rfl) (by kernel_rfl) ?_
        repeat (go_big_quiet_step (first | (fail)))
        refine wpQuiet_nil ?_
        refine bel_all fun wq hbq => ?_
        clear q0 q3
        go_wp2
        go_ret
        exact ⟨by rw [samen_no (k := k) (by rw [hs.out, hs2.out]; exact H.out)]; rfl, hbw.trans (hbq.mono hsz)⟩
    · have hg := Lib.hid (samen_go (a := a) (b := b) (k := k) (by rw [hna.out, hnb.out]) (by rw [hna.out]; omega) hn.out)
      go_wp2
      go_ret
      exact ⟨by rw [hg.out]; rfl, hbw⟩

theorem sameN_any (A B : Option Addr) (c d n m : Nat) (a b : List Int) (w : World) (hn : Hid (a.length = n)) (hm : Hid (b.length = m)) (ha : RdN w A a) (hb : RdN w B b) (hl : n ≤ 4611686018427387904) (hl2 : m ≤ 4611686018427387904) :
    Calls Try.prog 11 #[.slice A n c, .slice B m d] w fun e w' => e = .returned (.bool (decide (a = b))) ∧ Below w.heap.size w w' := by
  by_cases h : n = m
  · subst h
    exact sameN_even A B c d n a b w hn hm ha hb hl
  · have hd : decide (a = b) = false := decide_eq_false fun e => h (by rw [← hn.out, ← hm.out, e])
    rw [hd]
    have e1 : ((n : Int) == (m : Int)) = false := by simp; omega
    have e2 : ((n : Int) != (m : Int)) = true := by simp; omega
    clear h hd
    go_enter Try.func11, Try.ntmps11
    go_wp2
    go_ret
    exact ⟨rfl, Below.refl _ _⟩

end Go.Proofs.Ythgdclcmohgciaa
