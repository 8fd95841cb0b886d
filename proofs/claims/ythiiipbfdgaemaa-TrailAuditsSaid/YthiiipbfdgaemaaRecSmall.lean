/- What isTimeline of layer 8, and the document's own Right, Begin and End return. Conditions: the records can be read. -/
import Derived.Test.YthiiipbfdgaemaaRows
import Derived.Test.YthiiipbfdgaemaaZ1
import Derived.Test.YthiiipbfdgaemaaZ2
import Derived.Test.YthiiipbfdgaemaaRecCheckR
import Derived.WalkKit
import Derived.WalkSpells
import Derived.WalkSmall
import Derived.Below
import Derived.Outline
import Derived.OwnWalk
import Derived.Lib.Hide
import Derived.BigQuiet
import Derived.Deep.QuietTactic
namespace Go.Proofs.Ythiiipbfdgaemaa
open Go.RowKit

theorem beg_at {l : List Rc} {n : Nat} {x y z : Int} (hn : l.length = n) (h0 : n ≠ 0) (h : l.getD 0 rz = (x, y, z)) : beg l = y := by
  cases l with
  | nil => simp at hn; omega
  | cons r l => simp at h; simp [beg, h]

theorem fin_at : ∀ {l : List Rc} {j : Nat} {x y z : Int}, l.length = j + 1 → l.getD j rz = (x, y, z) → fin l = z
  | [r], 0, x, y, z, _, h => by simp at h; simp [fin, h]
  | [r], j + 1, x, y, z, hl, _ => by simp at hl
  | r :: s :: l, 0, x, y, z, hl, _ => by simp at hl
  | r :: s :: l, j + 1, x, y, z, hl, h => by
    have := @fin_at (s :: l) j x y z (by simpa using hl) (by simpa using h)
    simpa [fin] using this

theorem refbeg_any (A : Option Addr) (c n : Nat) (l : List Rc) (w : World) (hn : Hid (l.length = n)) (h : RdR w A l) (hl : n ≤ 4611686018427387904) :
    Calls Try.prog 30 #[.slice A n c] w fun e w' => e = .returned (.int .i64 (beg l)) ∧ w = w' := by
  by_cases h0 : n = 0
  · subst h0
    obtain rfl : l = [] := List.eq_nil_of_length_eq_zero hn.out
    go_enter Try.func30, Try.ntmps30
    go_wp2
    go_ret
    exact ⟨rfl, rfl⟩
  · obtain ⟨b, off, x, y, z, rfl, hbb, hc0, hc1, hc2, hs⟩ := h.at_ (k := 0) (by rw [hn.out]; omega)
    simp only [Nat.zero_mul, Nat.add_zero] at hc0 hc1 hc2
    rw [beg_at hn.out h0 hs.out]
    have hp : (0 : Int) < (n : Int) := by omega
    have hp2 : 0 < n := by omega
    have hne : ((n : Int) == 0) = false := by simp; omega
    clear h0
    go_enter Try.func30, Try.ntmps30
    go_wp2
    go_ret
    exact ⟨rfl, rfl⟩

theorem reffin_any (A : Option Addr) (c n : Nat) (l : List Rc) (w : World) (hn : Hid (l.length = n)) (h : RdR w A l) (hl : n ≤ 4611686018427387904) :
    Calls Try.prog 32 #[.slice A n c] w fun e w' => e = .returned (.int .i64 (fin l)) ∧ w = w' := by
  by_cases h0 : n = 0
  · subst h0
    obtain rfl : l = [] := List.eq_nil_of_length_eq_zero hn.out
    go_enter Try.func32, Try.ntmps32
    go_wp2
    go_ret
    exact ⟨rfl, rfl⟩
  · obtain ⟨j, hj⟩ : ∃ j, n = j + 1 := ⟨n - 1, by omega⟩
    obtain ⟨b, off, x, y, z, rfl, hbb, hc0, hc1, hc2, hs⟩ := h.at_ (k := j) (by rw [hn.out]; omega)
    rw [fin_at (hn.out.trans hj) hs.out]
    have hnj : (n : Int) - 1 = (j : Int) := by omega
    have hjn : j < n := by omega
    have hne : ((n : Int) == 0) = false := by simp; omega
    clear h0 hj
    go_enter Try.func32, Try.ntmps32
    go_wp2
    go_ret
    exact ⟨rfl, rfl⟩

end Go.Proofs.Ythiiipbfdgaemaa
