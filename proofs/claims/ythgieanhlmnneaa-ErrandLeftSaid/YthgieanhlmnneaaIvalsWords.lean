/- A slice of spans that reads as a list, for any program. Conditions: none beyond each lemma's own premises. -/
import Derived.Below
import Derived.Deep.Draws
import Derived.Lib.Hide
import Derived.Deep.QuietTactic
import Derived.Laws.OwnMore
import Derived.Test.YthgieanhlmnneaaBase
import Derived.Test.YthgieanhlmnneaaRow
import Derived.Test.YthgieanhlmnneaaIvalsMath
import Derived.Test.YthgieanhlmnneaaIvalsMath2
import Derived.Test.YthgieanhlmnneaaIvalsMath3
namespace Go.Proofs.Ythgieanhlmnneaa
open Go.RowKit

/-- At the address A the spans of l lie one behind the other, in a block of w (of no span nothing is asked). -/
def RdS (w : World) (A : Option Addr) (l : List Sp) : Prop :=
  l ≠ [] → ∃ b off, A = some ⟨b, off, none⟩ ∧ b < w.heap.size ∧ ∀ k, k < l.length →
    w.cell? ⟨b, off + k * 2, none⟩ = some (.int .i64 (l.getD k (0, 0)).1) ∧ w.cell? ⟨b, off + k * 2 + 1, none⟩ = some (.int .i64 (l.getD k (0, 0)).2)

theorem RdS.nil (w : World) (A : Option Addr) : RdS w A [] := fun h => absurd rfl h

theorem ne_nil_of_lt {l : List Sp} {k : Nat} (h : k < l.length) : l ≠ [] := by
  intro e; subst e; cases h

theorem RdS.at_ {w : World} {A : Option Addr} {l : List Sp} (h : RdS w A l) {k : Nat} (hk : k < l.length) : ∃ b off x y, A = some ⟨b, off, none⟩ ∧ b < w.heap.size ∧
    w.cell? ⟨b, off + k * 2, none⟩ = some (.int .i64 x) ∧ w.cell? ⟨b, off + k * 2 + 1, none⟩ = some (.int .i64 y) ∧ Hid (l.getD k (0, 0) = (x, y)) := by
  obtain ⟨b, off, hA, hb, hc⟩ := h (ne_nil_of_lt hk)
  exact ⟨b, off, _, _, hA, hb, (hc k hk).1, (hc k hk).2, Lib.hid rfl⟩

theorem RdS.keep {w w' : World} {A : Option Addr} {l : List Sp} (h : RdS w A l) (hs : w.heap.size ≤ w'.heap.size) (hc : ∀ p : Addr, p.block < w.heap.size → w'.cell? p = w.cell? p) : RdS w' A l := fun hl => by
  obtain ⟨b, off, hA, hb, hk⟩ := h hl
  exact ⟨b, off, hA, by omega, fun k hk' => ⟨by rw [hc _ hb]; exact (hk k hk').1, by rw [hc _ hb]; exact (hk k hk').2⟩⟩

theorem RdS.below {w w' : World} {A : Option Addr} {l : List Sp} (h : RdS w A l) (hb : Below w.heap.size w w') : RdS w' A l :=
  h.keep hb.size fun _ hp => hb.cell hp

end Go.Proofs.Ythgieanhlmnneaa
