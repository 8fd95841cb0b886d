/- Where a row of the call's own lies. Conditions: none beyond the lemma's own premise. -/
import Derived.Test.YtpfmkggnnilknaaBase
import Derived.Below
namespace Go.Proofs.Ytpfmkggnnilknaa

theorem form_lt {w : World} {A : Option Addr} {n : Nat} (h : A = none ∨ ∃ b, A = some ⟨b, 0, none⟩ ∧ n ≤ b ∧ b < w.heap.size) : ∀ a, A = some a → a.block < w.heap.size := fun a ha => by
  rcases h with h | ⟨q, h, _, h2⟩
  · rw [h] at ha; cases ha
  · rw [h] at ha; injection ha with ha; rw [← ha]; exact h2

end Go.Proofs.Ytpfmkggnnilknaa
