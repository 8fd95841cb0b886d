/- A slice of spans that the call itself has made: its block, a store into its last one's end. Conditions: none beyond each lemma's own premises. -/
import Derived.Test.YtllinfcdbbmjaaaIvalsOwn
namespace Go.Proofs.Ytllinfcdbbmjaaa
open Go.RowKit

theorem own_some {base : Nat} {w : World} {b off n c : Nat} {l : List Sp} (h : Own base w (.slice (some ⟨b, off, none⟩) n c) l) : off = 0 ∧ base ≤ b ∧ ∀ j, w.frozen? ⟨b, j, none⟩ = false := by
  rcases h.2 with ⟨h', _⟩ | ⟨g, cap, cur, h', hb, hg, _⟩
  · simp at h'
  · simp only [Value.slice.injEq, Option.some.injEq, Addr.mk.injEq, and_true] at h'
    obtain ⟨⟨rfl, rfl⟩, _, rfl⟩ := h'
    exact ⟨rfl, hb, fun j => by simp [World.frozen?, hg]⟩

theorem own_joined {base : Nat} {w : World} {b n c j : Nat} {l l' : List Sp} {z : Int} (h : Own base w (.slice (some ⟨b, 0, none⟩) n c) l) (hn : l.length = n) (hl : l'.length = l.length) (hf : flat l' = (flat l).set (j * 2 + 1) (.int .i64 z)) :
    Own base (w.setCell ⟨b, j * 2 + 1, none⟩ (.int .i64 z)) (.slice (some ⟨b, 0, none⟩) n c) l' := by
  unfold Own at *
  rw [hn] at h
  have h2 := (World.ownsRow.stored h (j * 2 + 1) (.int .i64 z)).1
  rw [hl, hn, hf]
  exact h2

end Go.Proofs.Ytllinfcdbbmjaaa
