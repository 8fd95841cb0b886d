/- Small facts on what a call leaves as it was, for any program. Conditions: none beyond each lemma's own premises. -/
import Derived.Below
import Derived.Deep.Draws
import Derived.Deep.RegionHeld
import Derived.Lib.Hide
namespace Go.Proofs.Ytolbihfnogbjaaa
open Go.RowKit

theorem bcell {W w1 : World} (hb : Below W.heap.size W w1) : (∀ b o, b < W.heap.size → w1.cell? ⟨b, o, none⟩ = W.cell? ⟨b, o, none⟩) ∧ (∀ b o, b < W.heap.size → w1.frozen? ⟨b, o, none⟩ = W.frozen? ⟨b, o, none⟩) :=
  ⟨fun b o h => hb.cell (p := ⟨b, o, none⟩) h, fun b o h => hb.frozen (p := ⟨b, o, none⟩) h⟩
theorem b_al {n : Nat} {w W : World} (h : Below n w W) (hn : n ≤ w.heap.size) (o : Obj) : Below n w (W.alloc o) := h.alloc (Nat.le_trans hn h.size) o
theorem b_cl {n : Nat} {w W w1 : World} (h : Below n w W) (hn : n ≤ w.heap.size) (hb : Below W.heap.size W w1) : Below n w w1 := h.trans (hb.mono (Nat.le_trans hn h.size))
theorem b_st {n : Nat} {w W : World} {p : Addr} {v : Value} (h : Below n w W) (hp : n ≤ p.block) : Below n w (W.setCell p v) := h.setCell hp _
theorem b_dn {n k : Nat} {w W : World} (h : Below n w W) : Below n w (W.drewN k) := ⟨h.os, h.tape, h.output, h.size, h.block⟩
theorem b_dr {n : Nat} {w W : World} (h : Below n w W) : Below n w W.drew := ⟨h.os, h.tape, h.output, h.size, h.block⟩

theorem c_lt {W : World} {p : Addr} {v : Value} (h : W.cell? p = some v) : p.block < W.heap.size := World.block_lt_of_cell? W p h
theorem c_al {W : World} {p : Addr} {v : Value} (o : Obj) (h : W.cell? p = some v) : (W.alloc o).cell? p = some v := by
  rw [World.cell?_alloc_some W p o (by rw [h]; rfl), h]
theorem c_cl {W w1 : World} {p : Addr} {v : Value} (h : W.cell? p = some v) (hb : Below W.heap.size W w1) : w1.cell? p = some v := by
  rw [hb.cell (c_lt h), h]

end Go.Proofs.Ytolbihfnogbjaaa
