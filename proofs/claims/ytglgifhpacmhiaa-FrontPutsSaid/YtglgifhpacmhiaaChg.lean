/- What a call leaves that turns one block and may make memory. Conditions: none beyond each lemma's own premises. -/
import Derived.Test.YtglgifhpacmhiaaBase
import Derived.Test.YtglgifhpacmhiaaBox
import Derived.Below
namespace Go.Proofs.Ytglgifhpacmhiaa
open Go.RowKit

/-- What a call leaves that turns block g and may make memory: g holds cs, all else that lay is as it was. -/
structure Chg (W : World) (g : Nat) (t : TypeId) (cs : Array Value) (W' : World) : Prop where
  size : W.heap.size ≤ W'.heap.size
  box : Bx W' g t cs
  other : ∀ k, k ≠ g → k < W.heap.size → W'.heap[k]? = W.heap[k]?
  bel : ∀ n, n ≤ g → n ≤ W.heap.size → Below n W W'

theorem Chg.refl {W : World} {g : Nat} {t : TypeId} {cs : Array Value} (h : Bx W g t cs) : Chg W g t cs W := ⟨Nat.le_refl _, h, fun _ _ _ => rfl, fun _ _ _ => Below.refl _ _⟩
theorem Chg.upd {W W1 W2 : World} {g : Nat} {t s : TypeId} {cs ds : Array Value} (c : Chg W g t cs W1) (u : Upd W1 g s ds W2) : Chg W g s ds W2 :=
  ⟨by rw [u.size]; exact c.size, u.box, fun k hk hl => (u.other k hk).trans (c.other k hk hl), fun n hn hl => (c.bel n hn hl).trans (u.bel n hn)⟩
theorem Chg.trans {W W1 W2 : World} {g : Nat} {t s : TypeId} {cs ds : Array Value} (c : Chg W g t cs W1) (d : Chg W1 g s ds W2) : Chg W g s ds W2 :=
  ⟨Nat.le_trans c.size d.size, d.box, fun k hk hl => (d.other k hk (Nat.lt_of_lt_of_le hl c.size)).trans (c.other k hk hl), fun n hn hl => (c.bel n hn hl).trans (d.bel n hn (Nat.le_trans hl c.size))⟩
theorem Chg.below {W W1 W2 : World} {g : Nat} {t : TypeId} {cs : Array Value} (c : Chg W g t cs W1) (hb : Below W1.heap.size W1 W2) : Chg W g t cs W2 :=
  ⟨Nat.le_trans c.size hb.size, c.box.below hb, fun k hk hl => (hb.block k (Nat.lt_of_lt_of_le hl c.size)).trans (c.other k hk hl), fun n hn hl => (c.bel n hn hl).trans (hb.mono (Nat.le_trans hl c.size))⟩
theorem Chg.alloc {W W1 : World} {g : Nat} {t : TypeId} {cs : Array Value} (c : Chg W g t cs W1) (o : Obj) : Chg W g t cs (W1.alloc o) := c.below ((Below.refl _ _).alloc (Nat.le_refl _) o)
theorem Chg.drew {W W1 : World} {g : Nat} {t : TypeId} {cs : Array Value} (c : Chg W g t cs W1) : Chg W g t cs W1.drew := ⟨c.size, c.box.drew, c.other, fun n hn hl => b_dr (c.bel n hn hl)⟩
theorem Chg.bx {W W' : World} {g h : Nat} {t s : TypeId} {cs ds : Array Value} (c : Chg W g t cs W') (hb : Bx W h s ds) (hp : h ≠ g) : Bx W' h s ds := (c.other h hp hb.lt).trans hb
theorem Chg.cell {W W' : World} {g : Nat} {t : TypeId} {cs : Array Value} (c : Chg W g t cs W') {p : Addr} (hp : p.block ≠ g) (hl : p.block < W.heap.size) : W'.cell? p = W.cell? p := World.cell?_of_block (w := W) (c.other p.block hp hl)

/-- What is stored is what lay there. -/
theorem Upd.same {W : World} {g : Nat} {t : TypeId} {cs : Array Value} (h : Bx W g t cs) : Upd W g t cs W := ⟨rfl, h, fun _ _ => rfl, fun _ _ => Below.refl _ _⟩
/-- One cell is stored. -/
theorem Bx.setOne {W : World} {g k : Nat} {t : TypeId} {cs : Array Value} {v : Value} (h : Bx W g t cs) : Upd W g t (cs.setIfInBounds k v) (W.setCell ⟨g, k, none⟩ v) := by
  unfold Bx at h
  have hs : (W.setCell ⟨g, k, none⟩ v).heap.size = W.heap.size := by simp [World.setCell]
  have ho : ∀ q, q ≠ g → (W.setCell ⟨g, k, none⟩ v).heap[q]? = W.heap[q]? := fun q hq => by
    simp only [World.setCell]
    rw [Array.getElem?_modify, if_neg (fun e => hq e.symm)]
  refine ⟨hs, ?_, ho, fun n hn => ⟨rfl, rfl, rfl, by rw [hs]; exact Nat.le_refl _, fun q hq => ho q (by omega)⟩⟩
  unfold Bx
  simp only [World.setCell]
  rw [Array.getElem?_modify, if_pos rfl, h]
  rfl
theorem Upd.trans {W W1 W2 : World} {g : Nat} {t s : TypeId} {cs ds : Array Value} (c : Upd W g t cs W1) (d : Upd W1 g s ds W2) : Upd W g s ds W2 :=
  ⟨by rw [d.size, c.size], d.box, fun k hk => (d.other k hk).trans (c.other k hk), fun n hn => (c.bel n hn).trans (d.bel n hn)⟩

end Go.Proofs.Ytglgifhpacmhiaa
