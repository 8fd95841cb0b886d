/- Slices of triples of any struct type that the call itself has made. Conditions: none beyond each lemma's own premises. -/
import Derived.Test.YtpfmkggnnilknaaFindHeap
import Derived.Test.YtpfmkggnnilknaaRowBlock
namespace Go.Proofs.Ytpfmkggnnilknaa
open Go.RowKit

/-- The slice is the call's own (its block's number is base or more) and holds l; its elements are of type T. -/
def OwnT (T : TypeId) (base : Nat) (w : World) (v : Value) (l : List Rc) : Prop := w.ownsRow base T 3 v l.length (flatF l)

theorem OwnT.nil (T : TypeId) (base : Nat) (w : World) : OwnT T base w (.slice none 0 0) [] := World.ownsRow_nil w base _ 3

theorem OwnT.read {T : TypeId} {base : Nat} {w : World} {v : Value} {l : List Rc} (h : OwnT T base w v l) : ∃ A c, v = .slice A l.length c ∧ RdF w A l ∧ (A = none → c = 0) := by
  have h0 := h
  rcases h.2 with ⟨rfl, hn⟩ | ⟨g, cap, cur, rfl, hb, hg, h1, h2, h3, h4⟩
  · obtain rfl : l = [] := List.eq_nil_of_length_eq_zero hn
    exact ⟨none, 0, rfl, RdF.nil _ _, fun _ => rfl⟩
  · refine ⟨some ⟨g, 0, none⟩, cap, rfl, fun _ => ⟨g, 0, rfl, (World.ownsRow.lt h0 g rfl).2, fun k hk => ?_⟩, fun h => by cases h⟩
    have hf := flatF_get l k hk
    rw [Nat.zero_add, World.ownsRow.cellAt h0 (k * 3) (by omega), World.ownsRow.cellAt h0 (k * 3 + 1) (by omega), World.ownsRow.cellAt h0 (k * 3 + 2) (by omega)]
    exact hf

theorem OwnT.below {T : TypeId} {base : Nat} {w w' : World} {v : Value} {l : List Rc} (h : OwnT T base w v l) (hb : Below w.heap.size w w') : OwnT T base w' v l := row_below h hb

theorem OwnT.alloc {T : TypeId} {base : Nat} {w : World} {v : Value} {l : List Rc} (h : OwnT T base w v l) (o : Obj) : OwnT T base (w.alloc o) v l := World.ownsRow.alloc h o

theorem OwnT.snoc {T : TypeId} {base : Nat} {w : World} {v : Value} {l : List Rc} {k x y : Int} (h : w.ownsRow base T 3 v (l.length + 1) (flatF l ++ [.int .i64 k, .int .i64 x, .int .i64 y])) : OwnT T base w v (l ++ [(k, x, y)]) := by
  unfold OwnT
  rw [flatF_append, List.length_append]
  exact h

theorem OwnT.upd {T : TypeId} {base g : Nat} {t : TypeId} {cs : Array Value} {w w' : World} {v : Value} {l : List Rc} (h : OwnT T base w v l) (u : Upd w g t cs w') (hg : g < base) : OwnT T base w' v l :=
  row_block h fun k hk => u.other k (by have := (World.ownsRow.lt h k hk).1; omega)

/-- A row stays, where a block of another type is written. -/
theorem OwnT.held {T : TypeId} {base q : Nat} {t : TypeId} {old cs : Array Value} {w w' : World} {v : Value} {l : List Rc} (h : OwnT T base w v l) (hb : Bx w q t old) (ht : t ≠ T) (u : Upd w q t cs w') : OwnT T base w' v l :=
  row_block h fun k hk => u.other k fun e => by
    subst e
    obtain ⟨cs', z, hh⟩ := row_type (show w.ownsRow base T 3 _ _ _ from h) hk
    unfold Bx at hb
    rw [hb] at hh
    injection hh with hh
    injection hh with _ hh _
    exact ht hh

end Go.Proofs.Ytpfmkggnnilknaa
