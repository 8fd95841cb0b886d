/- Rows of a slice of the call's own and stores elsewhere; one cell stored in a region that draws its order. Conditions: none beyond each lemma's own premises. -/
import Derived.Test.YtglgifhpacmhiaaRows
import Derived.Test.YtglgifhpacmhiaaBase
import Derived.Test.YtglgifhpacmhiaaRow
import Derived.Test.YtglgifhpacmhiaaBox
import Derived.Test.YtglgifhpacmhiaaChg
import Derived.Test.YtglgifhpacmhiaaFindHeap
import Derived.WalkKit
import Derived.Below
import Derived.OrdersHeld
namespace Go.Proofs.Ytglgifhpacmhiaa
open Go.RowKit

theorem row_type {base sz n : Nat} {e : TypeId} {w : World} {v : Value} {xs : List Value} (h : w.ownsRow base e sz v n xs) {q : Nat} (hq : v.ownBlock = some q) : ∃ cs z, w.heap[q]? = some (.cells cs e z) := by
  rcases h.2 with ⟨h2, _⟩ | ⟨g, cap, cur, hv, hg, hh, r⟩
  · rw [h2] at hq; cases hq
  · rw [hv] at hq
    injection hq with hq
    have hq' : g = q := hq
    subst hq'
    exact ⟨_, _, hh⟩

theorem row_block {base sz n : Nat} {e : TypeId} {w w' : World} {v : Value} {xs : List Value} (h : w.ownsRow base e sz v n xs) (hq : ∀ k, v.ownBlock = some k → w'.heap[k]? = w.heap[k]?) : w'.ownsRow base e sz v n xs := by
  refine ⟨h.1, ?_⟩
  rcases h.2 with h2 | ⟨g, cap, cur, hv, hg, hh, r⟩
  · exact Or.inl h2
  · refine Or.inr ⟨g, cap, cur, hv, hg, ?_, r⟩
    rw [hq g (by rw [hv]; rfl)]
    exact hh

theorem wp_store_fld {P : Program} {o : Oper} {a : Act} {w : World} {K : Act → World → Prop} {Q : Exit → Act → World → Prop} (ty : TypeId) (x y : Operand) (ho : o.op = .store ty x y)
    (g k : Nat) (v : Value) (hx : a.eval x = .pointer (some ⟨g, k, none⟩)) (hy : a.eval y = v) (h1 : v.oneCell' = true) (t : TypeId) (cs : Array Value) (hb : Bx w g t cs) (hk : k < cs.size) (hi : (P.info? ty).map (·.size) = some 1)
    (h : ∀ W', Upd w g t (cs.setIfInBounds k v) W' → K (a.put o.dst undef) W') : o.wp P a w K Q := by
  unfold Oper.wp execOp
  simp only [ho, hx, hy, Instr.storeAt, Instr.sureAddr, Sem.run_bind, Sem.run_pure, Result.andThen_ok, run_storeVar_fld w g k t ty cs v hb hk hi h1]
  exact h _ (Upd.of_setRow _ hb)

end Go.Proofs.Ytglgifhpacmhiaa
