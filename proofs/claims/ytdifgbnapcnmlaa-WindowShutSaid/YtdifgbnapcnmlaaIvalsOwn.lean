/- A slice of spans that the call itself has made, and what it holds. Conditions: none beyond each lemma's own premises. -/
import Derived.Test.YtdifgbnapcnmlaaRows
import Derived.Test.YtdifgbnapcnmlaaBase
import Derived.Test.YtdifgbnapcnmlaaIvalsWords
import Derived.OwnWalk
import Derived.Laws.AppendOwn
import Derived.Laws.OwnMore
import Derived.KernelRfl
namespace Go.Proofs.Ytdifgbnapcnmlaa
open Go.RowKit

def lenOf (v : Value) : Nat := match v with | .slice _ n _ => n | _ => 0

theorem lenOf_slice (A : Option Addr) (n c : Nat) : lenOf (.slice A n c) = n := rfl

/-- The cells of spans that lie one behind the other. -/
def flat (l : List Sp) : List Value := l.flatMap fun s => [.int .i64 s.1, .int .i64 s.2]

theorem flat_cons (s : Sp) (l : List Sp) : flat (s :: l) = .int .i64 s.1 :: .int .i64 s.2 :: flat l := rfl

theorem flat_append (a b : List Sp) : flat (a ++ b) = flat a ++ flat b := by simp [flat]

theorem flat_len (l : List Sp) : (flat l).length = l.length * 2 := by
  induction l with
  | nil => rfl
  | cons s l ih => rw [flat_cons, List.length_cons, List.length_cons, ih, List.length_cons]; omega

theorem flat_get : ∀ (l : List Sp) (k : Nat), k < l.length → (flat l)[k * 2]? = some (.int .i64 (l.getD k (0, 0)).1) ∧ (flat l)[k * 2 + 1]? = some (.int .i64 (l.getD k (0, 0)).2)
  | s :: l, 0, _ => by simp [flat_cons]
  | s :: l, k + 1, h => by
    have ih := flat_get l k (by simpa using h)
    have e : (k + 1) * 2 = k * 2 + 1 + 1 := by omega
    rw [e, flat_cons]
    simpa using ih

theorem flat_one {l : List Sp} {u : Value} (h : u ∈ flat l) : u.oneCell' = true := by
  obtain ⟨s, _, hs⟩ := List.mem_flatMap.1 h
  simp at hs
  rcases hs with rfl | rfl <;> rfl

theorem flat_set (a : List Sp) (x y z : Int) : (flat (a ++ [(x, y)])).set (a.length * 2 + 1) (.int .i64 z) = flat (a ++ [(x, z)]) := by
  rw [flat_append, flat_append, List.set_append_right _ _ (by rw [flat_len]; omega), flat_len]
  have e : a.length * 2 + 1 - a.length * 2 = 1 := by omega
  rw [e]
  rfl

/-- The slice is the call's own (its block's number is base or more) and holds l. -/
def Own (base : Nat) (w : World) (v : Value) (l : List Sp) : Prop := w.ownsRow base 31 2 v l.length (flat l)

theorem Own.nil (base : Nat) (w : World) : Own base w (.slice none 0 0) [] := World.ownsRow_nil w base _ 2

theorem Own.form {base : Nat} {w : World} {v : Value} {l : List Sp} (h : Own base w v l) :
    ∃ A c, v = .slice A l.length c ∧ RdS w A l ∧ l.length ≤ c ∧ c ≤ maxLen := by
  have h0 := h
  rcases h.2 with ⟨rfl, hn⟩ | ⟨g, cap, cur, rfl, hb, hg, h1, h2, h3, h4⟩
  · obtain rfl : l = [] := List.eq_nil_of_length_eq_zero hn
    exact ⟨none, 0, rfl, RdS.nil _ _, Nat.le_refl _, Nat.zero_le _⟩
  · refine ⟨some ⟨g, 0, none⟩, cap, rfl, fun _ => ⟨g, 0, rfl, (h.lt g rfl).2, fun k hk => ?_⟩, h1, h2⟩
    have hf := flat_get l k hk
    rw [Nat.zero_add, World.ownsRow.cellAt h0 (k * 2) (by omega), World.ownsRow.cellAt h0 (k * 2 + 1) (by omega)]
    exact hf

theorem Own.below {base : Nat} {w w' : World} {v : Value} {l : List Sp} (h : Own base w v l) (hb : Below w.heap.size w w') : Own base w' v l := by
  refine ⟨h.1, ?_⟩
  rcases h.2 with h2 | ⟨g, cap, cur, hv, hg, hh, r⟩
  · exact Or.inl h2
  · refine Or.inr ⟨g, cap, cur, hv, hg, ?_, r⟩
    have hlt : g < w.heap.size := by
      rcases Nat.lt_or_ge g w.heap.size with h | h
      · exact h
      · rw [Array.getElem?_eq_none h] at hh; cases hh
    rw [hb.block g hlt]; exact hh

theorem Own.more {base base' : Nat} {w : World} {v : Value} {l : List Sp} (h : Own base w v l) (hb : base' ≤ base) : Own base' w v l := by
  refine ⟨h.1, ?_⟩
  rcases h.2 with h2 | ⟨g, cap, cur, hv, hg, hh, r⟩
  · exact Or.inl h2
  · exact Or.inr ⟨g, cap, cur, hv, Nat.le_trans hb hg, hh, r⟩

theorem Own.alloc {base : Nat} {w : World} {v : Value} {l : List Sp} (h : Own base w v l) (o : Obj) : Own base (w.alloc o) v l := World.ownsRow.alloc h o

/-- A store elsewhere. -/
theorem Own.other {base : Nat} {w : World} {v : Value} {l : List Sp} (h : Own base w v l) {a : Addr} (ha : v.ownBlock ≠ some a.block) (u : Value) : Own base (w.setCell a u) v l := by
  refine ⟨h.1, ?_⟩
  rcases h.2 with h2 | ⟨g, cap, cur, hv, hg, hh, r⟩
  · exact Or.inl h2
  · refine Or.inr ⟨g, cap, cur, hv, hg, ?_, r⟩
    rw [Below.heap_setCell w a u g (by rintro rfl; exact ha (by rw [hv]; rfl))]
    exact hh

/-- It does not lie in a block that came behind it. -/
theorem Own.notNew {base : Nat} {w : World} {v : Value} {l : List Sp} (h : Own base w v l) {n : Nat} (hn : w.heap.size ≤ n) : v.ownBlock ≠ some n := by
  intro he
  have := (World.ownsRow.lt h n he).2
  omega

theorem info_span : (Try.prog.info? 31).map (fun i => (i.zero, i.size, i.bytes)) = some (some (.agg #[.int .i64 0, .int .i64 0]), 2, 16) := by kernel_rfl

/-- The cells of one span in a block of their own. -/
theorem one_news {w : World} {x y : Int} {t : TypeId} : ∀ j u, ([.int .i64 x, .int .i64 y] : List Value)[j]? = some u → (w.alloc (.cells #[.int .i64 x, .int .i64 y] t)).cell? ((⟨w.heap.size, 0, none⟩ : Addr).add j) = some u := by
  intro j u hj
  match j, hj with
  | 0, hj => simp at hj; subst hj; simp [Addr.add]
  | 1, hj => simp at hj; subst hj; simp [Addr.add]
  | j + 2, hj => simp at hj

theorem one_cell2 {x y : Int} : ∀ u ∈ ([.int .i64 x, .int .i64 y] : List Value), u.oneCell' = true := by
  intro u hu
  simp at hu
  rcases hu with rfl | rfl <;> rfl

/-- Behind an append of one span. -/
theorem Own.snoc {base : Nat} {w : World} {v : Value} {l : List Sp} {x y : Int} (h : w.ownsRow base 31 2 v (l.length + 1) (flat l ++ [.int .i64 x, .int .i64 y])) : Own base w v (l ++ [(x, y)]) := by
  unfold Own
  rw [flat_append, List.length_append]
  exact h

end Go.Proofs.Ytdifgbnapcnmlaa
