/- A region that draws its order and makes memory; rows of a slice that the call itself has made. Conditions: none beyond each lemma's own premises. -/
import Derived.Test.YtglgifhpacmhiaaRows
import Derived.Test.YtglgifhpacmhiaaBase
import Derived.Below
import Derived.Deep.Draws
import Derived.Lib.Hide
import Derived.Deep.QuietTactic
import Derived.Laws.OwnMore
import Derived.OwnWalk
import Derived.Laws.AppendOwn
import Derived.Laws.Rows
import Derived.KernelRfl
namespace Go.Proofs.Ytglgifhpacmhiaa
open Go.RowKit

/-- A world in which all that lay in w lies unturned. -/
structure BelowOf (w : World) where
  world : World
  ok : Below w.heap.size w world

instance (w : World) : Inhabited (BelowOf w) := ⟨⟨w, Below.refl _ _⟩⟩

theorem BelowOf.cell {w : World} (p : BelowOf w) {a : Addr} {v : Value} (h : w.cell? a = some v) : p.world.cell? a = some v :=
  (p.ok.cell (World.block_lt_of_cell? w a h)).trans h

theorem wp_region_bel {P : Program} {id : Nat} {Q : Exit → Act → World → Prop} {a : Act} {w : World} {l : List Oper} (hm : P.follows .mixedOrders = true) (hB : Region.lexB .any l.toArray = true)
    (h : wpQuiet P l.toArray (fun w' => ∃ p : BelowOf w, w' = p.world) (fun a' => ∀ w', (∃ p : BelowOf w, w' = p.world) → Q .normal a' w') l a) : (Code.region id l.toArray true).wp P Q a w :=
  wp_region_quiet (C := fun w' => ∃ p : BelowOf w, w' = p.world) hm hB ⟨⟨w.drew, b_dr (Below.refl _ _)⟩, rfl⟩ (by simpa using h)

theorem bel_all {w : World} {Q : World → Prop} (h : ∀ wq, Below w.heap.size w wq → Q wq) : ∀ w', (∃ p : BelowOf w, w' = p.world) → Q w' := fun _ ⟨⟨_, ok⟩, e⟩ => e ▸ h _ ok

theorem Calls.bel_of {P : Program} {f : FuncId} {args : Array Value} {w : World} {p : BelowOf w} {v : Value}
    (h : Calls P f args p.world fun e w' => e = .returned v ∧ Below p.world.heap.size p.world w') : Calls P f args p.world fun e w'' => e = .returned v ∧ ∃ q : BelowOf w, w'' = q.world :=
  h.mono fun _ _ ⟨he, hb⟩ => ⟨he, ⟨_, p.ok.trans (hb.mono p.ok.size)⟩, rfl⟩

/-! ### Rows of a slice of the call's own -/

theorem row_below {base sz n : Nat} {e : TypeId} {w w' : World} {v : Value} {cs : List Value} (h : w.ownsRow base e sz v n cs) (hb : Below w.heap.size w w') : w'.ownsRow base e sz v n cs := by
  refine ⟨h.1, ?_⟩
  rcases h.2 with h2 | ⟨g, cap, cur, hv, hg, hh, r⟩
  · exact Or.inl h2
  · refine Or.inr ⟨g, cap, cur, hv, hg, ?_, r⟩
    have hlt : g < w.heap.size := by
      rcases Nat.lt_or_ge g w.heap.size with h | h
      · exact h
      · rw [Array.getElem?_eq_none h] at hh; cases hh
    rw [hb.block g hlt]; exact hh

theorem row_more {base base' sz n : Nat} {e : TypeId} {w : World} {v : Value} {cs : List Value} (h : w.ownsRow base e sz v n cs) (hb : base' ≤ base) : w.ownsRow base' e sz v n cs := by
  refine ⟨h.1, ?_⟩
  rcases h.2 with h2 | ⟨g, cap, cur, hv, hg, hh, r⟩
  · exact Or.inl h2
  · exact Or.inr ⟨g, cap, cur, hv, Nat.le_trans hb hg, hh, r⟩

theorem row_form {base sz n : Nat} {e : TypeId} {w : World} {v : Value} {cs : List Value} (h : w.ownsRow base e sz v n cs) : ∃ A c, v = .slice A n c ∧ (n ≠ 0 → ∃ g, A = some ⟨g, 0, none⟩ ∧ base ≤ g ∧ g < w.heap.size) ∧ (n = 0 → A = none → c = 0) := by
  have h0 := h
  rcases h.2 with ⟨rfl, hn⟩ | ⟨g, cap, cur, rfl, hb, hg, h1, h2, h3, h4⟩
  · subst hn; exact ⟨none, 0, rfl, fun h => absurd rfl h, fun _ _ => rfl⟩
  · exact ⟨some ⟨g, 0, none⟩, cap, rfl, fun _ => ⟨g, rfl, hb, (h0.lt g rfl).2⟩, fun _ h => by cases h⟩

/-- The block, where there is one: it may be written. -/
theorem row_some {base sz n c b off : Nat} {e : TypeId} {w : World} {cs : List Value} (h : w.ownsRow base e sz (.slice (some ⟨b, off, none⟩) n c) n cs) : off = 0 ∧ base ≤ b ∧ ∀ j, w.frozen? ⟨b, j, none⟩ = false := by
  rcases h.2 with ⟨h', _⟩ | ⟨g, cap, cur, h', hb, hg, _⟩
  · simp at h'
  · simp only [Value.slice.injEq, Option.some.injEq, Addr.mk.injEq, and_true] at h'
    obtain ⟨⟨rfl, rfl⟩, _, rfl⟩ := h'
    exact ⟨rfl, hb, fun j => by simp [World.frozen?, hg]⟩

/-- Behind an append ahead of which two blocks were made. -/
theorem grown_two {W w5 : World} {row : Option Nat} {base : Nat} {o1 o2 : Obj} (hg : ((W.alloc o1).alloc o2).grownBy w5 row) (hrow : ∀ k, row = some k → base ≤ k ∧ k < W.heap.size) (hbase : base ≤ W.heap.size) :
    w5.heap[W.heap.size]? = some o1 ∧ Below base W w5 ∧ W.heap.size + 2 ≤ w5.heap.size := by
  have hs : ((W.alloc o1).alloc o2).heap.size = W.heap.size + 2 := by simp
  have hz := hg.size
  refine ⟨?_, ((((Below.refl base W).alloc hbase o1).alloc (by simp; omega) o2).grown hg (by simp; omega) (fun k hk => (hrow k hk).1)), by omega⟩
  rw [hg.block W.heap.size (by omega) (fun e => by have := (hrow _ e.symm).2; omega), Below.heap_alloc _ _ _ (by simp)]
  exact heap_alloc_new W o1

/-- A span in a block of its own, that may be written. -/
structure Box2 (w : World) (B : Nat) (x y : Int) : Prop where
  c0 : w.cell? ⟨B, 0, none⟩ = some (.int .i64 x)
  c1 : w.cell? ⟨B, 1, none⟩ = some (.int .i64 y)
  f0 : w.frozen? ⟨B, 0, none⟩ = false
  f1 : w.frozen? ⟨B, 1, none⟩ = false

theorem Box2.lt {w : World} {B : Nat} {x y : Int} (h : Box2 w B x y) : B < w.heap.size := World.block_lt_of_cell? w ⟨B, 0, none⟩ h.c0

theorem Box2.new (w : World) (x y : Int) (t : TypeId) : Box2 (w.alloc (.cells #[.int .i64 x, .int .i64 y] t)) w.heap.size x y := ⟨by simp, by simp, by simp, by simp⟩

theorem Box2.newAt (w : World) {n : Nat} (hn : n = w.heap.size) (x y : Int) (t : TypeId) : Box2 (w.alloc (.cells #[.int .i64 x, .int .i64 y] t)) n x y := by
  subst hn; exact Box2.new w x y t

theorem Box2.below {w w' : World} {B : Nat} {x y : Int} (h : Box2 w B x y) (hb : Below w.heap.size w w') : Box2 w' B x y :=
  ⟨by rw [hb.cell (p := ⟨B, 0, none⟩) h.lt]; exact h.c0, by rw [hb.cell (p := ⟨B, 1, none⟩) h.lt]; exact h.c1, by rw [hb.frozen (p := ⟨B, 0, none⟩) h.lt]; exact h.f0, by rw [hb.frozen (p := ⟨B, 1, none⟩) h.lt]; exact h.f1⟩

theorem Box2.alloc {w : World} {B : Nat} {x y : Int} (h : Box2 w B x y) (o : Obj) : Box2 (w.alloc o) B x y := h.below ((Below.refl _ _).alloc (Nat.le_refl _) o)

theorem Box2.set1 {w : World} {B : Nat} {x y : Int} (h : Box2 w B x y) (z : Int) : Box2 (w.setCell ⟨B, 1, none⟩ (.int .i64 z)) B x z :=
  ⟨by rw [World.cell?_setCell_other w _ _ _ (by simp)]; exact h.c0, World.cell?_setCell_same' _ _ _ (by rw [h.c1]; rfl), by rw [World.frozen?_setCell]; exact h.f0, by rw [World.frozen?_setCell]; exact h.f1⟩

theorem Box2.set0 {w : World} {B : Nat} {x y : Int} (h : Box2 w B x y) (z : Int) : Box2 (w.setCell ⟨B, 0, none⟩ (.int .i64 z)) B z y :=
  ⟨World.cell?_setCell_same' _ _ _ (by rw [h.c0]; rfl), by rw [World.cell?_setCell_other w _ _ _ (by simp)]; exact h.c1, by rw [World.frozen?_setCell]; exact h.f0, by rw [World.frozen?_setCell]; exact h.f1⟩

theorem Box2.other {w : World} {B : Nat} {x y : Int} (h : Box2 w B x y) {p : Addr} (hp : p.block ≠ B) (u : Value) : Box2 (w.setCell p u) B x y :=
  ⟨by rw [World.cell?_setCell_other w _ _ _ (by rintro rfl; exact hp rfl)]; exact h.c0, by rw [World.cell?_setCell_other w _ _ _ (by rintro rfl; exact hp rfl)]; exact h.c1, by rw [World.frozen?_setCell]; exact h.f0, by rw [World.frozen?_setCell]; exact h.f1⟩

theorem b_un {n : Nat} {w W : World} (h : Below n w.drew W) : Below n w W := ⟨h.os, h.tape, h.output, h.size, h.block⟩

theorem c_dr {W : World} {p : Addr} {v : Value} (h : W.cell? p = some v) : W.drew.cell? p = some v := h

theorem nonnil {α : Type} {l : List α} {k : Nat} (h : k < l.length) : l ≠ [] := by rintro rfl; cases h

theorem b_tr {a b c : World} (h1 : Below a.heap.size a b) (h2 : Below b.heap.size b c) : Below a.heap.size a c := h1.trans (h2.mono h1.size)

theorem addr_plain (b off i : Nat) : (⟨b, off, none⟩ : Addr).add i = ⟨b, off + i, none⟩ := by
  unfold Addr.add
  by_cases h : i = 0 <;> simp [h]

end Go.Proofs.Ytglgifhpacmhiaa
