/- A slice of spans that reads as a list, for any program. Conditions: none beyond each lemma's own premises. -/
import Derived.Below
import Derived.Deep.Draws
import Derived.Lib.Hide
import Derived.Deep.QuietTactic
import Derived.Laws.OwnMore
import Derived.Test.YtbldkhlkejoklaaDoorBase
import Derived.Test.YtbldkhlkejoklaaDoorIvalsMath
import Derived.Test.YtbldkhlkejoklaaDoorIvalsMath2
import Derived.Test.YtbldkhlkejoklaaDoorIvalsMath3
namespace Go.Proofs.YtbldkhlkejoklaaDoor
open Go.RowKit

/-- At the address A the spans of l lie one behind the other, in a block of w (of no span nothing is asked). -/
def RdS (w : World) (A : Option Addr) (l : List Sp) : Prop :=
  l ≠ [] → ∃ b off, A = some ⟨b, off, none⟩ ∧ b < w.heap.size ∧ ∀ k, k < l.length →
    w.cell? ⟨b, off + k * 2, none⟩ = some (.int .i64 (l.getD k (0, 0)).1) ∧ w.cell? ⟨b, off + k * 2 + 1, none⟩ = some (.int .i64 (l.getD k (0, 0)).2)

theorem RdS.nil (w : World) (A : Option Addr) : RdS w A [] := fun h => absurd rfl h

theorem ne_nil_of_lt {l : List Sp} {k : Nat} (h : k < l.length) : l ≠ [] := by
  intro e; subst e; cases h

theorem RdS.at_ {w : World} {A : Option Addr} {l : List Sp} (h : RdS w A l) {k : Nat} (hk : k < l.length) : ∃ b off x y, A = some ⟨b, off, none⟩ ∧ b < w.heap.size ∧
    w.cell? ⟨b, off + k * 2, none⟩ = some (.int .i64 x) ∧ w.cell? ⟨b, off + k * 2 + 1, none⟩ = some (.int .i64 y) ∧ Hid (l.getD k (0, 0) = (x, y)) := by
  obtain ⟨b, off, hA, hb, hc⟩ := h (ne_nil_of_lt hk)
  exact ⟨b, off, _, _, hA, hb, (hc k hk).1, (hc k hk).2, Lib.hid rfl⟩

theorem RdS.keep {w w' : World} {A : Option Addr} {l : List Sp} (h : RdS w A l) (hs : w.heap.size ≤ w'.heap.size) (hc : ∀ p : Addr, p.block < w.heap.size → w'.cell? p = w.cell? p) : RdS w' A l := fun hl => by
  obtain ⟨b, off, hA, hb, hk⟩ := h hl
  exact ⟨b, off, hA, by omega, fun k hk' => ⟨by rw [hc _ hb]; exact (hk k hk').1, by rw [hc _ hb]; exact (hk k hk').2⟩⟩

theorem RdS.below {w w' : World} {A : Option Addr} {l : List Sp} (h : RdS w A l) (hb : Below w.heap.size w w') : RdS w' A l :=
  h.keep hb.size fun _ hp => hb.cell hp

/-- A world in which all that lay in w lies unturned. -/
structure BelowOf (w : World) where
  world : World
  ok : Below w.heap.size w world

instance (w : World) : Inhabited (BelowOf w) := ⟨⟨w, Below.refl _ _⟩⟩

theorem BelowOf.cell {w : World} (p : BelowOf w) {a : Addr} {v : Value} (h : w.cell? a = some v) : p.world.cell? a = some v :=
  (p.ok.cell (World.block_lt_of_cell? w a h)).trans h

theorem wp_region_bel {P : Program} {id : Nat} {Q : Exit → Act → World → Prop} {a : Act} {w : World} {l : List Oper} (hm : P.follows .mixedOrders = true) (hB : Region.lexB .any l.toArray = true)
    (h : wpQuiet P l.toArray (fun w' => ∃ p : BelowOf w, w' = p.world) (fun a' => ∀ w', (∃ p : BelowOf w, w' = p.world) → Q .normal a' w') l a) : (Code.region id l.toArray true).wp P Q a w :=
  wp_region_quiet (C := fun w' => ∃ p : BelowOf w, w' = p.world) hm hB ⟨⟨w.drew, b_dr (Below.refl _ _)⟩, rfl⟩ (by simpa using h)

theorem bel_all {w : World} {Q : World → Prop} (h : ∀ wq, Below w.heap.size w wq → Q wq) : ∀ w', (∃ p : BelowOf w, w' = p.world) → Q w' := fun _ ⟨⟨_, ok⟩, e⟩ => e ▸ h _ ok

theorem Calls.bel_of {P : Program} {f : FuncId} {args : Array Value} {w : World} {p : BelowOf w} {v : Value}
    (h : Calls P f args p.world fun e w' => e = .returned v ∧ Below p.world.heap.size p.world w') : Calls P f args p.world fun e w'' => e = .returned v ∧ ∃ q : BelowOf w, w'' = q.world :=
  h.mono fun _ _ ⟨he, hb⟩ => ⟨he, ⟨_, p.ok.trans (hb.mono p.ok.size)⟩, rfl⟩

/-- A span in a block of its own, that may be written. -/
structure Box2 (w : World) (B : Nat) (x y : Int) : Prop where
  c0 : w.cell? ⟨B, 0, none⟩ = some (.int .i64 x)
  c1 : w.cell? ⟨B, 1, none⟩ = some (.int .i64 y)
  f0 : w.frozen? ⟨B, 0, none⟩ = false
  f1 : w.frozen? ⟨B, 1, none⟩ = false

theorem Box2.lt {w : World} {B : Nat} {x y : Int} (h : Box2 w B x y) : B < w.heap.size := World.block_lt_of_cell? w ⟨B, 0, none⟩ h.c0

theorem Box2.new (w : World) (x y : Int) (t : TypeId) : Box2 (w.alloc (.cells #[.int .i64 x, .int .i64 y] t)) w.heap.size x y := ⟨by simp, by simp, by simp, by simp⟩

theorem Box2.below {w w' : World} {B : Nat} {x y : Int} (h : Box2 w B x y) (hb : Below w.heap.size w w') : Box2 w' B x y :=
  ⟨by rw [hb.cell (p := ⟨B, 0, none⟩) h.lt]; exact h.c0, by rw [hb.cell (p := ⟨B, 1, none⟩) h.lt]; exact h.c1, by rw [hb.frozen (p := ⟨B, 0, none⟩) h.lt]; exact h.f0, by rw [hb.frozen (p := ⟨B, 1, none⟩) h.lt]; exact h.f1⟩

theorem Box2.alloc {w : World} {B : Nat} {x y : Int} (h : Box2 w B x y) (o : Obj) : Box2 (w.alloc o) B x y := h.below ((Below.refl _ _).alloc (Nat.le_refl _) o)

theorem Box2.set1 {w : World} {B : Nat} {x y : Int} (h : Box2 w B x y) (z : Int) : Box2 (w.setCell ⟨B, 1, none⟩ (.int .i64 z)) B x z :=
  ⟨by rw [World.cell?_setCell_other w _ _ _ (by simp)]; exact h.c0, World.cell?_setCell_same' _ _ _ (by rw [h.c1]; rfl), by rw [World.frozen?_setCell]; exact h.f0, by rw [World.frozen?_setCell]; exact h.f1⟩

theorem Box2.set0 {w : World} {B : Nat} {x y : Int} (h : Box2 w B x y) (z : Int) : Box2 (w.setCell ⟨B, 0, none⟩ (.int .i64 z)) B z y :=
  ⟨World.cell?_setCell_same' _ _ _ (by rw [h.c0]; rfl), by rw [World.cell?_setCell_other w _ _ _ (by simp)]; exact h.c1, by rw [World.frozen?_setCell]; exact h.f0, by rw [World.frozen?_setCell]; exact h.f1⟩

end Go.Proofs.YtbldkhlkejoklaaDoor
