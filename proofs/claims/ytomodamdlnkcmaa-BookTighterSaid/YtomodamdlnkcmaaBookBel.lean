/- A region that draws its order and makes memory. Conditions: none beyond each lemma's own premises. -/
import Derived.Test.YtomodamdlnkcmaaRows
import Derived.Test.YtomodamdlnkcmaaBase
import Derived.Below
import Derived.Deep.Draws
import Derived.Lib.Hide
import Derived.Deep.QuietTactic
import Derived.KernelRfl
namespace Go.Proofs.Ytomodamdlnkcmaa
open Go.RowKit

/-- A world in which all that lay in w lies unturned. -/
structure BelowOf (w : World) where
  world : World
  ok : Below w.heap.size w world

instance (w : World) : Inhabited (BelowOf w) := ⟨⟨w, Below.refl _ _⟩⟩

theorem BelowOf.cell {w : World} (p : BelowOf w) {a : Addr} {v : Value} (h : w.cell? a = some v) : p.world.cell? a = some v :=
  (p.ok.cell (World.block_lt_of_cell? w a h)).trans h

theorem wp_region_bel {P : Program} {id : Nat} {Q : Exit → Act → World → Prop} {a : Act} {w : World} {l : List Oper} (hm : P.follows .mixedOrders = true) (hB : Region.lexB .any l.toArray = true)
    (h : wpQuiet P l.toArray (fun w' => ∃ p : BelowOf w, w' = p.world) (fun a' => ∀ w', (∃ p : BelowOf w, w' = p.world) → Q .normal a' w') l a) : (Code.region id l.toArray true).wp P Q a w :=
  wp_region_quiet (C := fun w' => ∃ p : BelowOf w, w' = p.world) hm hB ⟨⟨w.drew, b_dr (Below.refl _ _)⟩, rfl⟩ (by simpa using h)

theorem bel_all {w : World} {Q : World → Prop} (h : ∀ wq, Below w.heap.size w wq → Q wq) : ∀ w', (∃ p : BelowOf w, w' = p.world) → Q w' := fun _ ⟨⟨_, ok⟩, e⟩ => e ▸ h _ ok

theorem Calls.bel_of {P : Program} {f : FuncId} {args : Array Value} {w : World} {p : BelowOf w} {v : Value}
    (h : Calls P f args p.world fun e w' => e = .returned v ∧ Below p.world.heap.size p.world w') : Calls P f args p.world fun e w'' => e = .returned v ∧ ∃ q : BelowOf w, w'' = q.world :=
  h.mono fun _ _ ⟨he, hb⟩ => ⟨he, ⟨_, p.ok.trans (hb.mono p.ok.size)⟩, rfl⟩

end Go.Proofs.Ytomodamdlnkcmaa
