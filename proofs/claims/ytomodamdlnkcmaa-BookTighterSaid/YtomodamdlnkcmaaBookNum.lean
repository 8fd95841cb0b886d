/- What Numbers of layer 7, the document's own, and its Same return. Conditions: as each theorem says. -/
import Derived.Test.YtomodamdlnkcmaaRows
import Derived.Test.YtomodamdlnkcmaaBase
import Derived.Test.YtomodamdlnkcmaaBookRow
import Derived.Test.YtomodamdlnkcmaaBookLeaf
import Derived.Test.YtomodamdlnkcmaaBookBel
import Derived.WalkKit
import Derived.WalkSpells
import Derived.WalkSmall
import Derived.Below
import Derived.Lib.Hide
import Derived.Outline
import Derived.Great.BuildSlice
import Derived.BigQuiet
import Derived.Deep.QuietTactic
namespace Go.Proofs.Ytomodamdlnkcmaa
open Go.RowKit

section
variable {P : Program}
theorem wpList_slice_bk {ops : Array Oper} {rest : List Oper} {o : Oper} {a : Act} {w : World} {Q : Exit → Act → World → Prop} (hg : o.guard = none) (t e : TypeId) (parts : Array (Nat × Operand)) (ho : o.op = .buildSlice t 19 parts) (x : Nat → Int)
    (hu : P.underlying t = some (.slice e)) (hi : (P.info? e).map (fun i => (i.zero, i.size)) = some (some (.int .i64 0), 1))
    (hf : Instr.fill (fun i => some (i * 1, 1)) ((Array.range (19 * 1)).map ((Value.int .i64 0).cells[· % (Value.int .i64 0).cells.size]!)) (parts.map fun (i, x) => (i, a.eval x)).toList = some (bk x))
    (h : wpList P ops Q rest (a.put o.dst (.slice (some ⟨w.heap.size, 0, none⟩) 19 19)) (w.alloc (.cells (bk x) e))) : wpList P ops Q (o :: rest) a w := by
  cases hie : P.info? e with
  | none => simp [hie] at hi
  | some ie =>
    simp only [hie, Option.map_some, Option.some.injEq, Prod.mk.injEq] at hi
    refine wpList_buildSlice hg t e 19 parts ho (bk x) ie (.int .i64 0) hu hie hi.1 (by rw [hi.2]; decide) (by rw [hi.2]; decide) (by rw [hi.2]; exact hf) h
end

set_option maxRecDepth 20000 in
theorem refnum_any (x : Nat → Int) (w : World) :
    Calls Try.prog 10 #[.agg (bk x)] w fun e w' => ∃ g, e = .returned (.slice (some ⟨g, 0, none⟩) 19 19) ∧ w.heap.size ≤ g ∧ RdI w' g 0 x ∧ Below w.heap.size w w' := by
  have z0 := bk_at x 0 (by omega); have z1 := bk_at x 1 (by omega); have z2 := bk_at x 2 (by omega); have z3 := bk_at x 3 (by omega); have z4 := bk_at x 4 (by omega); have z5 := bk_at x 5 (by omega); have z6 := bk_at x 6 (by omega); have z7 := bk_at x 7 (by omega); have z8 := bk_at x 8 (by omega); have z9 := bk_at x 9 (by omega); have z10 := bk_at x 10 (by omega); have z11 := bk_at x 11 (by omega); have z12 := bk_at x 12 (by omega); have z13 := bk_at x 13 (by omega); have z14 := bk_at x 14 (by omega); have z15 := bk_at x 15 (by omega); have z16 := bk_at x 16 (by omega); have z17 := bk_at x 17 (by omega); have z18 := bk_at x 18 (by omega)
  go_enter Try.func10, Try.ntmps10
  go_wp2_with (refine wpList_slice_bk rfl 28 3 _ rfl x Try.underlying28 (by kernel_rfl) (by kernel_rfl) ?_)
  go_ret
  refine ⟨_, rfl, ?_, RdI.new x _ (by first | rfl | (simp; done)), ?_⟩
  · first | omega | (simp; done) | (simp; omega)
  · (repeat (first | exact Below.refl _ _ | (refine b_st ?_ (by first | (simp; done) | (simp; omega))) | (refine b_al ?_ (Nat.le_refl _) _) | refine b_dn ?_ | refine b_dr ?_ | (refine b_cl ?_ (Nat.le_refl _) (by assumption))))

set_option maxRecDepth 20000 in
theorem num_any (x : Nat → Int) (w : World) :
    Calls Try.prog 9 #[.agg (bk x)] w fun e w' => ∃ g, e = .returned (.slice (some ⟨g, 0, none⟩) 19 19) ∧ w.heap.size ≤ g ∧ RdI w' g 0 x ∧ Below w.heap.size w w' := by
  go_enter Try.func9, Try.ntmps9
  go_wp2_with (first
    | refine wpList_load_bk (by rfl) 23 _ rfl _ _ rfl x _ (RdI.new x _ (by first | rfl | (simp; done))) Try.underlying23 rfl (by kernel_rfl) ?_
    | (go_at_call 19; (with_reducible refine (laid_any x _).mono ?_); rintro e w1 ⟨rfl, hb1⟩; have hz1 := hb1.size; (try simp at hz1))
    | refine wpList_store_new rfl 39 _ _ rfl _ (bk x) rfl rfl (by first | rfl | (simp; done)) (by kernel_rfl) rfl (bk_one x) ?_)
  go_ret
  refine ⟨_, rfl, ?_, RdI.new x _ (by first | rfl | (simp; done)), ?_⟩
  · first | omega | (simp; done) | (simp; omega)
  · (repeat (first | exact Below.refl _ _ | (refine b_st ?_ (by first | (simp; done) | (simp; omega))) | (refine b_al ?_ (Nat.le_refl _) _) | refine b_dn ?_ | refine b_dr ?_ | (refine b_cl ?_ (Nat.le_refl _) (by assumption))))

set_option maxHeartbeats 800000 in
theorem same7_any (b1 b2 : Nat) (x : Nat → Int) (w : World) (h1 : RdI w b1 0 x) (h2 : RdI w b2 0 x) :
    Calls Try.prog 8 #[.slice (some ⟨b1, 0, none⟩) 19 19, .slice (some ⟨b2, 0, none⟩) 19 19] w fun e w' => e = .returned (.bool true) ∧ Below w.heap.size w w' := by
  go_enter Try.func8, Try.ntmps8
  go_wp2
  go_loopw [5] (fun i wr => ∃ k : Nat, k ≤ 19 ∧ i = .int .i64 k ∧ Below w.heap.size w wr) (fun i _ => 19 - (intOf i).toNat)
  case atStart => exact ⟨0, Nat.zero_le _, rfl, Below.refl _ _⟩
  case round =>
    obtain ⟨k, hk, rfl, hbw⟩ := hrel
    have hsz := hbw.size
    by_cases hlt : k < 19
    · have hc := (h1.below hbw).2 k hlt
      have hd := (h2.below hbw).2 k hlt
      rw [Nat.zero_add] at hc hd
      obtain ⟨v, hv⟩ : ∃ v, x k = v := ⟨_, rfl⟩
      rw [hv] at hc hd
      have q1 : ∀ p : BelowOf wr, p.world.cell? ⟨b1, k, none⟩ = some (.int .i64 v) := fun p => p.cell hc
      have q2 : ∀ p : BelowOf wr, p.world.cell? ⟨b2, k, none⟩ = some (.int .i64 v) := fun p => p.cell hd
      go_wp2
      refine wp_region_bel (by kernel_rfl) (by kernel_rfl) ?_
      repeat (go_big_quiet_step (fail))
      refine wpQuiet_nil ?_
      rintro _ ⟨⟨wq, hbq⟩, rfl⟩
      clear q1 q2
      go_wp2
      go_roundw
      case rel => exact ⟨k + 1, by omega, by go_num, hbw.trans (hbq.mono hsz)⟩
      case measure => simp [intOf]; omega
    · go_wp2
      go_ret
      exact ⟨rfl, hbw⟩

end Go.Proofs.Ytomodamdlnkcmaa
