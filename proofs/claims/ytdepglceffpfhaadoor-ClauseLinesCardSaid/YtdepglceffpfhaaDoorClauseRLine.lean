/- What the document's own Line of layer 15 returns. Conditions: the numbers are of 64 bits. -/
import Derived.Test.YtdepglceffpfhaaDoorRows
import Derived.Test.YtdepglceffpfhaaDoorBase
import Derived.Test.YtdepglceffpfhaaDoorRow
import Derived.Test.YtdepglceffpfhaaDoorWordTold
import Derived.Test.YtdepglceffpfhaaDoorClauseMath
import Derived.Test.YtdepglceffpfhaaDoorClauseFind
import Derived.WalkKit
import Derived.WalkSpells
import Derived.WalkSmall
import Derived.Below
import Derived.Outline
import Derived.OwnWalk
import Derived.Lib.Hide
import Derived.Lib.SlicesS
import Derived.BigQuiet
import Derived.Deep.QuietTactic
namespace Go.Proofs.YtdepglceffpfhaaDoor
open Go.RowKit

theorem name_full {c : Int} (h : isC c) : (nameV c).toList.isEmpty = false := by
  obtain ⟨k, hk, rfl⟩ := isC_of h
  rw [name_yes hk]
  exact not_empty (nm_size k hk).1

theorem refline15_none (c x y : Int) (w : World) (h : ¬ isC c) :
    Calls Tryd.prog 21 #[.agg #[.int .i64 c, .int .i64 x, .int .i64 y]] w fun e w' => e = .returned (.tuple #[.string ⟨#[]⟩, .int .i64 13]) ∧ Below w.heap.size w w' := by
  have CN := fun W => refnm_any c W
  rw [name_no h] at CN
  clear h
  go_enter Tryd.func21, Tryd.ntmps21
  go_wp2_with (go_at_call 11; (with_reducible refine (CN _).mono ?_); rintro e w1 ⟨rfl, hb1⟩; obtain ⟨hc1, hf1⟩ := bcell hb1; have hz1 := hb1.size; (try simp at hz1); have hlt1 : w.heap.size < w1.heap.size := (by omega))
  go_ret2
  refine ⟨rfl, ?_⟩
  (repeat (first | assumption | exact Below.refl _ _ | (refine b_st ?_ (by first | (simp; done) | (simp; omega))) | (refine b_al ?_ (Nat.le_refl _) _) | refine b_dn ?_ | refine b_dr ?_ | (refine b_cl ?_ (Nat.le_refl _) (by assumption))))

theorem refline15_span (c x y : Int) (w : World) (h : isC c) (h2 : y ≤ x) :
    Calls Tryd.prog 21 #[.agg #[.int .i64 c, .int .i64 x, .int .i64 y]] w fun e w' => e = .returned (.tuple #[.string ⟨#[]⟩, .int .i64 3]) ∧ Below w.heap.size w w' := by
  have CN := fun W => refnm_any c W
  have hne := name_full h
  generalize nameV c = a at CN hne
  clear h
  go_enter Tryd.func21, Tryd.ntmps21
  go_wp2_with (go_at_call 11; (with_reducible refine (CN _).mono ?_); rintro e w1 ⟨rfl, hb1⟩; obtain ⟨hc1, hf1⟩ := bcell hb1; have hz1 := hb1.size; (try simp at hz1); have hlt1 : w.heap.size < w1.heap.size := (by omega))
  go_ret2
  refine ⟨rfl, ?_⟩
  (repeat (first | assumption | exact Below.refl _ _ | (refine b_st ?_ (by first | (simp; done) | (simp; omega))) | (refine b_al ?_ (Nat.le_refl _) _) | refine b_dn ?_ | refine b_dr ?_ | (refine b_cl ?_ (Nat.le_refl _) (by assumption))))

theorem refline15_low (c x y : Int) (w : World) (h : isC c) (h2 : ¬ y ≤ x) (h3 : x < 0) :
    Calls Tryd.prog 21 #[.agg #[.int .i64 c, .int .i64 x, .int .i64 y]] w fun e w' => e = .returned (.tuple #[.string ⟨#[]⟩, .int .i64 4]) ∧ Below w.heap.size w w' := by
  have CN := fun W => refnm_any c W
  have hne := name_full h
  generalize nameV c = a at CN hne
  clear h
  go_enter Tryd.func21, Tryd.ntmps21
  go_wp2_with (go_at_call 11; (with_reducible refine (CN _).mono ?_); rintro e w1 ⟨rfl, hb1⟩; obtain ⟨hc1, hf1⟩ := bcell hb1; have hz1 := hb1.size; (try simp at hz1); have hlt1 : w.heap.size < w1.heap.size := (by omega))
  go_ret2
  refine ⟨rfl, ?_⟩
  (repeat (first | assumption | exact Below.refl _ _ | (refine b_st ?_ (by first | (simp; done) | (simp; omega))) | (refine b_al ?_ (Nat.le_refl _) _) | refine b_dn ?_ | refine b_dr ?_ | (refine b_cl ?_ (Nat.le_refl _) (by assumption))))

theorem refline15_high (c x y : Int) (w : World) (h : isC c) (h2 : ¬ y ≤ x) (h3 : ¬ x < 0) (h4 : 40320 < y) :
    Calls Tryd.prog 21 #[.agg #[.int .i64 c, .int .i64 x, .int .i64 y]] w fun e w' => e = .returned (.tuple #[.string ⟨#[]⟩, .int .i64 4]) ∧ Below w.heap.size w w' := by
  have CN := fun W => refnm_any c W
  have hne := name_full h
  generalize nameV c = a at CN hne
  clear h
  go_enter Tryd.func21, Tryd.ntmps21
  go_wp2_with (go_at_call 11; (with_reducible refine (CN _).mono ?_); rintro e w1 ⟨rfl, hb1⟩; obtain ⟨hc1, hf1⟩ := bcell hb1; have hz1 := hb1.size; (try simp at hz1); have hlt1 : w.heap.size < w1.heap.size := (by omega))
  go_ret2
  refine ⟨rfl, ?_⟩
  (repeat (first | assumption | exact Below.refl _ _ | (refine b_st ?_ (by first | (simp; done) | (simp; omega))) | (refine b_al ?_ (Nat.le_refl _) _) | refine b_dn ?_ | refine b_dr ?_ | (refine b_cl ?_ (Nat.le_refl _) (by assumption))))

set_option maxHeartbeats 1000000 in
theorem refline15_ok (c x y : Int) (w : World) (h : isC c) (h2 : ¬ y ≤ x) (h3 : ¬ x < 0) (h4 : ¬ 40320 < y) :
    Calls Tryd.prog 21 #[.agg #[.int .i64 c, .int .i64 x, .int .i64 y]] w fun e w' => e = .returned (.tuple #[.string (findB c x y), .int .i64 0]) ∧ Below w.heap.size w w' := by
  have CN := fun W => refnm_any c W
  have CA := fun W => refar_any c W
  have CT := fun W => reftold_any x y W (by omega) (by omega) (by omega) (by omega)
  have hne := name_full h
  have hz := find_size (c := c) (x := x) (y := y) (by omega) (by omega) (by omega) (by omega)
  have hz3 := hz.2.2
  have hF : findB c x y = ((((artW ++ artV c) ++ ⟨#[32]⟩) ++ nameV c) ++ ⟨#[32]⟩) ++ toldB x y := rfl
  rw [hF] at hz3
  have s1 : artW.size = 4 := rfl
  have s2 : (⟨#[32]⟩ : ByteArray).size = 1 := rfl
  have r1 : ∀ W : World, (Op.stringOp .add ⟨#[97, 114, 116, 46]⟩ (artV c)).run Tryd.prog W = .ok (.string (artW ++ artV c)) W := fun W => run_string_add_sum W artW _ (by omega)
  have r2 : ∀ W : World, (Op.stringOp .add (artW ++ artV c) ⟨#[32]⟩).run Tryd.prog W = .ok (.string ((artW ++ artV c) ++ ⟨#[32]⟩)) W := fun W => run_string_add_sum W _ _ (by simp only [ByteArray.size_append] at hz3 ⊢; omega)
  have r3 : ∀ W : World, (Op.stringOp .add ((artW ++ artV c) ++ ⟨#[32]⟩) (nameV c)).run Tryd.prog W = .ok (.string (((artW ++ artV c) ++ ⟨#[32]⟩) ++ nameV c)) W := fun W => run_string_add_sum W _ _ (by simp only [ByteArray.size_append] at hz3 ⊢; omega)
  have r4 : ∀ W : World, (Op.stringOp .add (((artW ++ artV c) ++ ⟨#[32]⟩) ++ nameV c) ⟨#[32]⟩).run Tryd.prog W = .ok (.string ((((artW ++ artV c) ++ ⟨#[32]⟩) ++ nameV c) ++ ⟨#[32]⟩)) W := fun W => run_string_add_sum W _ _ (by simp only [ByteArray.size_append] at hz3 ⊢; omega)
  have r5 : ∀ W : World, (Op.stringOp .add ((((artW ++ artV c) ++ ⟨#[32]⟩) ++ nameV c) ++ ⟨#[32]⟩) (toldB x y)).run Tryd.prog W = .ok (.string (findB c x y)) W := fun W => run_string_add_sum W _ _ (by simp only [ByteArray.size_append] at hz3 ⊢; omega)
  clear hz hz3 hF s1 s2
  generalize findB c x y = z at r5
  generalize toldB x y = p at CT r5
  generalize (((artW ++ artV c) ++ ⟨#[32]⟩) ++ nameV c) ++ ⟨#[32]⟩ = d4 at r4 r5
  generalize ((artW ++ artV c) ++ ⟨#[32]⟩) ++ nameV c = d3 at r3 r4
  generalize (artW ++ artV c) ++ ⟨#[32]⟩ = d2 at r2 r3
  generalize artW ++ artV c = d1 at r1 r2
  generalize nameV c = a at CN hne r3
  generalize artV c = b at CA r1
  clear h
  go_enter Tryd.func21, Tryd.ntmps21
  go_wp2_with (go_at_call 11; (with_reducible refine (CN _).mono ?_); rintro e w1 ⟨rfl, hb1⟩; obtain ⟨hc1, hf1⟩ := bcell hb1; have hz1 := hb1.size; (try simp at hz1); have hlt1 : w.heap.size < w1.heap.size := (by omega))
  have q0 : ∀ p : BelowOf w1, p.world.cell? ⟨w.heap.size, 0, none⟩ = some (.int .i64 c) := fun p => p.cell (by rw [hc1 _ _ (by simp)]; simp)
  have q1 : ∀ p : BelowOf w1, p.world.cell? ⟨w.heap.size, 1, none⟩ = some (.int .i64 x) := fun p => p.cell (by rw [hc1 _ _ (by simp)]; simp)
  have q2 : ∀ p : BelowOf w1, p.world.cell? ⟨w.heap.size, 2, none⟩ = some (.int .i64 y) := fun p => p.cell (by rw [hc1 _ _ (by simp)]; simp)
  refine wp_region_bel (by kernel_rfl) (by kernel_rfl) ?_
  repeat (go_big_quiet_step (first
    | (go_at_call 12; (with_reducible exact Calls.bel_of (CA _)))
    | (go_at_call 11; (with_reducible exact Calls.bel_of (CN _)))
    | (go_at_call 33; (with_reducible exact Calls.bel_of (CT _)))))
  refine wpQuiet_nil ?_
  refine bel_all fun wq hbq => ?_
  go_wp2
  go_ret2
  refine ⟨rfl, ?_⟩
  (repeat (first | assumption | exact Below.refl _ _ | (refine b_st ?_ (by first | (simp; done) | (simp; omega))) | (refine b_al ?_ (Nat.le_refl _) _) | refine b_dn ?_ | refine b_dr ?_ | (refine b_cl ?_ (Nat.le_refl _) (by assumption))))

theorem refline15_any (c x y : Int) (w : World) :
    Calls Tryd.prog 21 #[.agg #[.int .i64 c, .int .i64 x, .int .i64 y]] w fun e w' => e = .returned (.tuple #[.string (line15V c x y).1, .int .i64 (line15V c x y).2]) ∧ Below w.heap.size w w' := by
  by_cases h : isC c
  · by_cases h2 : y ≤ x
    · rw [line15_wrong (err15_span h h2) (by decide)]; exact refline15_span c x y w h h2
    · by_cases h3 : x < 0
      · rw [line15_wrong (err15_range h h2 (.inl h3)) (by decide)]; exact refline15_low c x y w h h2 h3
      · by_cases h4 : 40320 < y
        · rw [line15_wrong (err15_range h h2 (.inr h4)) (by decide)]; exact refline15_high c x y w h h2 h3 h4
        · rw [line15_good (err15_ok h h2 (fun q => q.elim h3 h4))]; exact refline15_ok c x y w h h2 h3 h4
  · rw [line15_wrong (err15_none h) (by decide)]; exact refline15_none c x y w h

end Go.Proofs.YtdepglceffpfhaaDoor
