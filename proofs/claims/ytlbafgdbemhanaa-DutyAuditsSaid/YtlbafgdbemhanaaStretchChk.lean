/- What check and none of layer 14 return. Conditions: none. -/
import Derived.Test.YtlbafgdbemhanaaRows
import Derived.Test.YtlbafgdbemhanaaBase
import Derived.Test.YtlbafgdbemhanaaZ2
import Derived.Test.YtlbafgdbemhanaaZ3
import Derived.Test.YtlbafgdbemhanaaMeterChk
import Derived.Test.YtlbafgdbemhanaaZ4
import Derived.Test.YtlbafgdbemhanaaBookLim
import Derived.Test.YtlbafgdbemhanaaMeterRun
import Derived.WalkKit
import Derived.WalkSpells
import Derived.WalkSmall
import Derived.Below
import Derived.Lib.Hide
import Derived.Shelf.Abstract
import Derived.BigQuiet
import Derived.OwnWalk
import Derived.Outline
import Derived.Deep.DeepCutAuto
import Derived.StillTailTactics
import Derived.Maps.RangeWalk
import Derived.OrdersHeld
import Derived.Great.BuildSlice
namespace Go.Proofs.Ytlbafgdbemhanaa
open Go.RowKit

open Classical in
/-- The errors of a book, a meter and a kind. -/
noncomputable def err14 (x : Nat → Int) (m : Mt) (k : Int) : Int := if May x then (if MayM m then (if k < 0 ∨ 3 < k then 2 else 0) else 1) else 14
theorem err14_ok {x : Nat → Int} {m : Mt} {k : Int} : err14 x m k = 0 ↔ May x ∧ MayM m ∧ ¬ (k < 0 ∨ 3 < k) := by
  unfold err14
  constructor
  · intro h
    split at h
    · split at h
      · split at h
        · omega
        · exact ⟨by assumption, by assumption, by assumption⟩
      · omega
    · omega
  · intro ⟨h1, h2, h3⟩
    rw [if_pos h1, if_pos h2, if_neg h3]

set_option maxRecDepth 20000 in
open Classical in
theorem check14_any (x : Nat → Int) (m : Mt) (k : Int) (w : World) :
    Calls Try.prog 66 #[.agg (bk x), .agg (mt m), .int .i64 k] w fun e w' => e = .returned (.int .i64 (err14 x m k)) ∧ Below w.heap.size w w' := by
  have C1 := fun W => check7_any x W
  have C2 := fun W => mcheck_any m W
  have RB : RdI ((w.alloc (.cells (bk x) 23)).alloc (.cells (mt m) 36)) w.heap.size 0 x := (RdI.new x 23 rfl).alloc _
  have BM : Bx ((w.alloc (.cells (bk x) 23)).alloc (.cells (mt m) 36)) (w.heap.size + 1) 36 (mt m) := Bx.new (W := w.alloc (.cells (bk x) 23)) _ _ (by simp)
  unfold err14
  by_cases hm : May x
  case neg =>
    rw [if_neg hm]
    simp only [if_neg hm] at C1
    clear hm C2
    go_enter Try.func66, Try.ntmps66
    go_wp2_with (first | refine wpList_load_bk (by rfl) 23 _ rfl _ _ rfl x _ (RB) Try.underlying23 rfl (by kernel_rfl) ?_ | (go_at_call 33; (with_reducible refine (C1 _).mono ?_); rintro e w1 ⟨rfl, hb1⟩))
    go_ret
    exact ⟨rfl, b_cl (b_al (b_al (Below.refl _ _) (Nat.le_refl _) _) (Nat.le_refl _) _) (Nat.le_refl _) hb1⟩
  rw [if_pos hm]
  simp only [if_pos hm] at C1
  clear hm
  by_cases hM : MayM m
  case neg =>
    rw [if_neg hM]
    simp only [if_neg hM] at C2
    clear hM
    go_enter Try.func66, Try.ntmps66
    go_wp2_with (first | refine wpList_load_bk (by rfl) 23 _ rfl _ _ rfl x _ (RB) Try.underlying23 rfl (by kernel_rfl) ?_ | (go_at_call 33; (with_reducible refine (C1 _).mono ?_); rintro e w1 ⟨rfl, hb1⟩; have BM1 := BM.below hb1) | refine wpList_load_box (by rfl) 36 _ rfl (w.heap.size + 1) rfl 36 (mt m) _ BM1 Try.underlying36 rfl (by kernel_rfl) ?_ | (go_at_call 80; (with_reducible refine (C2 _).mono ?_); rintro e w2 ⟨rfl, hb2⟩))
    go_ret
    exact ⟨rfl, b_cl (b_cl (b_al (b_al (Below.refl _ _) (Nat.le_refl _) _) (Nat.le_refl _) _) (Nat.le_refl _) hb1) (Nat.le_refl _) hb2⟩
  rw [if_pos hM]
  simp only [if_pos hM] at C2
  clear hM
  by_cases h0 : k < 0
  case pos =>
    rw [if_pos (Or.inl h0)]
    have d0 : decide (k < 0) = true := decide_eq_true h0
    clear h0
    go_enter Try.func66, Try.ntmps66
    go_wp2_with (first | refine wpList_load_bk (by rfl) 23 _ rfl _ _ rfl x _ (RB) Try.underlying23 rfl (by kernel_rfl) ?_ | (go_at_call 33; (with_reducible refine (C1 _).mono ?_); rintro e w1 ⟨rfl, hb1⟩; have BM1 := BM.below hb1) | refine wpList_load_box (by rfl) 36 _ rfl (w.heap.size + 1) rfl 36 (mt m) _ BM1 Try.underlying36 rfl (by kernel_rfl) ?_ | (go_at_call 80; (with_reducible refine (C2 _).mono ?_); rintro e w2 ⟨rfl, hb2⟩))
    go_ret
    exact ⟨rfl, b_cl (b_cl (b_al (b_al (Below.refl _ _) (Nat.le_refl _) _) (Nat.le_refl _) _) (Nat.le_refl _) hb1) (Nat.le_refl _) hb2⟩
  have d0 : decide (k < 0) = false := decide_eq_false h0
  by_cases h3 : 3 < k
  case pos =>
    rw [if_pos (Or.inr h3)]
    have d3 : decide (4 ≤ k) = true := decide_eq_true (by omega)
    clear h0 h3
    go_enter Try.func66, Try.ntmps66
    go_wp2_with (first | refine wpList_load_bk (by rfl) 23 _ rfl _ _ rfl x _ (RB) Try.underlying23 rfl (by kernel_rfl) ?_ | (go_at_call 33; (with_reducible refine (C1 _).mono ?_); rintro e w1 ⟨rfl, hb1⟩; have BM1 := BM.below hb1) | refine wpList_load_box (by rfl) 36 _ rfl (w.heap.size + 1) rfl 36 (mt m) _ BM1 Try.underlying36 rfl (by kernel_rfl) ?_ | (go_at_call 80; (with_reducible refine (C2 _).mono ?_); rintro e w2 ⟨rfl, hb2⟩))
    go_ret
    exact ⟨rfl, b_cl (b_cl (b_al (b_al (Below.refl _ _) (Nat.le_refl _) _) (Nat.le_refl _) _) (Nat.le_refl _) hb1) (Nat.le_refl _) hb2⟩
  have d3 : decide (4 ≤ k) = false := decide_eq_false (by omega)
  rw [if_neg (by omega)]
  clear h0 h3
  go_enter Try.func66, Try.ntmps66
  go_wp2_with (first | refine wpList_load_bk (by rfl) 23 _ rfl _ _ rfl x _ (RB) Try.underlying23 rfl (by kernel_rfl) ?_ | (go_at_call 33; (with_reducible refine (C1 _).mono ?_); rintro e w1 ⟨rfl, hb1⟩; have BM1 := BM.below hb1) | refine wpList_load_box (by rfl) 36 _ rfl (w.heap.size + 1) rfl 36 (mt m) _ BM1 Try.underlying36 rfl (by kernel_rfl) ?_ | (go_at_call 80; (with_reducible refine (C2 _).mono ?_); rintro e w2 ⟨rfl, hb2⟩))
  go_ret
  exact ⟨rfl, b_cl (b_cl (b_al (b_al (Below.refl _ _) (Nat.le_refl _) _) (Nat.le_refl _) _) (Nat.le_refl _) hb1) (Nat.le_refl _) hb2⟩

def zeroF : Nat → Int := fun _ => 0
set_option maxRecDepth 20000 in
theorem none_any (w : World) :
    Calls Try.prog 67 #[] w fun e w' => e = .returned (.agg (tn noneF)) ∧ Below w.heap.size w w' := by
  have B0 : Bx (w.alloc (.cells (tn zeroF) 74)) w.heap.size 74 (tn zeroF) := Bx.new _ _ rfl
  go_enter Try.func67, Try.ntmps67
  go_wp2_with (first
    | refine wpList_build_as rfl 74 _ rfl (tn noneF) (by kernel_rfl) ?_
    | refine wpList_store_box rfl 74 _ _ rfl w.heap.size (tn noneF) rfl rfl 74 (tn zeroF) B0 (by kernel_rfl) rfl (tn_one _) (fun w2 u => ?_))
  refine bodyPost_ret (results_box1 Try.results67 _ _ w.heap.size 74 (tn noneF) _ rfl u.box Try.underlying74 rfl (by kernel_rfl)) rfl ⟨rfl, ?_⟩
  exact (b_al (Below.refl _ _) (Nat.le_refl _) _).trans (u.bel _ (Nat.le_refl _))

end Go.Proofs.Ytlbafgdbemhanaa
