/- What may and Under of layer 17 return. Conditions: none. -/
import Derived.Test.YtglgifhpacmhiaaRows
import Derived.Test.YtglgifhpacmhiaaBase
import Derived.Test.YtglgifhpacmhiaaRow
import Derived.Test.YtglgifhpacmhiaaBookRow
import Derived.Test.YtglgifhpacmhiaaBookLim
import Derived.Test.YtglgifhpacmhiaaBookLaws
import Derived.Test.YtglgifhpacmhiaaBox
import Derived.Test.YtglgifhpacmhiaaSpellMath
import Derived.Test.YtglgifhpacmhiaaMeterMath
import Derived.Test.YtglgifhpacmhiaaMeterChk
import Derived.Test.YtglgifhpacmhiaaBelowLeaf
import Derived.Test.YtglgifhpacmhiaaBelowMath
import Derived.WalkKit
import Derived.WalkSpells
import Derived.WalkSmall
import Derived.Below
import Derived.Lib.Hide
import Derived.BigQuiet
import Derived.OwnWalk
import Derived.Outline
import Derived.Maps.RangeWalk
namespace Go.Proofs.Ytglgifhpacmhiaa
open Go.RowKit

open Classical in
set_option maxRecDepth 20000 in
set_option maxHeartbeats 2000000 in
theorem may17_any (x : Nat → Int) (s t : Mt) (w : World) :
    Calls Try.prog 32 #[.agg (bk x), .agg (mt s), .agg (mt t)] w fun e w' => e = .returned (.bool (tf (MyM x s t))) ∧ Below w.heap.size w w' := by
  have XB0 : Bx (((w.alloc (.cells (bk x) 23)).alloc (.cells (mt s) 36)).alloc (.cells (mt t) 36)) w.heap.size 23 (bk x) := ((Bx.new (W := w) _ _ rfl).alloc _).alloc _
  have XS0 : Bx (((w.alloc (.cells (bk x) 23)).alloc (.cells (mt s) 36)).alloc (.cells (mt t) 36)) (w.heap.size + 1) 36 (mt s) := (Bx.new (W := w.alloc (.cells (bk x) 23)) _ _ (by simp)).alloc _
  have XT0 : Bx (((w.alloc (.cells (bk x) 23)).alloc (.cells (mt s) 36)).alloc (.cells (mt t) 36)) (w.heap.size + 1 + 1) 36 (mt t) := Bx.new (W := (w.alloc (.cells (bk x) 23)).alloc (.cells (mt s) 36)) _ _ (by simp)
  have B0 : Below w.heap.size w (((w.alloc (.cells (bk x) 23)).alloc (.cells (mt s) 36)).alloc (.cells (mt t) 36)) := b_al (b_al (b_al (Below.refl _ _) (Nat.le_refl _) _) (Nat.le_refl _) _) (Nat.le_refl _) _
  have C1 := fun W => check7_any x W
  have C2 := fun W => mcheck_any s W
  have C3 := fun W => mcheck_any t W
  by_cases c1 : May x
  case neg =>
    rw [tf_no (by unfold MyM; exact fun h => by simp_all)]
    simp only [if_neg c1] at C1
    clear c1 C2 C3
    go_enter Try.func32, Try.ntmps32
    go_wp2_with (first
      | go_skip
      | refine wpList_load_box (by rfl) 23 _ rfl (w.heap.size) rfl 23 (bk x) _ (by assumption) Try.underlying23 rfl (by kernel_rfl) ?_
      | refine wpList_load_box (by rfl) 36 _ rfl (w.heap.size + 1) rfl 36 (mt s) _ (by assumption) Try.underlying36 rfl (by kernel_rfl) ?_
      | refine wpList_load_box (by rfl) 36 _ rfl (w.heap.size + 1 + 1) rfl 36 (mt t) _ (by assumption) Try.underlying36 rfl (by kernel_rfl) ?_
      | (go_at_call 18; (with_reducible refine (C1 _).mono ?_); rintro e w1 ⟨rfl, hb1⟩; have XB1 := XB0.below hb1; have XS1 := XS0.below hb1; have XT1 := XT0.below hb1; have B1 := b_cl B0 (Nat.le_refl _) hb1; clear C1))
    go_ret
    exact ⟨rfl, B1⟩
  simp only [if_pos c1] at C1
  by_cases c2 : MayM s
  case neg =>
    rw [tf_no (by unfold MyM; exact fun h => by simp_all)]
    simp only [if_neg c2] at C2
    clear c2 C3
    clear c1
    go_enter Try.func32, Try.ntmps32
    go_wp2_with (first
      | go_skip
      | refine wpList_load_box (by rfl) 23 _ rfl (w.heap.size) rfl 23 (bk x) _ (by assumption) Try.underlying23 rfl (by kernel_rfl) ?_
      | refine wpList_load_box (by rfl) 36 _ rfl (w.heap.size + 1) rfl 36 (mt s) _ (by assumption) Try.underlying36 rfl (by kernel_rfl) ?_
      | refine wpList_load_box (by rfl) 36 _ rfl (w.heap.size + 1 + 1) rfl 36 (mt t) _ (by assumption) Try.underlying36 rfl (by kernel_rfl) ?_
      | (go_at_call 18; (with_reducible refine (C1 _).mono ?_); rintro e w1 ⟨rfl, hb1⟩; have XB1 := XB0.below hb1; have XS1 := XS0.below hb1; have XT1 := XT0.below hb1; have B1 := b_cl B0 (Nat.le_refl _) hb1; clear C1)
      | (go_at_call 44; (with_reducible refine (C2 _).mono ?_); rintro e w2 ⟨rfl, hb2⟩; have XB2 := XB1.below hb2; have XS2 := XS1.below hb2; have XT2 := XT1.below hb2; have B2 := b_cl B1 (Nat.le_refl _) hb2; clear C2))
    go_ret
    exact ⟨rfl, B2⟩
  simp only [if_pos c2] at C2
  by_cases c3 : MayM t
  case neg =>
    rw [tf_no (by unfold MyM; exact fun h => by simp_all)]
    simp only [if_neg c3] at C3
    clear c3 
    clear c1
    clear c2
    go_enter Try.func32, Try.ntmps32
    go_wp2_with (first
      | go_skip
      | refine wpList_load_box (by rfl) 23 _ rfl (w.heap.size) rfl 23 (bk x) _ (by assumption) Try.underlying23 rfl (by kernel_rfl) ?_
      | refine wpList_load_box (by rfl) 36 _ rfl (w.heap.size + 1) rfl 36 (mt s) _ (by assumption) Try.underlying36 rfl (by kernel_rfl) ?_
      | refine wpList_load_box (by rfl) 36 _ rfl (w.heap.size + 1 + 1) rfl 36 (mt t) _ (by assumption) Try.underlying36 rfl (by kernel_rfl) ?_
      | (go_at_call 18; (with_reducible refine (C1 _).mono ?_); rintro e w1 ⟨rfl, hb1⟩; have XB1 := XB0.below hb1; have XS1 := XS0.below hb1; have XT1 := XT0.below hb1; have B1 := b_cl B0 (Nat.le_refl _) hb1; clear C1)
      | (go_at_call 44; (with_reducible refine (C2 _).mono ?_); rintro e w2 ⟨rfl, hb2⟩; have XB2 := XB1.below hb2; have XS2 := XS1.below hb2; have XT2 := XT1.below hb2; have B2 := b_cl B1 (Nat.le_refl _) hb2; clear C2)
      | (go_at_call 44; (with_reducible refine (C3 _).mono ?_); rintro e w3 ⟨rfl, hb3⟩; have XB3 := XB2.below hb3; have XS3 := XS2.below hb3; have XT3 := XT2.below hb3; have B3 := b_cl B2 (Nat.le_refl _) hb3; clear C3))
    go_ret
    exact ⟨rfl, B3⟩
  simp only [if_pos c3] at C3
  rw [tf_yes (show MyM x s t from ⟨c1, c2, c3⟩)]
  clear c1
  clear c2
  clear c3
  go_enter Try.func32, Try.ntmps32
  go_wp2_with (first
    | go_skip
    | refine wpList_load_box (by rfl) 23 _ rfl (w.heap.size) rfl 23 (bk x) _ (by assumption) Try.underlying23 rfl (by kernel_rfl) ?_
    | refine wpList_load_box (by rfl) 36 _ rfl (w.heap.size + 1) rfl 36 (mt s) _ (by assumption) Try.underlying36 rfl (by kernel_rfl) ?_
    | refine wpList_load_box (by rfl) 36 _ rfl (w.heap.size + 1 + 1) rfl 36 (mt t) _ (by assumption) Try.underlying36 rfl (by kernel_rfl) ?_
    | (go_at_call 18; (with_reducible refine (C1 _).mono ?_); rintro e w1 ⟨rfl, hb1⟩; have XB1 := XB0.below hb1; have XS1 := XS0.below hb1; have XT1 := XT0.below hb1; have B1 := b_cl B0 (Nat.le_refl _) hb1; clear C1)
    | (go_at_call 44; (with_reducible refine (C2 _).mono ?_); rintro e w2 ⟨rfl, hb2⟩; have XB2 := XB1.below hb2; have XS2 := XS1.below hb2; have XT2 := XT1.below hb2; have B2 := b_cl B1 (Nat.le_refl _) hb2; clear C2)
    | (go_at_call 44; (with_reducible refine (C3 _).mono ?_); rintro e w3 ⟨rfl, hb3⟩; have XB3 := XB2.below hb3; have XS3 := XS2.below hb3; have XT3 := XT2.below hb3; have B3 := b_cl B2 (Nat.le_refl _) hb3; clear C3))
  go_ret
  exact ⟨rfl, B3⟩

set_option maxRecDepth 20000 in
set_option maxHeartbeats 2000000 in
theorem under17_any (x : Nat → Int) (s t : Mt) (w : World) :
    Calls Try.prog 16 #[.agg (bk x), .agg (mt s), .agg (mt t)] w fun e w' => e = .returned (.bool (tf (Un x s t))) ∧ Below w.heap.size w w' := by
  have XB0 : Bx (((w.alloc (.cells (bk x) 23)).alloc (.cells (mt s) 36)).alloc (.cells (mt t) 36)) w.heap.size 23 (bk x) := ((Bx.new (W := w) _ _ rfl).alloc _).alloc _
  have XS0 : Bx (((w.alloc (.cells (bk x) 23)).alloc (.cells (mt s) 36)).alloc (.cells (mt t) 36)) (w.heap.size + 1) 36 (mt s) := (Bx.new (W := w.alloc (.cells (bk x) 23)) _ _ (by simp)).alloc _
  have XT0 : Bx (((w.alloc (.cells (bk x) 23)).alloc (.cells (mt s) 36)).alloc (.cells (mt t) 36)) (w.heap.size + 1 + 1) 36 (mt t) := Bx.new (W := (w.alloc (.cells (bk x) 23)).alloc (.cells (mt s) 36)) _ _ (by simp)
  have B0 : Below w.heap.size w (((w.alloc (.cells (bk x) 23)).alloc (.cells (mt s) 36)).alloc (.cells (mt t) 36)) := b_al (b_al (b_al (Below.refl _ _) (Nat.le_refl _) _) (Nat.le_refl _) _) (Nat.le_refl _) _
  have C1 := fun W => abreast17_any s t W
  have C2 := fun W => spent17_any s t W
  have C3 := fun W => rested17_any s t W
  have C4 := fun W => longers17_any x s t W
  have C5 := fun W => may17_any x s t W
  by_cases c1 : AbrM s t
  case neg =>
    rw [tf_no (by exact fun h => by have := h.1.abr; have := h.1.sp; have := h.1.rs; have := h.1.lg; have := h.2; contradiction)]
    simp only [tf_no c1] at C1
    clear c1 C2 C3 C4 C5
    go_enter Try.func16, Try.ntmps16
    go_wp2_with (first
      | go_skip
      | refine wpList_load_box (by rfl) 23 _ rfl (w.heap.size) rfl 23 (bk x) _ (by assumption) Try.underlying23 rfl (by kernel_rfl) ?_
      | refine wpList_load_box (by rfl) 36 _ rfl (w.heap.size + 1) rfl 36 (mt s) _ (by assumption) Try.underlying36 rfl (by kernel_rfl) ?_
      | refine wpList_load_box (by rfl) 36 _ rfl (w.heap.size + 1 + 1) rfl 36 (mt t) _ (by assumption) Try.underlying36 rfl (by kernel_rfl) ?_
      | (go_at_call 28; (with_reducible refine (C1 _).mono ?_); rintro e w1 ⟨rfl, hb1⟩; have XB1 := XB0.below hb1; have XS1 := XS0.below hb1; have XT1 := XT0.below hb1; have B1 := b_cl B0 (Nat.le_refl _) hb1; clear C1))
    go_ret
    exact ⟨rfl, B1⟩
  simp only [tf_yes c1] at C1
  by_cases c2 : SpM s t
  case neg =>
    rw [tf_no (by exact fun h => by have := h.1.abr; have := h.1.sp; have := h.1.rs; have := h.1.lg; have := h.2; contradiction)]
    simp only [tf_no c2] at C2
    clear c2 C3 C4 C5
    clear c1
    go_enter Try.func16, Try.ntmps16
    go_wp2_with (first
      | go_skip
      | refine wpList_load_box (by rfl) 23 _ rfl (w.heap.size) rfl 23 (bk x) _ (by assumption) Try.underlying23 rfl (by kernel_rfl) ?_
      | refine wpList_load_box (by rfl) 36 _ rfl (w.heap.size + 1) rfl 36 (mt s) _ (by assumption) Try.underlying36 rfl (by kernel_rfl) ?_
      | refine wpList_load_box (by rfl) 36 _ rfl (w.heap.size + 1 + 1) rfl 36 (mt t) _ (by assumption) Try.underlying36 rfl (by kernel_rfl) ?_
      | (go_at_call 28; (with_reducible refine (C1 _).mono ?_); rintro e w1 ⟨rfl, hb1⟩; have XB1 := XB0.below hb1; have XS1 := XS0.below hb1; have XT1 := XT0.below hb1; have B1 := b_cl B0 (Nat.le_refl _) hb1; clear C1)
      | (go_at_call 29; (with_reducible refine (C2 _).mono ?_); rintro e w2 ⟨rfl, hb2⟩; have XB2 := XB1.below hb2; have XS2 := XS1.below hb2; have XT2 := XT1.below hb2; have B2 := b_cl B1 (Nat.le_refl _) hb2; clear C2))
    go_ret
    exact ⟨rfl, B2⟩
  simp only [tf_yes c2] at C2
  by_cases c3 : RsM s t
  case neg =>
    rw [tf_no (by exact fun h => by have := h.1.abr; have := h.1.sp; have := h.1.rs; have := h.1.lg; have := h.2; contradiction)]
    simp only [tf_no c3] at C3
    clear c3 C4 C5
    clear c1
    clear c2
    go_enter Try.func16, Try.ntmps16
    go_wp2_with (first
      | go_skip
      | refine wpList_load_box (by rfl) 23 _ rfl (w.heap.size) rfl 23 (bk x) _ (by assumption) Try.underlying23 rfl (by kernel_rfl) ?_
      | refine wpList_load_box (by rfl) 36 _ rfl (w.heap.size + 1) rfl 36 (mt s) _ (by assumption) Try.underlying36 rfl (by kernel_rfl) ?_
      | refine wpList_load_box (by rfl) 36 _ rfl (w.heap.size + 1 + 1) rfl 36 (mt t) _ (by assumption) Try.underlying36 rfl (by kernel_rfl) ?_
      | (go_at_call 28; (with_reducible refine (C1 _).mono ?_); rintro e w1 ⟨rfl, hb1⟩; have XB1 := XB0.below hb1; have XS1 := XS0.below hb1; have XT1 := XT0.below hb1; have B1 := b_cl B0 (Nat.le_refl _) hb1; clear C1)
      | (go_at_call 29; (with_reducible refine (C2 _).mono ?_); rintro e w2 ⟨rfl, hb2⟩; have XB2 := XB1.below hb2; have XS2 := XS1.below hb2; have XT2 := XT1.below hb2; have B2 := b_cl B1 (Nat.le_refl _) hb2; clear C2)
      | (go_at_call 30; (with_reducible refine (C3 _).mono ?_); rintro e w3 ⟨rfl, hb3⟩; have XB3 := XB2.below hb3; have XS3 := XS2.below hb3; have XT3 := XT2.below hb3; have B3 := b_cl B2 (Nat.le_refl _) hb3; clear C3))
    go_ret
    exact ⟨rfl, B3⟩
  simp only [tf_yes c3] at C3
  by_cases c4 : LgM x s t
  case neg =>
    rw [tf_no (by exact fun h => by have := h.1.abr; have := h.1.sp; have := h.1.rs; have := h.1.lg; have := h.2; contradiction)]
    simp only [tf_no c4] at C4
    clear c4 C5
    clear c1
    clear c2
    clear c3
    go_enter Try.func16, Try.ntmps16
    go_wp2_with (first
      | go_skip
      | refine wpList_load_box (by rfl) 23 _ rfl (w.heap.size) rfl 23 (bk x) _ (by assumption) Try.underlying23 rfl (by kernel_rfl) ?_
      | refine wpList_load_box (by rfl) 36 _ rfl (w.heap.size + 1) rfl 36 (mt s) _ (by assumption) Try.underlying36 rfl (by kernel_rfl) ?_
      | refine wpList_load_box (by rfl) 36 _ rfl (w.heap.size + 1 + 1) rfl 36 (mt t) _ (by assumption) Try.underlying36 rfl (by kernel_rfl) ?_
      | (go_at_call 28; (with_reducible refine (C1 _).mono ?_); rintro e w1 ⟨rfl, hb1⟩; have XB1 := XB0.below hb1; have XS1 := XS0.below hb1; have XT1 := XT0.below hb1; have B1 := b_cl B0 (Nat.le_refl _) hb1; clear C1)
      | (go_at_call 29; (with_reducible refine (C2 _).mono ?_); rintro e w2 ⟨rfl, hb2⟩; have XB2 := XB1.below hb2; have XS2 := XS1.below hb2; have XT2 := XT1.below hb2; have B2 := b_cl B1 (Nat.le_refl _) hb2; clear C2)
      | (go_at_call 30; (with_reducible refine (C3 _).mono ?_); rintro e w3 ⟨rfl, hb3⟩; have XB3 := XB2.below hb3; have XS3 := XS2.below hb3; have XT3 := XT2.below hb3; have B3 := b_cl B2 (Nat.le_refl _) hb3; clear C3)
      | (go_at_call 31; (with_reducible refine (C4 _).mono ?_); rintro e w4 ⟨rfl, hb4⟩; have XB4 := XB3.below hb4; have XS4 := XS3.below hb4; have XT4 := XT3.below hb4; have B4 := b_cl B3 (Nat.le_refl _) hb4; clear C4))
    go_ret
    exact ⟨rfl, B4⟩
  simp only [tf_yes c4] at C4
  by_cases c5 : MyM x s t
  case neg =>
    rw [tf_no (by exact fun h => by have := h.1.abr; have := h.1.sp; have := h.1.rs; have := h.1.lg; have := h.2; contradiction)]
    simp only [tf_no c5] at C5
    clear c5 
    clear c1
    clear c2
    clear c3
    clear c4
    go_enter Try.func16, Try.ntmps16
    go_wp2_with (first
      | go_skip
      | refine wpList_load_box (by rfl) 23 _ rfl (w.heap.size) rfl 23 (bk x) _ (by assumption) Try.underlying23 rfl (by kernel_rfl) ?_
      | refine wpList_load_box (by rfl) 36 _ rfl (w.heap.size + 1) rfl 36 (mt s) _ (by assumption) Try.underlying36 rfl (by kernel_rfl) ?_
      | refine wpList_load_box (by rfl) 36 _ rfl (w.heap.size + 1 + 1) rfl 36 (mt t) _ (by assumption) Try.underlying36 rfl (by kernel_rfl) ?_
      | (go_at_call 28; (with_reducible refine (C1 _).mono ?_); rintro e w1 ⟨rfl, hb1⟩; have XB1 := XB0.below hb1; have XS1 := XS0.below hb1; have XT1 := XT0.below hb1; have B1 := b_cl B0 (Nat.le_refl _) hb1; clear C1)
      | (go_at_call 29; (with_reducible refine (C2 _).mono ?_); rintro e w2 ⟨rfl, hb2⟩; have XB2 := XB1.below hb2; have XS2 := XS1.below hb2; have XT2 := XT1.below hb2; have B2 := b_cl B1 (Nat.le_refl _) hb2; clear C2)
      | (go_at_call 30; (with_reducible refine (C3 _).mono ?_); rintro e w3 ⟨rfl, hb3⟩; have XB3 := XB2.below hb3; have XS3 := XS2.below hb3; have XT3 := XT2.below hb3; have B3 := b_cl B2 (Nat.le_refl _) hb3; clear C3)
      | (go_at_call 31; (with_reducible refine (C4 _).mono ?_); rintro e w4 ⟨rfl, hb4⟩; have XB4 := XB3.below hb4; have XS4 := XS3.below hb4; have XT4 := XT3.below hb4; have B4 := b_cl B3 (Nat.le_refl _) hb4; clear C4)
      | (go_at_call 32; (with_reducible refine (C5 _).mono ?_); rintro e w5 ⟨rfl, hb5⟩; have XB5 := XB4.below hb5; have XS5 := XS4.below hb5; have XT5 := XT4.below hb5; have B5 := b_cl B4 (Nat.le_refl _) hb5; clear C5))
    go_ret
    exact ⟨rfl, B5⟩
  simp only [tf_yes c5] at C5
  rw [tf_yes (show Un x s t from ⟨⟨c1, c2, c3, c4⟩, c5⟩)]
  clear c1
  clear c2
  clear c3
  clear c4
  clear c5
  go_enter Try.func16, Try.ntmps16
  go_wp2_with (first
    | go_skip
    | refine wpList_load_box (by rfl) 23 _ rfl (w.heap.size) rfl 23 (bk x) _ (by assumption) Try.underlying23 rfl (by kernel_rfl) ?_
    | refine wpList_load_box (by rfl) 36 _ rfl (w.heap.size + 1) rfl 36 (mt s) _ (by assumption) Try.underlying36 rfl (by kernel_rfl) ?_
    | refine wpList_load_box (by rfl) 36 _ rfl (w.heap.size + 1 + 1) rfl 36 (mt t) _ (by assumption) Try.underlying36 rfl (by kernel_rfl) ?_
    | (go_at_call 28; (with_reducible refine (C1 _).mono ?_); rintro e w1 ⟨rfl, hb1⟩; have XB1 := XB0.below hb1; have XS1 := XS0.below hb1; have XT1 := XT0.below hb1; have B1 := b_cl B0 (Nat.le_refl _) hb1; clear C1)
    | (go_at_call 29; (with_reducible refine (C2 _).mono ?_); rintro e w2 ⟨rfl, hb2⟩; have XB2 := XB1.below hb2; have XS2 := XS1.below hb2; have XT2 := XT1.below hb2; have B2 := b_cl B1 (Nat.le_refl _) hb2; clear C2)
    | (go_at_call 30; (with_reducible refine (C3 _).mono ?_); rintro e w3 ⟨rfl, hb3⟩; have XB3 := XB2.below hb3; have XS3 := XS2.below hb3; have XT3 := XT2.below hb3; have B3 := b_cl B2 (Nat.le_refl _) hb3; clear C3)
    | (go_at_call 31; (with_reducible refine (C4 _).mono ?_); rintro e w4 ⟨rfl, hb4⟩; have XB4 := XB3.below hb4; have XS4 := XS3.below hb4; have XT4 := XT3.below hb4; have B4 := b_cl B3 (Nat.le_refl _) hb4; clear C4)
    | (go_at_call 32; (with_reducible refine (C5 _).mono ?_); rintro e w5 ⟨rfl, hb5⟩; have XB5 := XB4.below hb5; have XS5 := XS4.below hb5; have XT5 := XT4.below hb5; have B5 := b_cl B4 (Nat.le_refl _) hb5; clear C5))
  go_ret
  exact ⟨rfl, B5⟩

end Go.Proofs.Ytglgifhpacmhiaa
