/- The chapter's example of layer 19 is answered as it is written. Conditions: none. -/
import Derived.Test.YthgieanhlmnneaaRows
import Derived.Test.YthgieanhlmnneaaBase
import Derived.Test.YthgieanhlmnneaaRow
import Derived.Test.YthgieanhlmnneaaIvalsWords
import Derived.Test.YthgieanhlmnneaaWindowMath
import Derived.Test.YthgieanhlmnneaaErrandMath
import Derived.Test.YthgieanhlmnneaaErrandHeap
import Derived.Test.YthgieanhlmnneaaErrandMath2
import Derived.Test.YthgieanhlmnneaaRecMath
import Derived.Test.YthgieanhlmnneaaBox
import Derived.Test.YthgieanhlmnneaaBoxRes
import Derived.Test.YthgieanhlmnneaaChg
import Derived.Test.YthgieanhlmnneaaErrandPast
import Derived.Test.YthgieanhlmnneaaErrandStart
import Derived.Test.YthgieanhlmnneaaErrandStepC
import Derived.WalkKit
import Derived.WalkSpells
import Derived.WalkSmall
import Derived.Below
import Derived.Lib.Hide
import Derived.Outline
import Derived.Deep.DeepCutAuto
import Derived.OwnWalk
import Derived.BigQuiet
import Derived.Deep.QuietTactic
import Derived.Deep.LoopGhost
import Derived.WalkMore
namespace Go.Proofs.Ythgieanhlmnneaa
open Go.RowKit

def exK : List Tk := [(2, 1, [(5, 7)])]
theorem ex_start : startV exK = (0, 0, 0) := by decide
theorem ex_check : checkT exK = 0 := by decide
theorem ex_one : stepV exK (0, 0, 0) 0 3 = ((0, 1, 0), 0, 0) := by decide
theorem ex_two : stepV exK (0, 1, 0) 1 3 = ((0, 2, 0), 0, 0) := by decide
theorem ex_three : stepV exK (0, 2, 0) 5 2 = ((1, 0, 0), 0, 0) := by decide
theorem ex_done : doneV exK (1, 0, 0) = true := by decide
theorem ex_few : Few exK := by
  intro t ht
  unfold exK at ht
  simp at ht
  subst ht
  decide
theorem ex_read (w : World) : RdK ((w.alloc (.cells #[.int .i64 5, .int .i64 7] 58)).alloc (.cells #[.int .i64 2, .int .i64 1, .slice (some ⟨w.heap.size, 0, none⟩) 1 1] 56)) (some ⟨w.heap.size + 1, 0, none⟩) exK := fun _ => by
  refine ⟨w.heap.size + 1, 0, rfl, by simp, fun k hk => ?_⟩
  obtain rfl : k = 0 := by unfold exK at hk; simp at hk; exact hk
  have hX : ((w.alloc (.cells #[.int .i64 5, .int .i64 7] 58)).alloc (.cells #[.int .i64 2, .int .i64 1, .slice (some ⟨w.heap.size, 0, none⟩) 1 1] 56)).heap[w.heap.size + 1]? = some (.cells #[.int .i64 2, .int .i64 1, .slice (some ⟨w.heap.size, 0, none⟩) 1 1] 56 (0, 0)) := by
    have := heap_alloc_new (w.alloc (.cells #[.int .i64 5, .int .i64 7] 58)) (.cells #[.int .i64 2, .int .i64 1, .slice (some ⟨w.heap.size, 0, none⟩) 1 1] 56)
    simpa using this
  have hY : ((w.alloc (.cells #[.int .i64 5, .int .i64 7] 58)).alloc (.cells #[.int .i64 2, .int .i64 1, .slice (some ⟨w.heap.size, 0, none⟩) 1 1] 56)).heap[w.heap.size]? = some (.cells #[.int .i64 5, .int .i64 7] 58 (0, 0)) := (heap_alloc_old _ _ (by simp)).trans (heap_alloc_new w (.cells #[.int .i64 5, .int .i64 7] 58))
  refine ⟨some ⟨w.heap.size, 0, none⟩, 1, ?_, ?_, ?_, fun _ => ⟨w.heap.size, 0, rfl, by simp; omega, fun j hj => ?_⟩⟩
  · rw [cell_of_row _ _ _ _ _ (0, 0) hX]; rfl
  · rw [cell_of_row _ _ _ _ _ (0, 0) hX]; rfl
  · rw [cell_of_row _ _ _ _ _ (0, 0) hX]; rfl
  · obtain rfl : j = 0 := by
      have : j < 1 := hj
      omega
    exact ⟨by rw [cell_of_row _ _ _ _ _ (0, 0) hY]; rfl, by rw [cell_of_row _ _ _ _ _ (0, 0) hY]; rfl⟩

set_option maxRecDepth 20000 in
set_option maxHeartbeats 2000000 in
theorem alive19_any (w : World) :
    Calls Try.prog 8 #[] w fun e w' => e = .returned (.bool true) ∧ Below w.heap.size w w' := by
  have CS := fun W (h : RdK W (some ⟨w.heap.size + 1, 0, none⟩) exK) => start19_any (some ⟨w.heap.size + 1, 0, none⟩) 1 1 exK rfl W h ex_few
  rw [ex_start, ex_check] at CS
  have C1 := fun W (h : RdK W (some ⟨w.heap.size + 1, 0, none⟩) exK) => step19_any (some ⟨w.heap.size + 1, 0, none⟩) 1 1 exK rfl 0 0 0 0 3 W h ex_few (by decide) (by decide) (by decide)
  rw [ex_one] at C1
  have C2 := fun W (h : RdK W (some ⟨w.heap.size + 1, 0, none⟩) exK) => step19_any (some ⟨w.heap.size + 1, 0, none⟩) 1 1 exK rfl 0 1 0 1 3 W h ex_few (by decide) (by decide) (by decide)
  rw [ex_two] at C2
  have C3 := fun W (h : RdK W (some ⟨w.heap.size + 1, 0, none⟩) exK) => step19_any (some ⟨w.heap.size + 1, 0, none⟩) 1 1 exK rfl 0 2 0 5 2 W h ex_few (by decide) (by decide) (by decide)
  rw [ex_three] at C3
  have CD := fun W (h : RdK W (some ⟨w.heap.size + 1, 0, none⟩) exK) => done19_any (some ⟨w.heap.size + 1, 0, none⟩) 1 1 exK rfl 1 0 0 W h ex_few (by decide) (by decide)
  rw [ex_done] at CD
  unfold sp3 at CS C1 C2 C3
  simp only at CS C1 C2 C3
  have HR := Lib.hid (ex_read w)
  have B0 := Lib.hid (show Below w.heap.size w ((w.alloc (.cells #[.int .i64 5, .int .i64 7] 58)).alloc (.cells #[.int .i64 2, .int .i64 1, .slice (some ⟨w.heap.size, 0, none⟩) 1 1] 56)) by (repeat (first | exact Below.refl _ _ | (refine b_st ?_ (by first | (simp; done) | (simp; omega))) | (refine b_al ?_ (Nat.le_refl _) _) | refine b_dn ?_ | refine b_dr ?_ | (refine b_cl ?_ (Nat.le_refl _) (by assumption)))))
  have HRn := Lib.hid (show RdKn ((w.alloc (.cells #[.int .i64 5, .int .i64 7] 58)).alloc (.cells #[.int .i64 2, .int .i64 1, .slice (some ⟨w.heap.size, 0, none⟩) 1 1] 56)).heap.size ((w.alloc (.cells #[.int .i64 5, .int .i64 7] 58)).alloc (.cells #[.int .i64 2, .int .i64 1, .slice (some ⟨w.heap.size, 0, none⟩) 1 1] 56)) (some ⟨w.heap.size + 1, 0, none⟩) exK from RdKn.of HR.out)
  go_enter Try.func8, Try.ntmps8
  go_wp2_with (first
    | (go_at_call 10; refine (CS _ HR.out).mono ?_; rintro e w1 ⟨rfl, hb1⟩; have HN1 := Lib.hid (show RdKn w1.heap.size (w1.alloc (.cells #[.int .i64 0, .int .i64 0, .int .i64 0] 24)) (some ⟨w.heap.size + 1, 0, none⟩) exK from (RdKn.of (HR.out.below hb1)).below (b_al (Below.refl _ _) (Nat.le_refl _) _)); have X1 := Lib.hid (Bx.new (W := w1) 24 #[.int .i64 0, .int .i64 0, .int .i64 0] rfl); have B1 := Lib.hid (b_al (b_cl B0.out (Nat.le_refl _) hb1) (Nat.le_refl _) (.cells #[.int .i64 0, .int .i64 0, .int .i64 0] 24)); have hz1 : w.heap.size ≤ w1.heap.size := (b_cl B0.out (Nat.le_refl _) hb1).size; clear hb1)
    | (go_at_call 18; (with_reducible refine (C1 _ ?_).mono ?_); (focus exact HN1.out.rd); rintro e w2 ⟨rfl, hb2⟩; have HN2 := Lib.hid (HN1.out.below (hb2.mono (by first | omega | (simp; done) | (simp; omega)))); have X2 := Lib.hid (X1.out.below hb2); have B2 := Lib.hid (b_cl B1.out (Nat.le_refl _) hb2); have l2 := X2.out.lt; clear hb2)
    | (refine wpList_store_box rfl 24 _ _ rfl w1.heap.size #[.int .i64 0, .int .i64 1, .int .i64 0] rfl rfl 24 #[.int .i64 0, .int .i64 0, .int .i64 0] X2.out (by kernel_rfl) rfl (one3 _ _ _) (fun w3 u => ?_); have X3 := Lib.hid u.box; have HN3 := Lib.hid (HN2.out.below (u.bel _ (Nat.le_refl _))); have B3 := Lib.hid (B2.out.trans (u.bel _ hz1)); have l3 := u.box.lt; have p0_3 := u.box.cell (k := 0) rfl; have p1_3 := u.box.cell (k := 1) rfl; have p2_3 := u.box.cell (k := 2) rfl; clear u)
    | (go_at_call 18; (with_reducible refine (C2 _ ?_).mono ?_); (focus exact HN3.out.rd); rintro e w4 ⟨rfl, hb4⟩; have HN4 := Lib.hid (HN3.out.below (hb4.mono (by first | omega | (simp; done) | (simp; omega)))); have X4 := Lib.hid (X3.out.below hb4); have B4 := Lib.hid (b_cl B3.out (Nat.le_refl _) hb4); have l4 := X4.out.lt; clear hb4)
    | (refine wpList_store_box rfl 24 _ _ rfl w1.heap.size #[.int .i64 0, .int .i64 2, .int .i64 0] rfl rfl 24 #[.int .i64 0, .int .i64 1, .int .i64 0] X4.out (by kernel_rfl) rfl (one3 _ _ _) (fun w5 u => ?_); have X5 := Lib.hid u.box; have HN5 := Lib.hid (HN4.out.below (u.bel _ (Nat.le_refl _))); have B5 := Lib.hid (B4.out.trans (u.bel _ hz1)); have l5 := u.box.lt; have p0_5 := u.box.cell (k := 0) rfl; have p1_5 := u.box.cell (k := 1) rfl; have p2_5 := u.box.cell (k := 2) rfl; clear u)
    | (go_at_call 18; (with_reducible refine (C3 _ ?_).mono ?_); (focus exact HN5.out.rd); rintro e w6 ⟨rfl, hb6⟩; have HN6 := Lib.hid (HN5.out.below (hb6.mono (by first | omega | (simp; done) | (simp; omega)))); have X6 := Lib.hid (X5.out.below hb6); have B6 := Lib.hid (b_cl B5.out (Nat.le_refl _) hb6); have l6 := X6.out.lt; clear hb6)
    | (refine wpList_store_box rfl 24 _ _ rfl w1.heap.size #[.int .i64 1, .int .i64 0, .int .i64 0] rfl rfl 24 #[.int .i64 0, .int .i64 2, .int .i64 0] X6.out (by kernel_rfl) rfl (one3 _ _ _) (fun w7 u => ?_); have X7 := Lib.hid u.box; have HN7 := Lib.hid (HN6.out.below (u.bel _ (Nat.le_refl _))); have B7 := Lib.hid (B6.out.trans (u.bel _ hz1)); have l7 := u.box.lt; have p0_7 := u.box.cell (k := 0) rfl; have p1_7 := u.box.cell (k := 1) rfl; have p2_7 := u.box.cell (k := 2) rfl; clear u)
    | (go_at_call 15; refine (CD _ HN7.out.rd).mono ?_; rintro e w8 ⟨rfl, hb8⟩))
  go_ret
  exact ⟨rfl, b_cl B7.out (Nat.le_refl _) hb8⟩

end Go.Proofs.Ythgieanhlmnneaa
