/- What Tighter of layer 7 and the document's own return, for any two books. Conditions: none. -/
import Derived.Test.YtomodamdlnkcmaaRows
import Derived.Test.YtomodamdlnkcmaaBase
import Derived.Test.YtomodamdlnkcmaaBookRow
import Derived.Test.YtomodamdlnkcmaaBookLeaf
import Derived.Test.YtomodamdlnkcmaaBookNum
import Derived.Test.YtomodamdlnkcmaaBookBel
import Derived.Test.YtomodamdlnkcmaaBookOrd
import Derived.Test.YtomodamdlnkcmaaBookLim
import Derived.Test.YtomodamdlnkcmaaBookLaws
import Derived.WalkKit
import Derived.WalkSpells
import Derived.WalkSmall
import Derived.Below
import Derived.Lib.Hide
import Derived.Outline
import Derived.Great.BuildSlice
import Derived.BigQuiet
import Derived.Deep.QuietTactic
import Derived.Deep.RegionHeld3
namespace Go.Proofs.Ytomodamdlnkcmaa
open Go.RowKit

/-- Must this number be the same? -/
def sm (i : Nat) : Bool := i == 1 || i == 2 || i == 3 || i == 7 || i == 8 || i == 10 || i == 12 || i == 13 || i == 18
/-- The first book is nowhere laxer. -/
def Tig (x y : Nat → Int) : Prop := (∀ i, i < 19 → sm i = true → x i = y i) ∧ ∀ i, i < 19 → x i ≤ y i

theorem fix_eq {x y : Nat → Int} : eqB (fixV x) (fixV y) = true ↔ ∀ i, i < 19 → sm i = true → x i = y i := by
  rw [eqB_iff]
  constructor
  · intro h i hi
    have hh := h i hi
    have : i = 0 ∨ i = 1 ∨ i = 2 ∨ i = 3 ∨ i = 4 ∨ i = 5 ∨ i = 6 ∨ i = 7 ∨ i = 8 ∨ i = 9 ∨ i = 10 ∨ i = 11 ∨ i = 12 ∨ i = 13 ∨ i = 14 ∨ i = 15 ∨ i = 16 ∨ i = 17 ∨ i = 18 := by omega
    rcases this with rfl | rfl | rfl | rfl | rfl | rfl | rfl | rfl | rfl | rfl | rfl | rfl | rfl | rfl | rfl | rfl | rfl | rfl | rfl <;> first | (intro hs; exact absurd hs (by decide)) | (intro _; exact hh)
  · intro h i hi
    have hh := h i hi
    have : i = 0 ∨ i = 1 ∨ i = 2 ∨ i = 3 ∨ i = 4 ∨ i = 5 ∨ i = 6 ∨ i = 7 ∨ i = 8 ∨ i = 9 ∨ i = 10 ∨ i = 11 ∨ i = 12 ∨ i = 13 ∨ i = 14 ∨ i = 15 ∨ i = 16 ∨ i = 17 ∨ i = 18 := by omega
    rcases this with rfl | rfl | rfl | rfl | rfl | rfl | rfl | rfl | rfl | rfl | rfl | rfl | rfl | rfl | rfl | rfl | rfl | rfl | rfl <;> first | rfl | exact hh (by decide)

theorem Tig.refl (x : Nat → Int) : Tig x x := ⟨fun _ _ _ => rfl, fun _ _ => Int.le_refl _⟩
theorem Tig.trans {x y z : Nat → Int} (h : Tig x y) (k : Tig y z) : Tig x z := ⟨fun i hi hs => (h.1 i hi hs).trans (k.1 i hi hs), fun i hi => Int.le_trans (h.2 i hi) (k.2 i hi)⟩
theorem Tig.same {x y : Nat → Int} (h : Tig x y) (k : Tig y x) : ∀ i, i < 19 → x i = y i := fun i hi => Int.le_antisymm (h.2 i hi) (k.2 i hi)

set_option maxRecDepth 20000 in
set_option maxHeartbeats 4000000 in
open Classical in
theorem tighter7_any (x y : Nat → Int) (w : World) :
    Calls Try.prog 16 #[.agg (bk x), .agg (bk y)] w fun e w' => e = .returned (.bool (if Tig x y then true else false)) ∧ Below w.heap.size w w' := by
  obtain ⟨v, hv⟩ : ∃ v, (if Tig x y then true else false) = v := ⟨_, rfl⟩
  rw [hv]
  have HV := Lib.hid hv
  clear hv
  have r1 : RdI ((w.alloc (.cells (bk x) 23)).alloc (.cells (bk y) 23)) w.heap.size 0 x := (RdI.new x _ rfl).alloc _
  have r2 : RdI ((w.alloc (.cells (bk x) 23)).alloc (.cells (bk y) 23)) (w.heap.size + 1) 0 y := RdI.new y _ (by simp)
  have hB0 : Below w.heap.size w ((w.alloc (.cells (bk x) 23)).alloc (.cells (bk y) 23)) := b_al (b_al (Below.refl _ _) (Nat.le_refl _) _) (Nat.le_refl _) _
  by_cases hs : eqB (fixV x) (fixV y) = true
  case neg =>
    have he : eqB (fixV x) (fixV y) = false := by simpa using hs
    have hvf : v = false := by rw [← HV.out]; exact if_neg (fun h => hs (fix_eq.2 h.1))
    subst hvf
    clear HV hs
    go_enter Try.func16, Try.ntmps16
    go_wp2_with fail
    refine wp_region_noPanic ?_
    refine wp_region_held_drew (S := fun w' => RdI w' w.heap.size 0 x ∧ RdI w' (w.heap.size + 1) 0 y) (by kernel_rfl) ?_ (fun hHeld => ?_)
    · exact ⟨r1.below (b_dr (Below.refl _ _)), r2.below (b_dr (Below.refl _ _))⟩
    refine wpAnyH_take (i := 0) (oi := ⟨some 8, _, _, _, _, _⟩) (v := .agg (bk x)) rfl (by kernel_rfl) (by kernel_rfl) (by kernel_rfl) (fun _ _ _ h => h) (yieldsIf_exec (by rfl) (fun w' hSw => exec_load w.heap.size 0 x _ w' rfl rfl (hSw.1) Try.underlying23 rfl (by kernel_rfl))) (by assumption) ?_
    (try simp only [Act.put, List.setIfInBounds_toArray, List.set_cons_zero, List.set_cons_succ])
    refine wpAnyH_take (i := 2) (oi := ⟨some 10, _, _, _, _, _⟩) (v := .agg (bk y)) rfl (by kernel_rfl) (by kernel_rfl) (by kernel_rfl) (fun _ _ _ h => h) (yieldsIf_exec (by rfl) (fun w' hSw => exec_load (w.heap.size + 1) 0 y _ w' rfl rfl (hSw.2) Try.underlying23 rfl (by kernel_rfl))) (by assumption) ?_
    (try simp only [Act.put, List.setIfInBounds_toArray, List.set_cons_zero, List.set_cons_succ])
    refine wpAnyH_ready (rs := [1]) (by kernel_rfl) (by simp) ?_
    refine AllReadyH.cons (o := ⟨some 9, _, _, _, _, _⟩) rfl (fun K hK => ?_) AllReadyH.nil
    go_simp
    (go_at_call 22; (with_reducible refine (fixed_any x _).mono ?_); rintro e w3 ⟨rfl, hb3⟩)
    go_wp2_with fail
    refine hK.out _ _ (⟨hHeld.1.below hb3, hHeld.2.below hb3⟩) (fun hHeld => ?_)
    clear hK K
    (try simp only [Act.put, List.setIfInBounds_toArray, List.set_cons_zero, List.set_cons_succ])
    refine wpAnyH_ready (rs := [3]) (by kernel_rfl) (by simp) ?_
    refine AllReadyH.cons (o := ⟨some 11, _, _, _, _, _⟩) rfl (fun K hK => ?_) AllReadyH.nil
    go_simp
    (go_at_call 22; (with_reducible refine (fixed_any y _).mono ?_); rintro e w4 ⟨rfl, hb4⟩)
    go_wp2_with fail
    refine hK.out _ _ (⟨hHeld.1.below hb4, hHeld.2.below hb4⟩) (fun hHeld => ?_)
    clear hK K
    (try simp only [Act.put, List.setIfInBounds_toArray, List.set_cons_zero, List.set_cons_succ])
    refine wpAnyH_take (i := 4) (oi := ⟨some 12, _, _, _, _, _⟩) (v := .bool (!false)) rfl (by kernel_rfl) (by kernel_rfl) (by kernel_rfl) (fun _ _ _ h => h) (yieldsIf_exec (by rfl) (fun w' hSw => (by rw [← he]; exact exec_neq (fixV x) (fixV y) w' rfl rfl rfl))) (by assumption) ?_
    (try simp only [Act.put, List.setIfInBounds_toArray, List.set_cons_zero, List.set_cons_succ])
    refine wpAnyH_done (by kernel_rfl) ?_ _
    refine NoPanic.normal ?_
    go_wp2
    go_ret
    refine ⟨rfl, ?_⟩
    refine b_cl ?_ (Nat.le_refl _) hb4
    refine b_cl ?_ (Nat.le_refl _) hb3
    exact b_dr hB0
  have HS := Lib.hid (fix_eq.1 hs)
  have he : eqB (fixV x) (fixV y) = true := hs
  clear hs
  go_enter Try.func16, Try.ntmps16
  go_wp2_with fail
  refine wp_region_noPanic ?_
  refine wp_region_held_drew (S := fun w' => RdI w' w.heap.size 0 x ∧ RdI w' (w.heap.size + 1) 0 y) (by kernel_rfl) ?_ (fun hHeld => ?_)
  · exact ⟨r1.below (b_dr (Below.refl _ _)), r2.below (b_dr (Below.refl _ _))⟩
  refine wpAnyH_take (i := 0) (oi := ⟨some 8, _, _, _, _, _⟩) (v := .agg (bk x)) rfl (by kernel_rfl) (by kernel_rfl) (by kernel_rfl) (fun _ _ _ h => h) (yieldsIf_exec (by rfl) (fun w' hSw => exec_load w.heap.size 0 x _ w' rfl rfl (hSw.1) Try.underlying23 rfl (by kernel_rfl))) (by assumption) ?_
  (try simp only [Act.put, List.setIfInBounds_toArray, List.set_cons_zero, List.set_cons_succ])
  refine wpAnyH_take (i := 2) (oi := ⟨some 10, _, _, _, _, _⟩) (v := .agg (bk y)) rfl (by kernel_rfl) (by kernel_rfl) (by kernel_rfl) (fun _ _ _ h => h) (yieldsIf_exec (by rfl) (fun w' hSw => exec_load (w.heap.size + 1) 0 y _ w' rfl rfl (hSw.2) Try.underlying23 rfl (by kernel_rfl))) (by assumption) ?_
  (try simp only [Act.put, List.setIfInBounds_toArray, List.set_cons_zero, List.set_cons_succ])
  refine wpAnyH_ready (rs := [1]) (by kernel_rfl) (by simp) ?_
  refine AllReadyH.cons (o := ⟨some 9, _, _, _, _, _⟩) rfl (fun K hK => ?_) AllReadyH.nil
  go_simp
  (go_at_call 22; (with_reducible refine (fixed_any x _).mono ?_); rintro e w3 ⟨rfl, hb3⟩)
  go_wp2_with fail
  refine hK.out _ _ (⟨hHeld.1.below hb3, hHeld.2.below hb3⟩) (fun hHeld => ?_)
  clear hK K
  (try simp only [Act.put, List.setIfInBounds_toArray, List.set_cons_zero, List.set_cons_succ])
  refine wpAnyH_ready (rs := [3]) (by kernel_rfl) (by simp) ?_
  refine AllReadyH.cons (o := ⟨some 11, _, _, _, _, _⟩) rfl (fun K hK => ?_) AllReadyH.nil
  go_simp
  (go_at_call 22; (with_reducible refine (fixed_any y _).mono ?_); rintro e w4 ⟨rfl, hb4⟩)
  go_wp2_with fail
  refine hK.out _ _ (⟨hHeld.1.below hb4, hHeld.2.below hb4⟩) (fun hHeld => ?_)
  clear hK K
  (try simp only [Act.put, List.setIfInBounds_toArray, List.set_cons_zero, List.set_cons_succ])
  refine wpAnyH_take (i := 4) (oi := ⟨some 12, _, _, _, _, _⟩) (v := .bool (!true)) rfl (by kernel_rfl) (by kernel_rfl) (by kernel_rfl) (fun _ _ _ h => h) (yieldsIf_exec (by rfl) (fun w' hSw => (by rw [← he]; exact exec_neq (fixV x) (fixV y) w' rfl rfl rfl))) (by assumption) ?_
  (try simp only [Act.put, List.setIfInBounds_toArray, List.set_cons_zero, List.set_cons_succ])
  refine wpAnyH_done (by kernel_rfl) ?_ _
  refine NoPanic.normal ?_
  have hB4 : Below w.heap.size w w4 := b_cl (b_cl (b_dr hB0) (Nat.le_refl _) hb3) (Nat.le_refl _) hb4
  obtain ⟨r3, r4⟩ := hHeld
  clear hb3 hb4 r1 r2 he hB0
  have hz4 := hB4.size
  go_wp2_with (first
    | refine wpList_load_bk (by rfl) 23 _ rfl _ _ rfl y _ (r4) Try.underlying23 rfl (by kernel_rfl) ?_
    | (go_at_call 19; (with_reducible refine (laid_any y _).mono ?_); rintro e w5 ⟨rfl, hb5⟩; have r5 := (r3.below hb5).alloc (.cells (bk y) 39); have r6 := RdI.new y 39 (rfl : w5.heap.size = _))
    | refine wpList_store_new rfl 39 _ _ rfl _ (bk y) rfl rfl (by first | rfl | (simp; done)) (by kernel_rfl) rfl (bk_one y) ?_
    | refine wpList_load_bk (by rfl) 23 _ rfl _ _ rfl x _ (r5) Try.underlying23 rfl (by kernel_rfl) ?_
    | (go_at_call 19; (with_reducible refine (laid_any x _).mono ?_); rintro e w6 ⟨rfl, hb6⟩; have r7 := r6.below hb6))
  have hB6 : Below w.heap.size w w6 := b_cl (b_al (b_cl hB4 (Nat.le_refl _) hb5) (Nat.le_refl _) _) (Nat.le_refl _) hb6
  clear hb5 hb6 r3 r4 r5 r6
  go_loop [17] (fun i => ∃ k : Nat, k ≤ 19 ∧ i = .int .i64 k ∧ Hid (∀ j, j < k → x j ≤ y j)) (fun i => 19 - (intOf i).toNat)
  case atStart => exact ⟨0, Nat.zero_le _, rfl, Lib.hid (fun j hj => by omega)⟩
  case round =>
    obtain ⟨k, hk, rfl, H⟩ := hrel
    by_cases hlt : k < 19
    case neg =>
      have hk19 : k = 19 := by omega
      subst hk19
      go_wp2
      go_ret
      refine ⟨?_, hB6⟩
      rw [← HV.out, if_pos ⟨HS.out, H.out⟩]; rfl
    have hi0 := fun W => index_any x W k hlt
    have hc := r7.2 k hlt
    rw [Nat.zero_add] at hc
    obtain ⟨n, hn⟩ : ∃ n, x k = n := ⟨_, rfl⟩
    obtain ⟨m, hm⟩ : ∃ m, y k = m := ⟨_, rfl⟩
    rw [hn] at hi0
    rw [hm] at hc
    have hn := Lib.hid hn
    have hm := Lib.hid hm
    by_cases hle : n ≤ m
    case neg =>
      have dl : decide (m < n) = true := decide_eq_true (by omega)
      have LN : Hid (¬ n ≤ m) := Lib.hid hle
      clear hle
      go_wp2
      go_ret
      refine ⟨?_, hB6⟩
      rw [← HV.out, if_neg (fun h => by have h2 := h.2 k hlt; rw [hn.out, hm.out] at h2; have h3 := LN.out; omega)]; rfl
    have dl : decide (m < n) = false := decide_eq_false (by omega)
    have LY : Hid (n ≤ m) := Lib.hid hle
    clear hle
    go_wp2
    go_round
    case rel => exact ⟨k + 1, by omega, by go_num, Lib.hid (fun j hj => by
        by_cases e : j = k
        · subst e; rw [hn.out, hm.out]; exact LY.out
        · exact H.out j (by omega))⟩
    case measure => simp [intOf]; omega

end Go.Proofs.Ytomodamdlnkcmaa
