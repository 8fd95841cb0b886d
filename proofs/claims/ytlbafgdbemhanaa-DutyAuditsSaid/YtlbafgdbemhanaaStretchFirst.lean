/- What first of layer 14 leaves. Conditions: as the theorem says. -/
import Derived.Test.YtlbafgdbemhanaaRows
import Derived.Test.YtlbafgdbemhanaaBase
import Derived.Test.YtlbafgdbemhanaaZ2
import Derived.Test.YtlbafgdbemhanaaZ3
import Derived.Test.YtlbafgdbemhanaaMeterChk
import Derived.Test.YtlbafgdbemhanaaZ4
import Derived.Test.YtlbafgdbemhanaaZ1
import Derived.Test.YtlbafgdbemhanaaBookLim
import Derived.Test.YtlbafgdbemhanaaMeterRun
import Derived.Test.YtlbafgdbemhanaaMeterStep
import Derived.Test.YtlbafgdbemhanaaMeterMin
import Derived.WalkKit
import Derived.WalkSpells
import Derived.WalkSmall
import Derived.Below
import Derived.Lib.Hide
import Derived.Shelf.Abstract
import Derived.BigQuiet
import Derived.OwnWalk
import Derived.Outline
import Derived.Deep.DeepCutAuto
import Derived.StillTailTactics
import Derived.Maps.RangeWalk
import Derived.OrdersHeld
import Derived.Deep.RegionHeld3
namespace Go.Proofs.Ytlbafgdbemhanaa
open Go.RowKit

/-- The first minutes, with the clauses below c looked at. -/
def yAt (s : Nat) (a : Int) (c : Nat) : Nat → Int := fun i => if i < c then recB s noneF a i else noneF i
theorem yAt_zero (s : Nat) (a : Int) : yAt s a 0 = noneF := by funext i; simp [yAt]
theorem yAt_yes {s : Nat} {a : Int} {c : Nat} (h : s.testBit c = true) : fs (yAt s a c) c a = yAt s a (c + 1) := by
  funext i
  unfold fs yAt
  by_cases hi : i = c
  · subst hi
    rw [if_pos rfl, if_pos (by omega)]
    unfold recB
    rw [if_pos ⟨h, by show (-1 : Int) < 0; decide⟩]
  · rw [if_neg hi]
    by_cases hl : i < c
    · rw [if_pos hl, if_pos (by omega)]
    · rw [if_neg hl, if_neg (by omega)]
theorem yAt_no {s : Nat} {a : Int} {c : Nat} (h : s.testBit c = false) : yAt s a c = yAt s a (c + 1) := by
  funext i
  unfold yAt
  by_cases hi : i = c
  · subst hi
    rw [if_neg (by omega), if_pos (by omega)]
    unfold recB
    rw [if_neg (fun hh => by rw [h] at hh; cases hh.1)]
  · by_cases hl : i < c
    · rw [if_pos hl, if_pos (by omega)]
    · rw [if_neg hl, if_neg (by omega)]
theorem yAt_ten {s : Nat} {a : Int} (h : s < 1024) : yAt s a 10 = recB s noneF a := by
  funext i
  unfold yAt
  split
  · rfl
  · unfold recB
    rw [if_neg]
    intro hh
    rw [Nat.testBit_lt_two_pow (Nat.lt_of_lt_of_le h (Nat.pow_le_pow_right (n := 2) (by omega) (by omega : 10 ≤ i)))] at hh
    cases hh.1
theorem and_one (v : Nat) (hv : v < 1024) : bits .and .i64 (v : Int) 1 = ((v % 2 : Nat) : Int) := by
  show IntKind.i64.wrap ((BitVec.ofInt 64 (v : Int) &&& BitVec.ofInt 64 ((1 : Nat) : Int)).toNat : Int) = _
  rw [BitVec.toNat_and, ofInt_n64 v (by omega), ofInt_n64 1 (by omega), Nat.and_one_is_mod]
  have := Nat.mod_lt v (show 0 < 2 by omega)
  exact wrap14 _ (by omega) (by omega)
theorem bit_at (s c : Nat) (hs : s < 1024) : (bits .and .i64 ((s : Int) / 2 ^ c) 1 == 1) = s.testBit c := by
  have e : (s : Int) / 2 ^ c = ((s / 2 ^ c : Nat) : Int) := by rw [Int.natCast_ediv, Int.natCast_pow]; rfl
  rw [e, and_one _ (Nat.lt_of_le_of_lt (Nat.div_le_self _ _) hs), Nat.testBit_eq_decide_div_mod_eq]
  by_cases h : s / 2 ^ c % 2 = 1
  · rw [h]; rfl
  · have h0 : s / 2 ^ c % 2 = 0 := by omega
    rw [h0]; rfl

set_option maxRecDepth 100000 in
set_option maxHeartbeats 4000000 in
theorem first_any (g : Nat) (x : Nat → Int) (k : Int) (m : Mt) (w : World) (hb : Bk w g x k m noneF) (hm : MayM m) (hn : m.now < 40320) (hk : ¬ (k < 0 ∨ 3 < k)) (hx : May x) :
    Calls Try.prog 68 #[.pointer (some ⟨g, 0, none⟩)] w fun e w' => e = .returned (.tuple #[]) ∧ BkTo w g x k (stepM x m k) (recB (stepC x m k) noneF m.now) w' := by
  have ST := fun W => step13_any x m k W
  rw [meterV_good [k] hx hm, runV_cons, if_neg hk, if_neg (by omega)] at ST
  dsimp only [runV] at ST
  rw [Nat.zero_or] at ST
  have hs := stepC_lt x m k
  have hnow := hm.1
  clear hm hn hk hx
  generalize stepM x m k = m1 at ST ⊢
  generalize stepC x m k = s at ST hs ⊢
  obtain ⟨a, ha⟩ : ∃ a, m.now = a := ⟨_, rfl⟩
  rw [ha] at hnow ⊢
  have f20 : w.cell? ⟨g, 20, none⟩ = some (.int .i64 a) := by rw [← ha]; exact hb.cell rfl
  have f19 : w.cell? ⟨g, 19, none⟩ = some (.int .i64 k) := hb.cell rfl
  clear ha
  go_enter Try.func68, Try.ntmps68
  go_upto_region 1 with fail
  go_cut [2, 3, 4] (fun u2 u3 u4 wx => u2 = .int .i64 a ∧ u4 = .int .i64 (s : Int) ∧ ∃ R : Nat, u3 = .pointer (some ⟨R, 0, none⟩) ∧ Bx wx R 36 (mt m1) ∧ w.heap.size ≤ R ∧ Below w.heap.size w wx)
  case first =>
    refine wp_region_noPanic ?_
    refine wp_region_held_drew (S := fun w' => Below w.heap.size w w') (by kernel_rfl) ?_ (fun hHeld => ?_)
    · exact b_dr (Below.refl _ _)
    refine wpAnyH_take (i := 0) (oi := ⟨some 13, _, _, _, _, _⟩) (v := ?_) rfl (by kernel_rfl) (by kernel_rfl) (by kernel_rfl) (fun _ _ _ h => h) (Or.inl ⟨by rfl, ?_⟩) (by assumption) ?_
    rotate_left
    · (intro w' hSw; clear hSw; go_simp; try (with_reducible rfl))
    (try simp only [Act.put, List.setIfInBounds_toArray, List.set_cons_zero, List.set_cons_succ])
    refine wpAnyH_take (i := 1) (oi := ⟨some 14, _, _, _, _, _⟩) (v := ?_) rfl (by kernel_rfl) (by kernel_rfl) (by kernel_rfl) (fun _ _ _ h => h) (Or.inl ⟨by rfl, ?_⟩) (by assumption) ?_
    rotate_left
    · (intro w' hSw; clear hSw; go_simp; try (with_reducible rfl))
    (try simp only [Act.put, List.setIfInBounds_toArray, List.set_cons_zero, List.set_cons_succ])
    refine wpAnyH_take (i := 2) (oi := ⟨some 15, _, _, _, _, _⟩) (v := ?_) rfl (by kernel_rfl) (by kernel_rfl) (by kernel_rfl) (fun _ _ _ h => h) (Or.inl ⟨by rfl, ?_⟩) (by assumption) ?_
    rotate_left
    · (intro w' hSw; clear hSw; go_simp; try (with_reducible rfl))
    (try simp only [Act.put, List.setIfInBounds_toArray, List.set_cons_zero, List.set_cons_succ])
    refine wpAnyH_take (i := 3) (oi := ⟨some 16, _, _, _, _, _⟩) (v := .agg (bk x)) rfl (by kernel_rfl) (by kernel_rfl) (by kernel_rfl) (fun _ _ _ h => h) (Or.inl ⟨by rfl, fun w' hSw => exec_load g 0 x _ w' rfl rfl ((Bk.rdI hb).below hSw) Try.underlying23 rfl (by kernel_rfl)⟩) (by assumption) ?_
    (try simp only [Act.put, List.setIfInBounds_toArray, List.set_cons_zero, List.set_cons_succ])
    refine wpAnyH_take (i := 4) (oi := ⟨some 17, _, _, _, _, _⟩) (v := ?_) rfl (by kernel_rfl) (by kernel_rfl) (by kernel_rfl) (fun _ _ _ h => h) (Or.inl ⟨by rfl, ?_⟩) (by assumption) ?_
    rotate_left
    · (intro w' hSw; clear hSw; go_simp; try (with_reducible rfl))
    (try simp only [Act.put, List.setIfInBounds_toArray, List.set_cons_zero, List.set_cons_succ])
    refine wpAnyH_take (i := 5) (oi := ⟨some 18, _, _, _, _, _⟩) (v := ?_) rfl (by kernel_rfl) (by kernel_rfl) (by kernel_rfl) (fun _ _ _ h => h) (Or.inl ⟨by rfl, ?_⟩) (by assumption) ?_
    rotate_left
    · (intro w' hSw; clear hSw; go_simp; try (with_reducible rfl))
    (try simp only [Act.put, List.setIfInBounds_toArray, List.set_cons_zero, List.set_cons_succ])
    refine wpAnyH_take (i := 6) (oi := ⟨some 19, _, _, _, _, _⟩) (v := ?_) rfl (by kernel_rfl) (by kernel_rfl) (by kernel_rfl) (fun _ _ _ h => h) (Or.inl ⟨by rfl, ?_⟩) (by assumption) ?_
    rotate_left
    · (intro w' hSw; clear hSw; go_simp; try (with_reducible rfl))
    (try simp only [Act.put, List.setIfInBounds_toArray, List.set_cons_zero, List.set_cons_succ])
    refine wpAnyH_take (i := 7) (oi := ⟨some 20, _, _, _, _, _⟩) (v := .agg (mt m)) rfl (by kernel_rfl) (by kernel_rfl) (by kernel_rfl) (fun _ _ _ h => h) (Or.inl ⟨by rfl, fun w' hSw => exec_load_mid g 20 (mt m) _ w' rfl rfl (Bk.meter (hb.below hSw)) Try.underlying36 rfl (by kernel_rfl)⟩) (by assumption) ?_
    (try simp only [Act.put, List.setIfInBounds_toArray, List.set_cons_zero, List.set_cons_succ])
    refine wpAnyH_take (i := 8) (oi := ⟨some 21, _, _, _, _, _⟩) (v := ?_) rfl (by kernel_rfl) (by kernel_rfl) (by kernel_rfl) (fun _ _ _ h => h) (Or.inl ⟨by rfl, ?_⟩) (by assumption) ?_
    rotate_left
    · (intro w' hSw; clear hSw; go_simp; try (with_reducible rfl))
    (try simp only [Act.put, List.setIfInBounds_toArray, List.set_cons_zero, List.set_cons_succ])
    refine wpAnyH_take (i := 9) (oi := ⟨some 22, _, _, _, _, _⟩) (v := ?_) rfl (by kernel_rfl) (by kernel_rfl) (by kernel_rfl) (fun _ _ _ h => h) (Or.inl ⟨by rfl, ?_⟩) (by assumption) ?_
    rotate_left
    · (intro w' hSw; clear hSw; go_simp; try (with_reducible rfl))
    (try simp only [Act.put, List.setIfInBounds_toArray, List.set_cons_zero, List.set_cons_succ])
    refine wpAnyH_take (i := 10) (oi := ⟨some 23, _, _, _, _, _⟩) (v := ?_) rfl (by kernel_rfl) (by kernel_rfl) (by kernel_rfl) (fun _ _ _ h => h) (Or.inl ⟨by rfl, ?_⟩) (by assumption) ?_
    rotate_left
    · (intro w' hSw; clear hSw; go_simp; try (with_reducible rfl))
    (try simp only [Act.put, List.setIfInBounds_toArray, List.set_cons_zero, List.set_cons_succ])
    refine wpAnyH_take (i := 11) (oi := ⟨some 24, _, _, _, _, _⟩) (v := ?_) rfl (by kernel_rfl) (by kernel_rfl) (by kernel_rfl) (fun _ _ _ h => h) (Or.inl ⟨by rfl, ?_⟩) (by assumption) ?_
    rotate_left
    · (intro w' hSw; have q0 := c_cl f19 hSw; clear hSw; go_simp; try (with_reducible rfl))
    (try simp only [Act.put, List.setIfInBounds_toArray, List.set_cons_zero, List.set_cons_succ])
    refine wpAnyH_ready (rs := [12, 17]) (by kernel_rfl) (by simp) ?_
    refine AllReadyH.cons (o := ⟨some 25, _, _, _, _, _⟩) rfl (fun K hK => ?_) (AllReadyH.cons (o := ⟨some 3, _, _, _, _, _⟩) rfl (fun K hK => ?_) AllReadyH.nil)
    ·
      go_simp
      (go_at_call 39; (with_reducible refine (ST _).mono ?_); rintro e w2 ⟨rfl, hb2⟩)
      go_wp2_with fail
      refine hK.out _ _ (b_cl hHeld (Nat.le_refl _) (by assumption)) (fun hHeld => ?_)
      clear hK K
      (try simp only [Act.put, List.setIfInBounds_toArray, List.set_cons_zero, List.set_cons_succ])
      refine wpAnyH_take (i := 13) (oi := ⟨some 12, _, _, _, _, _⟩) (v := ?_) rfl (by kernel_rfl) (by kernel_rfl) (by kernel_rfl) (fun _ _ _ h => h) (Or.inl ⟨by rfl, ?_⟩) (by assumption) ?_
      rotate_left
      · (intro w' hSw; clear hSw; go_simp; try (with_reducible rfl))
      (try simp only [Act.put, List.setIfInBounds_toArray, List.set_cons_zero, List.set_cons_succ])
      refine wpAnyH_take (i := 14) (oi := ⟨some 26, _, _, _, _, _⟩) (v := ?_) rfl (by kernel_rfl) (by kernel_rfl) (by kernel_rfl) (fun _ _ _ h => h) (Or.inl ⟨by rfl, ?_⟩) (by assumption) ?_
      rotate_left
      · (intro w' hSw; clear hSw; go_simp; try (with_reducible rfl))
      (try simp only [Act.put, List.setIfInBounds_toArray, List.set_cons_zero, List.set_cons_succ])
      refine wpAnyH_take (i := 15) (oi := ⟨some 27, _, _, _, _, _⟩) (v := ?_) rfl (by kernel_rfl) (by kernel_rfl) (by kernel_rfl) (fun _ _ _ h => h) (Or.inl ⟨by rfl, ?_⟩) (by assumption) ?_
      rotate_left
      · (intro w' hSw; clear hSw; go_simp; try (with_reducible rfl))
      (try simp only [Act.put, List.setIfInBounds_toArray, List.set_cons_zero, List.set_cons_succ])
      refine wpAnyH_take (i := 16) (oi := ⟨some 28, _, _, _, _, _⟩) (v := ?_) rfl (by kernel_rfl) (by kernel_rfl) (by kernel_rfl) (fun _ _ _ h => h) (Or.inl ⟨by rfl, ?_⟩) (by assumption) ?_
      rotate_left
      · (intro w' hSw; clear hSw; go_simp; try (with_reducible rfl))
      (try simp only [Act.put, List.setIfInBounds_toArray, List.set_cons_zero, List.set_cons_succ])
      refine wpAnyH_ready (rs := [17]) (by kernel_rfl) (by simp) ?_
      refine AllReadyH.cons (o := ⟨some 3, _, _, _, _, _⟩) rfl (fun K hK => ?_) AllReadyH.nil
      refine wp_alloc_any 36 (mt .zero) (by kernel_rfl) (fun g_1 W' hg hA hbA => ?_)
      have hgN := Nat.le_trans hHeld.size hg
      refine hK.out _ _ (b_cl hHeld (Nat.le_refl _) hbA) (fun hHeld => ?_)
      clear hK K hbA hg
      (try simp only [Act.put, List.setIfInBounds_toArray, List.set_cons_zero, List.set_cons_succ])
      refine wpAnyH_ready (rs := [18]) (by kernel_rfl) (by simp) ?_
      refine AllReadyH.cons (o := ⟨none, _, _, _, _, _⟩) rfl (fun K hK => ?_) AllReadyH.nil
      refine wp_store_any 36 _ _ rfl g_1 (mt m1) rfl rfl 36 (mt .zero) hA (by kernel_rfl) rfl (mt_one _) (fun W' u => ?_)
      refine hK.out _ _ (hHeld.trans (u.bel _ hgN)) (fun hHeld => ?_)
      clear hK K
      (try simp only [Act.put])
      refine wpAnyH_take (i := 19) (oi := ⟨some 4, _, _, _, _, _⟩) (v := ?_) rfl (by kernel_rfl) (by kernel_rfl) (by kernel_rfl) (fun _ _ _ h => h) (Or.inl ⟨by rfl, ?_⟩) (by assumption) ?_
      rotate_left
      · (intro w' hSw; clear hSw; go_simp; try (with_reducible rfl))
      (try simp only [Act.put, List.setIfInBounds_toArray, List.set_cons_zero, List.set_cons_succ])
      refine wpAnyH_take (i := 20) (oi := ⟨some 5, _, _, _, _, _⟩) (v := ?_) rfl (by kernel_rfl) (by kernel_rfl) (by kernel_rfl) (fun _ _ _ h => h) (Or.inl ⟨by rfl, ?_⟩) (by assumption) ?_
      rotate_left
      · (intro w' hSw; clear hSw; go_simp; try (with_reducible rfl))
      (try simp only [Act.put, List.setIfInBounds_toArray, List.set_cons_zero, List.set_cons_succ])
      refine wpAnyH_done (by kernel_rfl) ?_ _
      refine NoPanic.normal ?_
      go_wp2_with fail
      go_meet
      exact ⟨rfl, rfl, g_1, rfl, u.box, hgN, hHeld⟩
    ·
      refine wp_alloc_any 36 (mt .zero) (by kernel_rfl) (fun g_1 W' hg hA hbA => ?_)
      have hgN := Nat.le_trans hHeld.size hg
      refine hK.out _ _ (b_cl hHeld (Nat.le_refl _) hbA) (fun hHeld => ?_)
      clear hK K hbA hg
      (try simp only [Act.put, List.setIfInBounds_toArray, List.set_cons_zero, List.set_cons_succ])
      refine wpAnyH_ready (rs := [12]) (by kernel_rfl) (by simp) ?_
      refine AllReadyH.cons (o := ⟨some 25, _, _, _, _, _⟩) rfl (fun K hK => ?_) AllReadyH.nil
      go_simp
      (go_at_call 39; (with_reducible refine (ST _).mono ?_); rintro e w2 ⟨rfl, hb2⟩)
      go_wp2_with fail
      refine hK.out _ _ (b_cl hHeld (Nat.le_refl _) (by assumption)) (fun hHeld => ?_)
      replace hA := hA.below (by assumption)
      clear hK K
      (try simp only [Act.put, List.setIfInBounds_toArray, List.set_cons_zero, List.set_cons_succ])
      refine wpAnyH_take (i := 13) (oi := ⟨some 12, _, _, _, _, _⟩) (v := ?_) rfl (by kernel_rfl) (by kernel_rfl) (by kernel_rfl) (fun _ _ _ h => h) (Or.inl ⟨by rfl, ?_⟩) (by assumption) ?_
      rotate_left
      · (intro w' hSw; clear hSw; go_simp; try (with_reducible rfl))
      (try simp only [Act.put, List.setIfInBounds_toArray, List.set_cons_zero, List.set_cons_succ])
      refine wpAnyH_take (i := 14) (oi := ⟨some 26, _, _, _, _, _⟩) (v := ?_) rfl (by kernel_rfl) (by kernel_rfl) (by kernel_rfl) (fun _ _ _ h => h) (Or.inl ⟨by rfl, ?_⟩) (by assumption) ?_
      rotate_left
      · (intro w' hSw; clear hSw; go_simp; try (with_reducible rfl))
      (try simp only [Act.put, List.setIfInBounds_toArray, List.set_cons_zero, List.set_cons_succ])
      refine wpAnyH_take (i := 15) (oi := ⟨some 27, _, _, _, _, _⟩) (v := ?_) rfl (by kernel_rfl) (by kernel_rfl) (by kernel_rfl) (fun _ _ _ h => h) (Or.inl ⟨by rfl, ?_⟩) (by assumption) ?_
      rotate_left
      · (intro w' hSw; clear hSw; go_simp; try (with_reducible rfl))
      (try simp only [Act.put, List.setIfInBounds_toArray, List.set_cons_zero, List.set_cons_succ])
      refine wpAnyH_take (i := 16) (oi := ⟨some 28, _, _, _, _, _⟩) (v := ?_) rfl (by kernel_rfl) (by kernel_rfl) (by kernel_rfl) (fun _ _ _ h => h) (Or.inl ⟨by rfl, ?_⟩) (by assumption) ?_
      rotate_left
      · (intro w' hSw; clear hSw; go_simp; try (with_reducible rfl))
      (try simp only [Act.put, List.setIfInBounds_toArray, List.set_cons_zero, List.set_cons_succ])
      refine wpAnyH_ready (rs := [18]) (by kernel_rfl) (by simp) ?_
      refine AllReadyH.cons (o := ⟨none, _, _, _, _, _⟩) rfl (fun K hK => ?_) AllReadyH.nil
      refine wp_store_any 36 _ _ rfl g_1 (mt m1) rfl rfl 36 (mt .zero) hA (by kernel_rfl) rfl (mt_one _) (fun W' u => ?_)
      refine hK.out _ _ (hHeld.trans (u.bel _ hgN)) (fun hHeld => ?_)
      clear hK K
      (try simp only [Act.put])
      refine wpAnyH_take (i := 19) (oi := ⟨some 4, _, _, _, _, _⟩) (v := ?_) rfl (by kernel_rfl) (by kernel_rfl) (by kernel_rfl) (fun _ _ _ h => h) (Or.inl ⟨by rfl, ?_⟩) (by assumption) ?_
      rotate_left
      · (intro w' hSw; clear hSw; go_simp; try (with_reducible rfl))
      (try simp only [Act.put, List.setIfInBounds_toArray, List.set_cons_zero, List.set_cons_succ])
      refine wpAnyH_take (i := 20) (oi := ⟨some 5, _, _, _, _, _⟩) (v := ?_) rfl (by kernel_rfl) (by kernel_rfl) (by kernel_rfl) (fun _ _ _ h => h) (Or.inl ⟨by rfl, ?_⟩) (by assumption) ?_
      rotate_left
      · (intro w' hSw; clear hSw; go_simp; try (with_reducible rfl))
      (try simp only [Act.put, List.setIfInBounds_toArray, List.set_cons_zero, List.set_cons_succ])
      refine wpAnyH_done (by kernel_rfl) ?_ _
      refine NoPanic.normal ?_
      go_wp2_with fail
      go_meet
      exact ⟨rfl, rfl, g_1, rfl, u.box, hgN, hHeld⟩
  case rest =>
  obtain ⟨rfl, rfl, R, rfl, HR, hRw, hbe⟩ := hcut
  rename World => w1
  have hne : g ≠ R := by have := hb.lt; omega
  have C : BkTo w g x k m noneF w1 := ⟨hbe.size, hb.below hbe, fun k _ hk => hbe.block k hk, fun k hk hl => hbe.mono hl⟩
  clear hbe ST f19 f20
  go_upto_region 3 with (first
    | refine wpList_load_box (by rfl) 36 _ rfl R rfl 36 (mt m1) _ HR Try.underlying36 rfl (by kernel_rfl) ?_
    | (refine wpList_store_part (by rfl) 36 _ _ rfl g 20 (mt m1) rfl rfl (mt_one _) _ _ C.box (by rw [blk_size, mt_size]; decide) (by kernel_rfl) (fun w2 u => ?_); rw [blk_meter] at u; replace C : BkTo w g x k m1 noneF w2 := C.upd u; clear u HR))
  (try go_frame)
  rw [← yAt_zero s a] at C
  go_wp2
  go_loopw [33] (fun i wr => ∃ c : Nat, c ≤ 10 ∧ i = .int .i64 (c : Nat) ∧ Hid (BkTo w g x k m1 (yAt s a c) wr)) (fun i _ => 10 - (intOf i).toNat)
  case atStart => exact ⟨0, Nat.zero_le _, rfl, Lib.hid C⟩
  case round =>
    obtain ⟨c, hc, rfl, HC⟩ := hrel
    obtain ⟨w3, rfl⟩ : ∃ w3 : World, w3 = wr := ⟨_, rfl⟩
    clear C
    have C := HC.out
    by_cases hlt : c < 10
    case neg =>
      obtain rfl : c = 10 := by omega
      rw [yAt_ten hs] at C
      go_wp2
      refine bodyPost_end (results_none Try.results68 _ _ _) rfl ⟨rfl, ?_⟩
      exact C
    have hbit := bit_at s c hs
    by_cases ht : s.testBit c = true
    case pos =>
      rw [ht] at hbit
      have hy := yAt_yes (a := a) ht
      have hset := blk_fs x k m1 (yAt s a c) a c hlt
      rw [hy] at hset
      have HS := Lib.hid hset
      clear hy hset ht
      go_wp2_with (refine wpList_store_fld (by rfl) 3 _ _ rfl g (34 + c) (.int .i64 a) rfl rfl rfl _ _ C.box (by rw [blk_size]; omega) (by kernel_rfl) (fun w4 u => ?_); rw [HS.out] at u; replace C : BkTo w g x k m1 (yAt s a (c + 1)) w4 := C.upd u; clear u)
      go_roundw
      case rel => exact ⟨c + 1, by omega, by go_num, Lib.hid C⟩
      case measure => simp [intOf]; omega
    case neg =>
      rw [Bool.eq_false_iff.2 ht] at hbit
      have hy := yAt_no (a := a) (Bool.eq_false_iff.2 ht)
      rw [hy] at C
      clear hy ht
      go_wp2
      go_roundw
      case rel => exact ⟨c + 1, by omega, by go_num, Lib.hid C⟩
      case measure => simp [intOf]; omega

end Go.Proofs.Ytlbafgdbemhanaa
