/- What turn of layer 25 returns: the spot behind a minute, and whether the tasks let it follow. Conditions: the tasks may be and can be read, the spot is right, the minute and its kind may be. -/
import Derived.Test.YtolbihfnogbjaaaRows
import Derived.Test.YtolbihfnogbjaaaBase
import Derived.Test.YtolbihfnogbjaaaZ2
import Derived.Test.YtolbihfnogbjaaaBookLim
import Derived.Test.YtolbihfnogbjaaaZ1
import Derived.Test.YtolbihfnogbjaaaZ4
import Derived.Test.YtolbihfnogbjaaaZ6
import Derived.Test.YtolbihfnogbjaaaZ3
import Derived.Test.YtolbihfnogbjaaaErrandChk
import Derived.Test.YtolbihfnogbjaaaZ7
import Derived.Test.YtolbihfnogbjaaaErrandSpot
import Derived.Test.YtolbihfnogbjaaaZ8
import Derived.Test.YtolbihfnogbjaaaZ9
import Derived.WalkKit
import Derived.WalkSpells
import Derived.WalkSmall
import Derived.Below
import Derived.Lib.Hide
import Derived.BigQuiet
import Derived.OwnWalk
import Derived.Outline
import Derived.Maps.RangeWalk
import Derived.Deep.DeepCutAuto
import Derived.OrdersHeld
import Derived.Deep.RegionHeld3
namespace Go.Proofs.Ytolbihfnogbjaaa
open Go.RowKit

theorem setT_free {l : List Tk} {s : Pt} {m k : Int} (h : freeT l s m k = true) : setT l s m k = 0 := by
  unfold freeT at h
  unfold setT bitE
  simp only [Bool.and_eq_true, Bool.not_eq_true'] at h
  obtain ⟨⟨⟨h0, h1⟩, h2⟩, h3⟩ := h
  rw [h0, h1, h2, h3]; rfl
theorem setT_set {l : List Tk} {s : Pt} {m k : Int} (h : freeT l s m k = false) : setT l s m k ≠ 0 := by
  unfold freeT at h
  unfold setT bitE
  cases h0 : b0 l s k <;> cases h1 : b1 l s k <;> cases h2 : b2 l s m k <;> cases h3 : b3 s k <;> simp [h0, h1, h2, h3] at h ⊢

set_option maxRecDepth 100000 in
set_option maxHeartbeats 4000000 in
theorem turn_no_in (x : Nat → Int) (A : Option Addr) (n c : Nat) (l : List Tk) (hn : l.length = n) (i : Nat) (y z m k : Int) (w : World) (h : RdK w A l) (few : Few l) (hcn : n ≤ c) (hl : n ≤ 2001) (ck : checkT l = 0) (fit : Fits l ((i : Int), y, z)) (hm : 0 ≤ m ∧ m ≤ 40319) (hk : 0 ≤ k ∧ k ≤ 3) (hy : 0 ≤ y ∧ y ≤ 10080) (hz : 0 ≤ z ∧ z ≤ 1440) (hi : i < l.length) (hfr : freeT l ((i : Int), y, z) m k = false) :
    Calls Try.prog 30 #[.agg (rl x A n c), .agg (sp3 ((i : Int), y, z)), .int .i64 m, .int .i64 k] w fun e w' => e = .returned (.tuple #[.agg (sp3 (((0, 0, 0) : Pt))), .bool false]) ∧ Below w.heap.size w w' := by
  have XR : Bx (((w.alloc (.cells (rl x A n c) 63)).alloc (.cells (sp3 ((i : Int), y, z)) 28)).alloc (.cells (#[.int .i64 0, .int .i64 0, .int .i64 0]) 28)) (w.heap.size) 63 (rl x A n c) := ((Bx.new (W := w) _ _ (by simp)).alloc _).alloc _
  have XS : Bx (((w.alloc (.cells (rl x A n c) 63)).alloc (.cells (sp3 ((i : Int), y, z)) 28)).alloc (.cells (#[.int .i64 0, .int .i64 0, .int .i64 0]) 28)) (w.heap.size + 1) 28 (sp3 ((i : Int), y, z)) := (Bx.new (W := (w.alloc (.cells (rl x A n c) 63))) _ _ (by simp)).alloc _
  have XP : Bx (((w.alloc (.cells (rl x A n c) 63)).alloc (.cells (sp3 ((i : Int), y, z)) 28)).alloc (.cells (#[.int .i64 0, .int .i64 0, .int .i64 0]) 28)) (w.heap.size + 1 + 1) 28 (#[.int .i64 0, .int .i64 0, .int .i64 0]) := (Bx.new (W := ((w.alloc (.cells (rl x A n c) 63)).alloc (.cells (sp3 ((i : Int), y, z)) 28))) _ _ (by simp))
  have B0 : Below w.heap.size w (((w.alloc (.cells (rl x A n c) 63)).alloc (.cells (sp3 ((i : Int), y, z)) 28)).alloc (.cells (#[.int .i64 0, .int .i64 0, .int .i64 0]) 28)) := b_al (b_al (b_al (Below.refl _ _) (Nat.le_refl _) _) (Nat.le_refl _) _) (Nat.le_refl _) _
  have HK := Lib.hid (h.below B0)
  have CS := fun W (h : RdK W (advK A c i) (partT l i)) => step19_any (advK A c i) (1) (c - i) (partT l i) (by unfold partT; simp; omega) 0 y z m k W h (partT_few few i) (by omega) (by omega) (by omega)
  have es : stepV (partT l i) (0, y, z) m k = (stepT (partT l i) (0, y, z) k, setT (partT l i) (0, y, z) m k, 0) := by
    have e0 : stepE (partT l i) (0, y, z) m k = 0 := by
      unfold stepE
      rw [if_pos (spot_yes (check_part ck i) (part_fits fit)), if_pos (by omega), if_pos (by omega)]
    unfold stepV
    rw [if_pos e0]
  rw [es] at CS
  clear es
  have hne := setT_set ((part_free (l := l) (i := i)).trans hfr)
  obtain ⟨bs, hbs⟩ : ∃ bs, setT (partT l i) (0, y, z) m k = bs := ⟨_, rfl⟩
  obtain ⟨p, q, r, hpq⟩ : ∃ p q r, stepT (partT l i) (0, y, z) k = (p, q, r) := ⟨_, _, _, rfl⟩
  rw [hbs, hpq] at CS
  rw [hbs] at hne
  have hne' : (bs != 0) = true := by simp [hne]
  clear hbs hpq hne
  have q0 : (((w.alloc (.cells (rl x A n c) 63)).alloc (.cells (sp3 ((i : Int), y, z)) 28)).alloc (.cells (#[.int .i64 0, .int .i64 0, .int .i64 0]) 28)).cell? ⟨w.heap.size + 1, 0, none⟩ = some (.int .i64 (i : Int)) := XS.cell rfl
  have q19 := XR.rlT
  have g1 : (i : Int) + 1 ≤ (n : Int) := by omega
  have HC := Lib.hid hcn
  have HA := Lib.hid (show ∀ W, RdK W A l → RdK W (advK A c i) (partT l i) from fun W h => h.part (by omega))
  have HD := Lib.hid (show ∀ W, RdK W A l → RdK W (advK A c (i + 1)) (l.drop (i + 1)) from fun W h => h.dropI (by omega))
  have hin : i ≤ n := by omega
  clear h few fit hm hy hz ck hi hfr hn
  go_enter Try.func30, Try.ntmps30
  have emin : min ((i : Int) + 1) (n : Int) = (i : Int) + 1 := by omega
  go_upto_region 2 with fail
  (try go_frame)
  clear emin
  clear q0 q19
  generalize (((w.alloc (.cells (rl x A n c) 63)).alloc (.cells (sp3 ((i : Int), y, z)) 28)).alloc (.cells (#[.int .i64 0, .int .i64 0, .int .i64 0]) 28)) = w0 at *
  refine wp_region_noPanic ?_
  refine wp_region_held_drew (S := fun w' => Below w0.heap.size w0 w') (by kernel_rfl) ?_ (fun hHeld => ?_)
  · exact b_dr (Below.refl _ _)
  refine wpAnyH_take (i := 0) (oi := ⟨some 24, _, _, _, _, _⟩) (v := ?_) rfl (by kernel_rfl) (by kernel_rfl) (by kernel_rfl) (fun _ _ _ h => h) (Or.inl ⟨by rfl, ?_⟩) (by assumption) ?_
  rotate_left
  · (intro w' hSw; clear hSw; go_simp; try (with_reducible rfl))
  (try simp only [Act.put, List.setIfInBounds_toArray, List.set_cons_zero, List.set_cons_succ])
  refine wpAnyH_take (i := 1) (oi := ⟨some 25, _, _, _, _, _⟩) (v := ?_) rfl (by kernel_rfl) (by kernel_rfl) (by kernel_rfl) (fun _ _ _ h => h) (Or.inl ⟨by rfl, ?_⟩) (by assumption) ?_
  rotate_left
  · (intro w' hSw; have q := (XR.keep hSw XR.lt).rlT; clear hSw; go_simp; try (with_reducible rfl))
  (try simp only [Act.put, List.setIfInBounds_toArray, List.set_cons_zero, List.set_cons_succ])
  refine wpAnyH_take (i := 2) (oi := ⟨some 26, _, _, _, _, _⟩) (v := ?_) rfl (by kernel_rfl) (by kernel_rfl) (by kernel_rfl) (fun _ _ _ h => h) (Or.inl ⟨by rfl, ?_⟩) (by assumption) ?_
  rotate_left
  · (intro w' hSw; clear hSw; go_simp; try (with_reducible rfl))
  (try simp only [Act.put, List.setIfInBounds_toArray, List.set_cons_zero, List.set_cons_succ])
  refine wpAnyH_take (i := 3) (oi := ⟨some 27, _, _, _, _, _⟩) (v := ?_) rfl (by kernel_rfl) (by kernel_rfl) (by kernel_rfl) (fun _ _ _ h => h) (Or.inl ⟨by rfl, ?_⟩) (by assumption) ?_
  rotate_left
  · (intro w' hSw; have q : w'.cell? ⟨w.heap.size + 1, 0, none⟩ = some (.int .i64 (i : Int)) := (XS.keep hSw XS.lt).cell rfl; clear hSw; go_simp; try (with_reducible rfl))
  (try simp only [Act.put, List.setIfInBounds_toArray, List.set_cons_zero, List.set_cons_succ])
  refine wpAnyH_take (i := 4) (oi := ⟨some 28, _, _, _, _, _⟩) (v := ?_) rfl (by kernel_rfl) (by kernel_rfl) (by kernel_rfl) (fun _ _ _ h => h) (Or.inl ⟨by rfl, ?_⟩) (by assumption) ?_
  rotate_left
  · (intro w' hSw; clear hSw; go_simp; try (with_reducible rfl))
  (try simp only [Act.put, List.setIfInBounds_toArray, List.set_cons_zero, List.set_cons_succ])
  refine wpAnyH_take (i := 5) (oi := ⟨some 29, _, _, _, _, _⟩) (v := .slice (advK A c i) (1) (c - i)) rfl (by kernel_rfl) (by kernel_rfl) (by kernel_rfl) (fun _ _ _ h => h) (Or.inl ⟨by rfl, fun w' hSw => exec_slice_tk A n c i (i + 1) (1) w' ((i : Nat) : Int) ((i : Int) + 1) rfl rfl rfl rfl rfl (by simp) (by omega) (by have := HC.out; omega) (by omega)⟩) (by assumption) ?_
  (try simp only [Act.put, List.setIfInBounds_toArray, List.set_cons_zero, List.set_cons_succ])
  refine wpAnyH_take (i := 6) (oi := ⟨some 30, _, _, _, _, _⟩) (v := ?_) rfl (by kernel_rfl) (by kernel_rfl) (by kernel_rfl) (fun _ _ _ h => h) (Or.inl ⟨by rfl, ?_⟩) (by assumption) ?_
  rotate_left
  · (intro w' hSw; clear hSw; go_simp; try (with_reducible rfl))
  (try simp only [Act.put, List.setIfInBounds_toArray, List.set_cons_zero, List.set_cons_succ])
  refine wpAnyH_take (i := 7) (oi := ⟨some 31, _, _, _, _, _⟩) (v := ?_) rfl (by kernel_rfl) (by kernel_rfl) (by kernel_rfl) (fun _ _ _ h => h) (Or.inl ⟨by rfl, ?_⟩) (by assumption) ?_
  rotate_left
  · (intro w' hSw; have q : w'.cell? ⟨w.heap.size + 1, 1, none⟩ = some (.int .i64 y) := (XS.keep hSw XS.lt).cell rfl; clear hSw; go_simp; try (with_reducible rfl))
  (try simp only [Act.put, List.setIfInBounds_toArray, List.set_cons_zero, List.set_cons_succ])
  refine wpAnyH_take (i := 8) (oi := ⟨some 32, _, _, _, _, _⟩) (v := ?_) rfl (by kernel_rfl) (by kernel_rfl) (by kernel_rfl) (fun _ _ _ h => h) (Or.inl ⟨by rfl, ?_⟩) (by assumption) ?_
  rotate_left
  · (intro w' hSw; clear hSw; go_simp; try (with_reducible rfl))
  (try simp only [Act.put, List.setIfInBounds_toArray, List.set_cons_zero, List.set_cons_succ])
  refine wpAnyH_take (i := 9) (oi := ⟨some 33, _, _, _, _, _⟩) (v := ?_) rfl (by kernel_rfl) (by kernel_rfl) (by kernel_rfl) (fun _ _ _ h => h) (Or.inl ⟨by rfl, ?_⟩) (by assumption) ?_
  rotate_left
  · (intro w' hSw; have q : w'.cell? ⟨w.heap.size + 1, 2, none⟩ = some (.int .i64 z) := (XS.keep hSw XS.lt).cell rfl; clear hSw; go_simp; try (with_reducible rfl))
  (try simp only [Act.put, List.setIfInBounds_toArray, List.set_cons_zero, List.set_cons_succ])
  refine wpAnyH_take (i := 10) (oi := ⟨some 34, _, _, _, _, _⟩) (v := .agg (sp3 (0, y, z))) rfl (by kernel_rfl) (by kernel_rfl) (by kernel_rfl) (fun _ _ _ h => h) (Or.inl ⟨by rfl, fun w' hSw => exec_build (sp3 (0, y, z)) w' rfl (by kernel_rfl)⟩) (by assumption) ?_
  (try simp only [Act.put, List.setIfInBounds_toArray, List.set_cons_zero, List.set_cons_succ])
  refine wpAnyH_take (i := 11) (oi := ⟨some 35, _, _, _, _, _⟩) (v := ?_) rfl (by kernel_rfl) (by kernel_rfl) (by kernel_rfl) (fun _ _ _ h => h) (Or.inl ⟨by rfl, ?_⟩) (by assumption) ?_
  rotate_left
  · (intro w' hSw; clear hSw; go_simp; try (with_reducible rfl))
  (try simp only [Act.put, List.setIfInBounds_toArray, List.set_cons_zero, List.set_cons_succ])
  refine wpAnyH_take (i := 12) (oi := ⟨some 36, _, _, _, _, _⟩) (v := ?_) rfl (by kernel_rfl) (by kernel_rfl) (by kernel_rfl) (fun _ _ _ h => h) (Or.inl ⟨by rfl, ?_⟩) (by assumption) ?_
  rotate_left
  · (intro w' hSw; clear hSw; go_simp; try (with_reducible rfl))
  (try simp only [Act.put, List.setIfInBounds_toArray, List.set_cons_zero, List.set_cons_succ])
  refine wpAnyH_ready (rs := [13, 18]) (by kernel_rfl) (by simp) ?_
  refine AllReadyH.cons (o := ⟨some 37, _, _, _, _, _⟩) rfl (fun K hK => ?_) (AllReadyH.cons (o := ⟨some 11, _, _, _, _, _⟩) rfl (fun K hK => ?_) AllReadyH.nil)
  ·
    go_simp
    (go_at_call 42; refine (CS _ (HA.out _ (HK.out.below hHeld))).mono ?_; rintro e w1 ⟨rfl, hb1⟩)
    go_wp2_with fail
    refine hK.out _ _ (b_cl hHeld (Nat.le_refl _) (by assumption)) (fun hHeld => ?_)
    clear hK K
    (try simp only [Act.put, List.setIfInBounds_toArray, List.set_cons_zero, List.set_cons_succ])
    refine wpAnyH_take (i := 14) (oi := ⟨some 23, _, _, _, _, _⟩) (v := ?_) rfl (by kernel_rfl) (by kernel_rfl) (by kernel_rfl) (fun _ _ _ h => h) (Or.inl ⟨by rfl, ?_⟩) (by assumption) ?_
    rotate_left
    · (intro w' hSw; clear hSw; go_simp; try (with_reducible rfl))
    (try simp only [Act.put, List.setIfInBounds_toArray, List.set_cons_zero, List.set_cons_succ])
    refine wpAnyH_take (i := 15) (oi := ⟨some 38, _, _, _, _, _⟩) (v := ?_) rfl (by kernel_rfl) (by kernel_rfl) (by kernel_rfl) (fun _ _ _ h => h) (Or.inl ⟨by rfl, ?_⟩) (by assumption) ?_
    rotate_left
    · (intro w' hSw; clear hSw; go_simp; try (with_reducible rfl))
    (try simp only [Act.put, List.setIfInBounds_toArray, List.set_cons_zero, List.set_cons_succ])
    refine wpAnyH_take (i := 16) (oi := ⟨some 39, _, _, _, _, _⟩) (v := ?_) rfl (by kernel_rfl) (by kernel_rfl) (by kernel_rfl) (fun _ _ _ h => h) (Or.inl ⟨by rfl, ?_⟩) (by assumption) ?_
    rotate_left
    · (intro w' hSw; clear hSw; go_simp; try (with_reducible rfl))
    (try simp only [Act.put, List.setIfInBounds_toArray, List.set_cons_zero, List.set_cons_succ])
    refine wpAnyH_take (i := 17) (oi := ⟨some 40, _, _, _, _, _⟩) (v := ?_) rfl (by kernel_rfl) (by kernel_rfl) (by kernel_rfl) (fun _ _ _ h => h) (Or.inl ⟨by rfl, ?_⟩) (by assumption) ?_
    rotate_left
    · (intro w' hSw; clear hSw; go_simp; try (with_reducible rfl))
    (try simp only [Act.put, List.setIfInBounds_toArray, List.set_cons_zero, List.set_cons_succ])
    refine wpAnyH_ready (rs := [18]) (by kernel_rfl) (by simp) ?_
    refine AllReadyH.cons (o := ⟨some 11, _, _, _, _, _⟩) rfl (fun K hK => ?_) AllReadyH.nil
    refine wp_alloc_any 28 (sp3 (0, 0, 0)) (by kernel_rfl) (fun g W' hg hA hbA => ?_)
    have hgN := Nat.le_trans hHeld.size hg
    refine hK.out _ _ (b_cl hHeld (Nat.le_refl _) hbA) (fun hHeld => ?_)
    clear hK K hbA hg
    (try simp only [Act.put, List.setIfInBounds_toArray, List.set_cons_zero, List.set_cons_succ])
    refine wpAnyH_ready (rs := [19]) (by kernel_rfl) (by simp) ?_
    refine AllReadyH.cons (o := ⟨none, _, _, _, _, _⟩) rfl (fun K hK => ?_) AllReadyH.nil
    refine wp_store_any 28 _ _ rfl g (sp3 (p, q, r)) rfl rfl 28 (sp3 (0, 0, 0)) hA (by kernel_rfl) rfl (one3 _ _ _) (fun W' u => ?_)
    refine hK.out _ _ (hHeld.trans (u.bel _ hgN)) (fun hHeld => ?_)
    clear hK K
    (try simp only [Act.put])
    refine wpAnyH_take (i := 20) (oi := ⟨some 12, _, _, _, _, _⟩) (v := ?_) rfl (by kernel_rfl) (by kernel_rfl) (by kernel_rfl) (fun _ _ _ h => h) (Or.inl ⟨by rfl, ?_⟩) (by assumption) ?_
    rotate_left
    · (intro w' hSw; clear hSw; go_simp; try (with_reducible rfl))
    (try simp only [Act.put, List.setIfInBounds_toArray, List.set_cons_zero, List.set_cons_succ])
    refine wpAnyH_take (i := 21) (oi := ⟨some 13, _, _, _, _, _⟩) (v := ?_) rfl (by kernel_rfl) (by kernel_rfl) (by kernel_rfl) (fun _ _ _ h => h) (Or.inl ⟨by rfl, ?_⟩) (by assumption) ?_
    rotate_left
    · (intro w' hSw; clear hSw; go_simp; try (with_reducible rfl))
    (try simp only [Act.put, List.setIfInBounds_toArray, List.set_cons_zero, List.set_cons_succ])
    refine wpAnyH_done (by kernel_rfl) ?_ _
    refine NoPanic.normal ?_
    have XR1 := XR.keep hHeld XR.lt
    have XS1 := XS.keep hHeld XS.lt
    have XP1 := XP.keep hHeld XP.lt
    have XG1 := u.box
    have s0 : W'.cell? ⟨w.heap.size + 1, 0, none⟩ = some (.int .i64 (i : Int)) := XS1.cell rfl
    have s1 : W'.cell? ⟨g, 0, none⟩ = some (.int .i64 (p)) := XG1.cell rfl
    have s2 : W'.cell? ⟨g, 1, none⟩ = some (.int .i64 (q)) := XG1.cell rfl
    have s3 : W'.cell? ⟨g, 2, none⟩ = some (.int .i64 (r)) := XG1.cell rfl
    have t19 := XR1.rlT
    have HB1 := Lib.hid (b_cl B0 (Nat.le_refl _) hHeld)
    have hlt := XP1.lt
    go_wp2_with (first
      | go_skip
      | refine wpList_build_as rfl 28 _ rfl (sp3 (0, 0, 0)) (by kernel_rfl) ?_
      | (refine wpList_store_box rfl 28 _ _ rfl (w.heap.size + 1 + 1) (sp3 (0, 0, 0)) rfl rfl 28 (sp3 (0, 0, 0)) (XP1) (by kernel_rfl) rfl (one3 _ _ _) (fun w9 u9 => ?_); have XP9 := u9.box; have HB9 := Lib.hid (HB1.out.trans (u9.bel _ (by omega)))))
    refine bodyPost_ret (v := .tuple #[.agg (sp3 (0, 0, 0)), .bool false]) (results_box2 Try.results30 _ _ (w.heap.size + 1 + 1) 28 (sp3 (0, 0, 0)) _ _ rfl XP9 rfl Try.underlying28 rfl (by kernel_rfl)) rfl ⟨rfl, ?_⟩
    exact HB9.out
  ·
    refine wp_alloc_any 28 (sp3 (0, 0, 0)) (by kernel_rfl) (fun g W' hg hA hbA => ?_)
    have hgN := Nat.le_trans hHeld.size hg
    refine hK.out _ _ (b_cl hHeld (Nat.le_refl _) hbA) (fun hHeld => ?_)
    clear hK K hbA hg
    (try simp only [Act.put, List.setIfInBounds_toArray, List.set_cons_zero, List.set_cons_succ])
    refine wpAnyH_ready (rs := [13]) (by kernel_rfl) (by simp) ?_
    refine AllReadyH.cons (o := ⟨some 37, _, _, _, _, _⟩) rfl (fun K hK => ?_) AllReadyH.nil
    go_simp
    (go_at_call 42; refine (CS _ (HA.out _ (HK.out.below hHeld))).mono ?_; rintro e w1 ⟨rfl, hb1⟩)
    go_wp2_with fail
    refine hK.out _ _ (b_cl hHeld (Nat.le_refl _) (by assumption)) (fun hHeld => ?_)
    replace hA := hA.below (by assumption)
    clear hK K
    (try simp only [Act.put, List.setIfInBounds_toArray, List.set_cons_zero, List.set_cons_succ])
    refine wpAnyH_take (i := 14) (oi := ⟨some 23, _, _, _, _, _⟩) (v := ?_) rfl (by kernel_rfl) (by kernel_rfl) (by kernel_rfl) (fun _ _ _ h => h) (Or.inl ⟨by rfl, ?_⟩) (by assumption) ?_
    rotate_left
    · (intro w' hSw; clear hSw; go_simp; try (with_reducible rfl))
    (try simp only [Act.put, List.setIfInBounds_toArray, List.set_cons_zero, List.set_cons_succ])
    refine wpAnyH_take (i := 15) (oi := ⟨some 38, _, _, _, _, _⟩) (v := ?_) rfl (by kernel_rfl) (by kernel_rfl) (by kernel_rfl) (fun _ _ _ h => h) (Or.inl ⟨by rfl, ?_⟩) (by assumption) ?_
    rotate_left
    · (intro w' hSw; clear hSw; go_simp; try (with_reducible rfl))
    (try simp only [Act.put, List.setIfInBounds_toArray, List.set_cons_zero, List.set_cons_succ])
    refine wpAnyH_take (i := 16) (oi := ⟨some 39, _, _, _, _, _⟩) (v := ?_) rfl (by kernel_rfl) (by kernel_rfl) (by kernel_rfl) (fun _ _ _ h => h) (Or.inl ⟨by rfl, ?_⟩) (by assumption) ?_
    rotate_left
    · (intro w' hSw; clear hSw; go_simp; try (with_reducible rfl))
    (try simp only [Act.put, List.setIfInBounds_toArray, List.set_cons_zero, List.set_cons_succ])
    refine wpAnyH_take (i := 17) (oi := ⟨some 40, _, _, _, _, _⟩) (v := ?_) rfl (by kernel_rfl) (by kernel_rfl) (by kernel_rfl) (fun _ _ _ h => h) (Or.inl ⟨by rfl, ?_⟩) (by assumption) ?_
    rotate_left
    · (intro w' hSw; clear hSw; go_simp; try (with_reducible rfl))
    (try simp only [Act.put, List.setIfInBounds_toArray, List.set_cons_zero, List.set_cons_succ])
    refine wpAnyH_ready (rs := [19]) (by kernel_rfl) (by simp) ?_
    refine AllReadyH.cons (o := ⟨none, _, _, _, _, _⟩) rfl (fun K hK => ?_) AllReadyH.nil
    refine wp_store_any 28 _ _ rfl g (sp3 (p, q, r)) rfl rfl 28 (sp3 (0, 0, 0)) hA (by kernel_rfl) rfl (one3 _ _ _) (fun W' u => ?_)
    refine hK.out _ _ (hHeld.trans (u.bel _ hgN)) (fun hHeld => ?_)
    clear hK K
    (try simp only [Act.put])
    refine wpAnyH_take (i := 20) (oi := ⟨some 12, _, _, _, _, _⟩) (v := ?_) rfl (by kernel_rfl) (by kernel_rfl) (by kernel_rfl) (fun _ _ _ h => h) (Or.inl ⟨by rfl, ?_⟩) (by assumption) ?_
    rotate_left
    · (intro w' hSw; clear hSw; go_simp; try (with_reducible rfl))
    (try simp only [Act.put, List.setIfInBounds_toArray, List.set_cons_zero, List.set_cons_succ])
    refine wpAnyH_take (i := 21) (oi := ⟨some 13, _, _, _, _, _⟩) (v := ?_) rfl (by kernel_rfl) (by kernel_rfl) (by kernel_rfl) (fun _ _ _ h => h) (Or.inl ⟨by rfl, ?_⟩) (by assumption) ?_
    rotate_left
    · (intro w' hSw; clear hSw; go_simp; try (with_reducible rfl))
    (try simp only [Act.put, List.setIfInBounds_toArray, List.set_cons_zero, List.set_cons_succ])
    refine wpAnyH_done (by kernel_rfl) ?_ _
    refine NoPanic.normal ?_
    have XR1 := XR.keep hHeld XR.lt
    have XS1 := XS.keep hHeld XS.lt
    have XP1 := XP.keep hHeld XP.lt
    have XG1 := u.box
    have s0 : W'.cell? ⟨w.heap.size + 1, 0, none⟩ = some (.int .i64 (i : Int)) := XS1.cell rfl
    have s1 : W'.cell? ⟨g, 0, none⟩ = some (.int .i64 (p)) := XG1.cell rfl
    have s2 : W'.cell? ⟨g, 1, none⟩ = some (.int .i64 (q)) := XG1.cell rfl
    have s3 : W'.cell? ⟨g, 2, none⟩ = some (.int .i64 (r)) := XG1.cell rfl
    have t19 := XR1.rlT
    have HB1 := Lib.hid (b_cl B0 (Nat.le_refl _) hHeld)
    have hlt := XP1.lt
    go_wp2_with (first
      | go_skip
      | refine wpList_build_as rfl 28 _ rfl (sp3 (0, 0, 0)) (by kernel_rfl) ?_
      | (refine wpList_store_box rfl 28 _ _ rfl (w.heap.size + 1 + 1) (sp3 (0, 0, 0)) rfl rfl 28 (sp3 (0, 0, 0)) (XP1) (by kernel_rfl) rfl (one3 _ _ _) (fun w9 u9 => ?_); have XP9 := u9.box; have HB9 := Lib.hid (HB1.out.trans (u9.bel _ (by omega)))))
    refine bodyPost_ret (v := .tuple #[.agg (sp3 (0, 0, 0)), .bool false]) (results_box2 Try.results30 _ _ (w.heap.size + 1 + 1) 28 (sp3 (0, 0, 0)) _ _ rfl XP9 rfl Try.underlying28 rfl (by kernel_rfl)) rfl ⟨rfl, ?_⟩
    exact HB9.out

set_option maxRecDepth 100000 in
set_option maxHeartbeats 4000000 in
theorem turn_no_end (x : Nat → Int) (A : Option Addr) (n c : Nat) (l : List Tk) (hn : l.length = n) (i : Nat) (y z m k : Int) (w : World) (h : RdK w A l) (few : Few l) (hcn : n ≤ c) (hl : n ≤ 2001) (ck : checkT l = 0) (fit : Fits l ((i : Int), y, z)) (hm : 0 ≤ m ∧ m ≤ 40319) (hk : 0 ≤ k ∧ k ≤ 3) (hy : 0 ≤ y ∧ y ≤ 10080) (hz : 0 ≤ z ∧ z ≤ 1440) (hi : i = l.length) (hfr : freeT l ((i : Int), y, z) m k = false) :
    Calls Try.prog 30 #[.agg (rl x A n c), .agg (sp3 ((i : Int), y, z)), .int .i64 m, .int .i64 k] w fun e w' => e = .returned (.tuple #[.agg (sp3 (((0, 0, 0) : Pt))), .bool false]) ∧ Below w.heap.size w w' := by
  have XR : Bx (((w.alloc (.cells (rl x A n c) 63)).alloc (.cells (sp3 ((i : Int), y, z)) 28)).alloc (.cells (#[.int .i64 0, .int .i64 0, .int .i64 0]) 28)) (w.heap.size) 63 (rl x A n c) := ((Bx.new (W := w) _ _ (by simp)).alloc _).alloc _
  have XS : Bx (((w.alloc (.cells (rl x A n c) 63)).alloc (.cells (sp3 ((i : Int), y, z)) 28)).alloc (.cells (#[.int .i64 0, .int .i64 0, .int .i64 0]) 28)) (w.heap.size + 1) 28 (sp3 ((i : Int), y, z)) := (Bx.new (W := (w.alloc (.cells (rl x A n c) 63))) _ _ (by simp)).alloc _
  have XP : Bx (((w.alloc (.cells (rl x A n c) 63)).alloc (.cells (sp3 ((i : Int), y, z)) 28)).alloc (.cells (#[.int .i64 0, .int .i64 0, .int .i64 0]) 28)) (w.heap.size + 1 + 1) 28 (#[.int .i64 0, .int .i64 0, .int .i64 0]) := (Bx.new (W := ((w.alloc (.cells (rl x A n c) 63)).alloc (.cells (sp3 ((i : Int), y, z)) 28))) _ _ (by simp))
  have B0 : Below w.heap.size w (((w.alloc (.cells (rl x A n c) 63)).alloc (.cells (sp3 ((i : Int), y, z)) 28)).alloc (.cells (#[.int .i64 0, .int .i64 0, .int .i64 0]) 28)) := b_al (b_al (b_al (Below.refl _ _) (Nat.le_refl _) _) (Nat.le_refl _) _) (Nat.le_refl _) _
  have HK := Lib.hid (h.below B0)
  have CS := fun W (h : RdK W (advK A c i) (partT l i)) => step19_any (advK A c i) (n - i) (c - i) (partT l i) (by unfold partT; simp; omega) 0 y z m k W h (partT_few few i) (by omega) (by omega) (by omega)
  have es : stepV (partT l i) (0, y, z) m k = (stepT (partT l i) (0, y, z) k, setT (partT l i) (0, y, z) m k, 0) := by
    have e0 : stepE (partT l i) (0, y, z) m k = 0 := by
      unfold stepE
      rw [if_pos (spot_yes (check_part ck i) (part_fits fit)), if_pos (by omega), if_pos (by omega)]
    unfold stepV
    rw [if_pos e0]
  rw [es] at CS
  clear es
  have hne := setT_set ((part_free (l := l) (i := i)).trans hfr)
  obtain ⟨bs, hbs⟩ : ∃ bs, setT (partT l i) (0, y, z) m k = bs := ⟨_, rfl⟩
  obtain ⟨p, q, r, hpq⟩ : ∃ p q r, stepT (partT l i) (0, y, z) k = (p, q, r) := ⟨_, _, _, rfl⟩
  rw [hbs, hpq] at CS
  rw [hbs] at hne
  have hne' : (bs != 0) = true := by simp [hne]
  clear hbs hpq hne
  have q0 : (((w.alloc (.cells (rl x A n c) 63)).alloc (.cells (sp3 ((i : Int), y, z)) 28)).alloc (.cells (#[.int .i64 0, .int .i64 0, .int .i64 0]) 28)).cell? ⟨w.heap.size + 1, 0, none⟩ = some (.int .i64 (i : Int)) := XS.cell rfl
  have q19 := XR.rlT
  have g1 : (n : Int) < (i : Int) + 1 := by omega
  have HC := Lib.hid hcn
  have HA := Lib.hid (show ∀ W, RdK W A l → RdK W (advK A c i) (partT l i) from fun W h => h.part (by omega))
  have HD := Lib.hid (show ∀ W, RdK W A l → RdK W (advK A c (n)) (l.drop (n)) from fun W h => h.dropI (by omega))
  have hin : i ≤ n := by omega
  clear h few fit hm hy hz ck hi hfr hn
  go_enter Try.func30, Try.ntmps30
  have emin : min ((i : Int) + 1) (n : Int) = (n : Int) := by omega
  go_upto_region 2 with fail
  (try go_frame)
  clear emin
  clear q0 q19
  generalize (((w.alloc (.cells (rl x A n c) 63)).alloc (.cells (sp3 ((i : Int), y, z)) 28)).alloc (.cells (#[.int .i64 0, .int .i64 0, .int .i64 0]) 28)) = w0 at *
  refine wp_region_noPanic ?_
  refine wp_region_held_drew (S := fun w' => Below w0.heap.size w0 w') (by kernel_rfl) ?_ (fun hHeld => ?_)
  · exact b_dr (Below.refl _ _)
  refine wpAnyH_take (i := 0) (oi := ⟨some 24, _, _, _, _, _⟩) (v := ?_) rfl (by kernel_rfl) (by kernel_rfl) (by kernel_rfl) (fun _ _ _ h => h) (Or.inl ⟨by rfl, ?_⟩) (by assumption) ?_
  rotate_left
  · (intro w' hSw; clear hSw; go_simp; try (with_reducible rfl))
  (try simp only [Act.put, List.setIfInBounds_toArray, List.set_cons_zero, List.set_cons_succ])
  refine wpAnyH_take (i := 1) (oi := ⟨some 25, _, _, _, _, _⟩) (v := ?_) rfl (by kernel_rfl) (by kernel_rfl) (by kernel_rfl) (fun _ _ _ h => h) (Or.inl ⟨by rfl, ?_⟩) (by assumption) ?_
  rotate_left
  · (intro w' hSw; have q := (XR.keep hSw XR.lt).rlT; clear hSw; go_simp; try (with_reducible rfl))
  (try simp only [Act.put, List.setIfInBounds_toArray, List.set_cons_zero, List.set_cons_succ])
  refine wpAnyH_take (i := 2) (oi := ⟨some 26, _, _, _, _, _⟩) (v := ?_) rfl (by kernel_rfl) (by kernel_rfl) (by kernel_rfl) (fun _ _ _ h => h) (Or.inl ⟨by rfl, ?_⟩) (by assumption) ?_
  rotate_left
  · (intro w' hSw; clear hSw; go_simp; try (with_reducible rfl))
  (try simp only [Act.put, List.setIfInBounds_toArray, List.set_cons_zero, List.set_cons_succ])
  refine wpAnyH_take (i := 3) (oi := ⟨some 27, _, _, _, _, _⟩) (v := ?_) rfl (by kernel_rfl) (by kernel_rfl) (by kernel_rfl) (fun _ _ _ h => h) (Or.inl ⟨by rfl, ?_⟩) (by assumption) ?_
  rotate_left
  · (intro w' hSw; have q : w'.cell? ⟨w.heap.size + 1, 0, none⟩ = some (.int .i64 (i : Int)) := (XS.keep hSw XS.lt).cell rfl; clear hSw; go_simp; try (with_reducible rfl))
  (try simp only [Act.put, List.setIfInBounds_toArray, List.set_cons_zero, List.set_cons_succ])
  refine wpAnyH_take (i := 4) (oi := ⟨some 28, _, _, _, _, _⟩) (v := ?_) rfl (by kernel_rfl) (by kernel_rfl) (by kernel_rfl) (fun _ _ _ h => h) (Or.inl ⟨by rfl, ?_⟩) (by assumption) ?_
  rotate_left
  · (intro w' hSw; clear hSw; go_simp; try (with_reducible rfl))
  (try simp only [Act.put, List.setIfInBounds_toArray, List.set_cons_zero, List.set_cons_succ])
  refine wpAnyH_take (i := 5) (oi := ⟨some 29, _, _, _, _, _⟩) (v := .slice (advK A c i) (n - i) (c - i)) rfl (by kernel_rfl) (by kernel_rfl) (by kernel_rfl) (fun _ _ _ h => h) (Or.inl ⟨by rfl, fun w' hSw => exec_slice_tk A n c i (n) (n - i) w' ((i : Nat) : Int) ((n : Int)) rfl rfl rfl rfl rfl (by simp) (by omega) (by have := HC.out; omega) (by omega)⟩) (by assumption) ?_
  (try simp only [Act.put, List.setIfInBounds_toArray, List.set_cons_zero, List.set_cons_succ])
  refine wpAnyH_take (i := 6) (oi := ⟨some 30, _, _, _, _, _⟩) (v := ?_) rfl (by kernel_rfl) (by kernel_rfl) (by kernel_rfl) (fun _ _ _ h => h) (Or.inl ⟨by rfl, ?_⟩) (by assumption) ?_
  rotate_left
  · (intro w' hSw; clear hSw; go_simp; try (with_reducible rfl))
  (try simp only [Act.put, List.setIfInBounds_toArray, List.set_cons_zero, List.set_cons_succ])
  refine wpAnyH_take (i := 7) (oi := ⟨some 31, _, _, _, _, _⟩) (v := ?_) rfl (by kernel_rfl) (by kernel_rfl) (by kernel_rfl) (fun _ _ _ h => h) (Or.inl ⟨by rfl, ?_⟩) (by assumption) ?_
  rotate_left
  · (intro w' hSw; have q : w'.cell? ⟨w.heap.size + 1, 1, none⟩ = some (.int .i64 y) := (XS.keep hSw XS.lt).cell rfl; clear hSw; go_simp; try (with_reducible rfl))
  (try simp only [Act.put, List.setIfInBounds_toArray, List.set_cons_zero, List.set_cons_succ])
  refine wpAnyH_take (i := 8) (oi := ⟨some 32, _, _, _, _, _⟩) (v := ?_) rfl (by kernel_rfl) (by kernel_rfl) (by kernel_rfl) (fun _ _ _ h => h) (Or.inl ⟨by rfl, ?_⟩) (by assumption) ?_
  rotate_left
  · (intro w' hSw; clear hSw; go_simp; try (with_reducible rfl))
  (try simp only [Act.put, List.setIfInBounds_toArray, List.set_cons_zero, List.set_cons_succ])
  refine wpAnyH_take (i := 9) (oi := ⟨some 33, _, _, _, _, _⟩) (v := ?_) rfl (by kernel_rfl) (by kernel_rfl) (by kernel_rfl) (fun _ _ _ h => h) (Or.inl ⟨by rfl, ?_⟩) (by assumption) ?_
  rotate_left
  · (intro w' hSw; have q : w'.cell? ⟨w.heap.size + 1, 2, none⟩ = some (.int .i64 z) := (XS.keep hSw XS.lt).cell rfl; clear hSw; go_simp; try (with_reducible rfl))
  (try simp only [Act.put, List.setIfInBounds_toArray, List.set_cons_zero, List.set_cons_succ])
  refine wpAnyH_take (i := 10) (oi := ⟨some 34, _, _, _, _, _⟩) (v := .agg (sp3 (0, y, z))) rfl (by kernel_rfl) (by kernel_rfl) (by kernel_rfl) (fun _ _ _ h => h) (Or.inl ⟨by rfl, fun w' hSw => exec_build (sp3 (0, y, z)) w' rfl (by kernel_rfl)⟩) (by assumption) ?_
  (try simp only [Act.put, List.setIfInBounds_toArray, List.set_cons_zero, List.set_cons_succ])
  refine wpAnyH_take (i := 11) (oi := ⟨some 35, _, _, _, _, _⟩) (v := ?_) rfl (by kernel_rfl) (by kernel_rfl) (by kernel_rfl) (fun _ _ _ h => h) (Or.inl ⟨by rfl, ?_⟩) (by assumption) ?_
  rotate_left
  · (intro w' hSw; clear hSw; go_simp; try (with_reducible rfl))
  (try simp only [Act.put, List.setIfInBounds_toArray, List.set_cons_zero, List.set_cons_succ])
  refine wpAnyH_take (i := 12) (oi := ⟨some 36, _, _, _, _, _⟩) (v := ?_) rfl (by kernel_rfl) (by kernel_rfl) (by kernel_rfl) (fun _ _ _ h => h) (Or.inl ⟨by rfl, ?_⟩) (by assumption) ?_
  rotate_left
  · (intro w' hSw; clear hSw; go_simp; try (with_reducible rfl))
  (try simp only [Act.put, List.setIfInBounds_toArray, List.set_cons_zero, List.set_cons_succ])
  refine wpAnyH_ready (rs := [13, 18]) (by kernel_rfl) (by simp) ?_
  refine AllReadyH.cons (o := ⟨some 37, _, _, _, _, _⟩) rfl (fun K hK => ?_) (AllReadyH.cons (o := ⟨some 11, _, _, _, _, _⟩) rfl (fun K hK => ?_) AllReadyH.nil)
  ·
    go_simp
    (go_at_call 42; refine (CS _ (HA.out _ (HK.out.below hHeld))).mono ?_; rintro e w1 ⟨rfl, hb1⟩)
    go_wp2_with fail
    refine hK.out _ _ (b_cl hHeld (Nat.le_refl _) (by assumption)) (fun hHeld => ?_)
    clear hK K
    (try simp only [Act.put, List.setIfInBounds_toArray, List.set_cons_zero, List.set_cons_succ])
    refine wpAnyH_take (i := 14) (oi := ⟨some 23, _, _, _, _, _⟩) (v := ?_) rfl (by kernel_rfl) (by kernel_rfl) (by kernel_rfl) (fun _ _ _ h => h) (Or.inl ⟨by rfl, ?_⟩) (by assumption) ?_
    rotate_left
    · (intro w' hSw; clear hSw; go_simp; try (with_reducible rfl))
    (try simp only [Act.put, List.setIfInBounds_toArray, List.set_cons_zero, List.set_cons_succ])
    refine wpAnyH_take (i := 15) (oi := ⟨some 38, _, _, _, _, _⟩) (v := ?_) rfl (by kernel_rfl) (by kernel_rfl) (by kernel_rfl) (fun _ _ _ h => h) (Or.inl ⟨by rfl, ?_⟩) (by assumption) ?_
    rotate_left
    · (intro w' hSw; clear hSw; go_simp; try (with_reducible rfl))
    (try simp only [Act.put, List.setIfInBounds_toArray, List.set_cons_zero, List.set_cons_succ])
    refine wpAnyH_take (i := 16) (oi := ⟨some 39, _, _, _, _, _⟩) (v := ?_) rfl (by kernel_rfl) (by kernel_rfl) (by kernel_rfl) (fun _ _ _ h => h) (Or.inl ⟨by rfl, ?_⟩) (by assumption) ?_
    rotate_left
    · (intro w' hSw; clear hSw; go_simp; try (with_reducible rfl))
    (try simp only [Act.put, List.setIfInBounds_toArray, List.set_cons_zero, List.set_cons_succ])
    refine wpAnyH_take (i := 17) (oi := ⟨some 40, _, _, _, _, _⟩) (v := ?_) rfl (by kernel_rfl) (by kernel_rfl) (by kernel_rfl) (fun _ _ _ h => h) (Or.inl ⟨by rfl, ?_⟩) (by assumption) ?_
    rotate_left
    · (intro w' hSw; clear hSw; go_simp; try (with_reducible rfl))
    (try simp only [Act.put, List.setIfInBounds_toArray, List.set_cons_zero, List.set_cons_succ])
    refine wpAnyH_ready (rs := [18]) (by kernel_rfl) (by simp) ?_
    refine AllReadyH.cons (o := ⟨some 11, _, _, _, _, _⟩) rfl (fun K hK => ?_) AllReadyH.nil
    refine wp_alloc_any 28 (sp3 (0, 0, 0)) (by kernel_rfl) (fun g W' hg hA hbA => ?_)
    have hgN := Nat.le_trans hHeld.size hg
    refine hK.out _ _ (b_cl hHeld (Nat.le_refl _) hbA) (fun hHeld => ?_)
    clear hK K hbA hg
    (try simp only [Act.put, List.setIfInBounds_toArray, List.set_cons_zero, List.set_cons_succ])
    refine wpAnyH_ready (rs := [19]) (by kernel_rfl) (by simp) ?_
    refine AllReadyH.cons (o := ⟨none, _, _, _, _, _⟩) rfl (fun K hK => ?_) AllReadyH.nil
    refine wp_store_any 28 _ _ rfl g (sp3 (p, q, r)) rfl rfl 28 (sp3 (0, 0, 0)) hA (by kernel_rfl) rfl (one3 _ _ _) (fun W' u => ?_)
    refine hK.out _ _ (hHeld.trans (u.bel _ hgN)) (fun hHeld => ?_)
    clear hK K
    (try simp only [Act.put])
    refine wpAnyH_take (i := 20) (oi := ⟨some 12, _, _, _, _, _⟩) (v := ?_) rfl (by kernel_rfl) (by kernel_rfl) (by kernel_rfl) (fun _ _ _ h => h) (Or.inl ⟨by rfl, ?_⟩) (by assumption) ?_
    rotate_left
    · (intro w' hSw; clear hSw; go_simp; try (with_reducible rfl))
    (try simp only [Act.put, List.setIfInBounds_toArray, List.set_cons_zero, List.set_cons_succ])
    refine wpAnyH_take (i := 21) (oi := ⟨some 13, _, _, _, _, _⟩) (v := ?_) rfl (by kernel_rfl) (by kernel_rfl) (by kernel_rfl) (fun _ _ _ h => h) (Or.inl ⟨by rfl, ?_⟩) (by assumption) ?_
    rotate_left
    · (intro w' hSw; clear hSw; go_simp; try (with_reducible rfl))
    (try simp only [Act.put, List.setIfInBounds_toArray, List.set_cons_zero, List.set_cons_succ])
    refine wpAnyH_done (by kernel_rfl) ?_ _
    refine NoPanic.normal ?_
    have XR1 := XR.keep hHeld XR.lt
    have XS1 := XS.keep hHeld XS.lt
    have XP1 := XP.keep hHeld XP.lt
    have XG1 := u.box
    have s0 : W'.cell? ⟨w.heap.size + 1, 0, none⟩ = some (.int .i64 (i : Int)) := XS1.cell rfl
    have s1 : W'.cell? ⟨g, 0, none⟩ = some (.int .i64 (p)) := XG1.cell rfl
    have s2 : W'.cell? ⟨g, 1, none⟩ = some (.int .i64 (q)) := XG1.cell rfl
    have s3 : W'.cell? ⟨g, 2, none⟩ = some (.int .i64 (r)) := XG1.cell rfl
    have t19 := XR1.rlT
    have HB1 := Lib.hid (b_cl B0 (Nat.le_refl _) hHeld)
    have hlt := XP1.lt
    go_wp2_with (first
      | go_skip
      | refine wpList_build_as rfl 28 _ rfl (sp3 (0, 0, 0)) (by kernel_rfl) ?_
      | (refine wpList_store_box rfl 28 _ _ rfl (w.heap.size + 1 + 1) (sp3 (0, 0, 0)) rfl rfl 28 (sp3 (0, 0, 0)) (XP1) (by kernel_rfl) rfl (one3 _ _ _) (fun w9 u9 => ?_); have XP9 := u9.box; have HB9 := Lib.hid (HB1.out.trans (u9.bel _ (by omega)))))
    refine bodyPost_ret (v := .tuple #[.agg (sp3 (0, 0, 0)), .bool false]) (results_box2 Try.results30 _ _ (w.heap.size + 1 + 1) 28 (sp3 (0, 0, 0)) _ _ rfl XP9 rfl Try.underlying28 rfl (by kernel_rfl)) rfl ⟨rfl, ?_⟩
    exact HB9.out
  ·
    refine wp_alloc_any 28 (sp3 (0, 0, 0)) (by kernel_rfl) (fun g W' hg hA hbA => ?_)
    have hgN := Nat.le_trans hHeld.size hg
    refine hK.out _ _ (b_cl hHeld (Nat.le_refl _) hbA) (fun hHeld => ?_)
    clear hK K hbA hg
    (try simp only [Act.put, List.setIfInBounds_toArray, List.set_cons_zero, List.set_cons_succ])
    refine wpAnyH_ready (rs := [13]) (by kernel_rfl) (by simp) ?_
    refine AllReadyH.cons (o := ⟨some 37, _, _, _, _, _⟩) rfl (fun K hK => ?_) AllReadyH.nil
    go_simp
    (go_at_call 42; refine (CS _ (HA.out _ (HK.out.below hHeld))).mono ?_; rintro e w1 ⟨rfl, hb1⟩)
    go_wp2_with fail
    refine hK.out _ _ (b_cl hHeld (Nat.le_refl _) (by assumption)) (fun hHeld => ?_)
    replace hA := hA.below (by assumption)
    clear hK K
    (try simp only [Act.put, List.setIfInBounds_toArray, List.set_cons_zero, List.set_cons_succ])
    refine wpAnyH_take (i := 14) (oi := ⟨some 23, _, _, _, _, _⟩) (v := ?_) rfl (by kernel_rfl) (by kernel_rfl) (by kernel_rfl) (fun _ _ _ h => h) (Or.inl ⟨by rfl, ?_⟩) (by assumption) ?_
    rotate_left
    · (intro w' hSw; clear hSw; go_simp; try (with_reducible rfl))
    (try simp only [Act.put, List.setIfInBounds_toArray, List.set_cons_zero, List.set_cons_succ])
    refine wpAnyH_take (i := 15) (oi := ⟨some 38, _, _, _, _, _⟩) (v := ?_) rfl (by kernel_rfl) (by kernel_rfl) (by kernel_rfl) (fun _ _ _ h => h) (Or.inl ⟨by rfl, ?_⟩) (by assumption) ?_
    rotate_left
    · (intro w' hSw; clear hSw; go_simp; try (with_reducible rfl))
    (try simp only [Act.put, List.setIfInBounds_toArray, List.set_cons_zero, List.set_cons_succ])
    refine wpAnyH_take (i := 16) (oi := ⟨some 39, _, _, _, _, _⟩) (v := ?_) rfl (by kernel_rfl) (by kernel_rfl) (by kernel_rfl) (fun _ _ _ h => h) (Or.inl ⟨by rfl, ?_⟩) (by assumption) ?_
    rotate_left
    · (intro w' hSw; clear hSw; go_simp; try (with_reducible rfl))
    (try simp only [Act.put, List.setIfInBounds_toArray, List.set_cons_zero, List.set_cons_succ])
    refine wpAnyH_take (i := 17) (oi := ⟨some 40, _, _, _, _, _⟩) (v := ?_) rfl (by kernel_rfl) (by kernel_rfl) (by kernel_rfl) (fun _ _ _ h => h) (Or.inl ⟨by rfl, ?_⟩) (by assumption) ?_
    rotate_left
    · (intro w' hSw; clear hSw; go_simp; try (with_reducible rfl))
    (try simp only [Act.put, List.setIfInBounds_toArray, List.set_cons_zero, List.set_cons_succ])
    refine wpAnyH_ready (rs := [19]) (by kernel_rfl) (by simp) ?_
    refine AllReadyH.cons (o := ⟨none, _, _, _, _, _⟩) rfl (fun K hK => ?_) AllReadyH.nil
    refine wp_store_any 28 _ _ rfl g (sp3 (p, q, r)) rfl rfl 28 (sp3 (0, 0, 0)) hA (by kernel_rfl) rfl (one3 _ _ _) (fun W' u => ?_)
    refine hK.out _ _ (hHeld.trans (u.bel _ hgN)) (fun hHeld => ?_)
    clear hK K
    (try simp only [Act.put])
    refine wpAnyH_take (i := 20) (oi := ⟨some 12, _, _, _, _, _⟩) (v := ?_) rfl (by kernel_rfl) (by kernel_rfl) (by kernel_rfl) (fun _ _ _ h => h) (Or.inl ⟨by rfl, ?_⟩) (by assumption) ?_
    rotate_left
    · (intro w' hSw; clear hSw; go_simp; try (with_reducible rfl))
    (try simp only [Act.put, List.setIfInBounds_toArray, List.set_cons_zero, List.set_cons_succ])
    refine wpAnyH_take (i := 21) (oi := ⟨some 13, _, _, _, _, _⟩) (v := ?_) rfl (by kernel_rfl) (by kernel_rfl) (by kernel_rfl) (fun _ _ _ h => h) (Or.inl ⟨by rfl, ?_⟩) (by assumption) ?_
    rotate_left
    · (intro w' hSw; clear hSw; go_simp; try (with_reducible rfl))
    (try simp only [Act.put, List.setIfInBounds_toArray, List.set_cons_zero, List.set_cons_succ])
    refine wpAnyH_done (by kernel_rfl) ?_ _
    refine NoPanic.normal ?_
    have XR1 := XR.keep hHeld XR.lt
    have XS1 := XS.keep hHeld XS.lt
    have XP1 := XP.keep hHeld XP.lt
    have XG1 := u.box
    have s0 : W'.cell? ⟨w.heap.size + 1, 0, none⟩ = some (.int .i64 (i : Int)) := XS1.cell rfl
    have s1 : W'.cell? ⟨g, 0, none⟩ = some (.int .i64 (p)) := XG1.cell rfl
    have s2 : W'.cell? ⟨g, 1, none⟩ = some (.int .i64 (q)) := XG1.cell rfl
    have s3 : W'.cell? ⟨g, 2, none⟩ = some (.int .i64 (r)) := XG1.cell rfl
    have t19 := XR1.rlT
    have HB1 := Lib.hid (b_cl B0 (Nat.le_refl _) hHeld)
    have hlt := XP1.lt
    go_wp2_with (first
      | go_skip
      | refine wpList_build_as rfl 28 _ rfl (sp3 (0, 0, 0)) (by kernel_rfl) ?_
      | (refine wpList_store_box rfl 28 _ _ rfl (w.heap.size + 1 + 1) (sp3 (0, 0, 0)) rfl rfl 28 (sp3 (0, 0, 0)) (XP1) (by kernel_rfl) rfl (one3 _ _ _) (fun w9 u9 => ?_); have XP9 := u9.box; have HB9 := Lib.hid (HB1.out.trans (u9.bel _ (by omega)))))
    refine bodyPost_ret (v := .tuple #[.agg (sp3 (0, 0, 0)), .bool false]) (results_box2 Try.results30 _ _ (w.heap.size + 1 + 1) 28 (sp3 (0, 0, 0)) _ _ rfl XP9 rfl Try.underlying28 rfl (by kernel_rfl)) rfl ⟨rfl, ?_⟩
    exact HB9.out

set_option maxRecDepth 100000 in
set_option maxHeartbeats 4000000 in
theorem turn_in0 (x : Nat → Int) (A : Option Addr) (n c : Nat) (l : List Tk) (hn : l.length = n) (i : Nat) (y z m k : Int) (w : World) (h : RdK w A l) (few : Few l) (hcn : n ≤ c) (hl : n ≤ 2001) (ck : checkT l = 0) (fit : Fits l ((i : Int), y, z)) (hm : 0 ≤ m ∧ m ≤ 40319) (hk : 0 ≤ k ∧ k ≤ 3) (hy : 0 ≤ y ∧ y ≤ 10080) (hz : 0 ≤ z ∧ z ≤ 1440) (hi : i < l.length) (hfr : freeT l ((i : Int), y, z) m k = true) (q r : Int) (he : stepT (partT l i) (0, y, z) k = (0, q, r)) :
    Calls Try.prog 30 #[.agg (rl x A n c), .agg (sp3 ((i : Int), y, z)), .int .i64 m, .int .i64 k] w fun e w' => e = .returned (.tuple #[.agg (sp3 (stepT l ((i : Int), y, z) k)), .bool true]) ∧ Below w.heap.size w w' := by
  have XR : Bx (((w.alloc (.cells (rl x A n c) 63)).alloc (.cells (sp3 ((i : Int), y, z)) 28)).alloc (.cells (#[.int .i64 0, .int .i64 0, .int .i64 0]) 28)) (w.heap.size) 63 (rl x A n c) := ((Bx.new (W := w) _ _ (by simp)).alloc _).alloc _
  have XS : Bx (((w.alloc (.cells (rl x A n c) 63)).alloc (.cells (sp3 ((i : Int), y, z)) 28)).alloc (.cells (#[.int .i64 0, .int .i64 0, .int .i64 0]) 28)) (w.heap.size + 1) 28 (sp3 ((i : Int), y, z)) := (Bx.new (W := (w.alloc (.cells (rl x A n c) 63))) _ _ (by simp)).alloc _
  have XP : Bx (((w.alloc (.cells (rl x A n c) 63)).alloc (.cells (sp3 ((i : Int), y, z)) 28)).alloc (.cells (#[.int .i64 0, .int .i64 0, .int .i64 0]) 28)) (w.heap.size + 1 + 1) 28 (#[.int .i64 0, .int .i64 0, .int .i64 0]) := (Bx.new (W := ((w.alloc (.cells (rl x A n c) 63)).alloc (.cells (sp3 ((i : Int), y, z)) 28))) _ _ (by simp))
  have B0 : Below w.heap.size w (((w.alloc (.cells (rl x A n c) 63)).alloc (.cells (sp3 ((i : Int), y, z)) 28)).alloc (.cells (#[.int .i64 0, .int .i64 0, .int .i64 0]) 28)) := b_al (b_al (b_al (Below.refl _ _) (Nat.le_refl _) _) (Nat.le_refl _) _) (Nat.le_refl _) _
  have HK := Lib.hid (h.below B0)
  have CS := fun W (h : RdK W (advK A c i) (partT l i)) => step19_any (advK A c i) (1) (c - i) (partT l i) (by unfold partT; simp; omega) 0 y z m k W h (partT_few few i) (by omega) (by omega) (by omega)
  have es : stepV (partT l i) (0, y, z) m k = (stepT (partT l i) (0, y, z) k, setT (partT l i) (0, y, z) m k, 0) := by
    have e0 : stepE (partT l i) (0, y, z) m k = 0 := by
      unfold stepE
      rw [if_pos (spot_yes (check_part ck i) (part_fits fit)), if_pos (by omega), if_pos (by omega)]
    unfold stepV
    rw [if_pos e0]
  rw [es] at CS
  clear es
  rw [setT_free ((part_free (l := l) (i := i)).trans hfr)] at CS
  rw [he] at CS
  have ht := part_step (y := z) (x := y) hi _ _ _ he
  obtain ⟨_, ht⟩ | ⟨h1, _⟩ := ht
  rotate_left
  · exact absurd h1 (by decide)
  rw [ht]
  have q0 : (((w.alloc (.cells (rl x A n c) 63)).alloc (.cells (sp3 ((i : Int), y, z)) 28)).alloc (.cells (#[.int .i64 0, .int .i64 0, .int .i64 0]) 28)).cell? ⟨w.heap.size + 1, 0, none⟩ = some (.int .i64 (i : Int)) := XS.cell rfl
  have q19 := XR.rlT
  have g1 : (i : Int) + 1 ≤ (n : Int) := by omega
  have HC := Lib.hid hcn
  have HA := Lib.hid (show ∀ W, RdK W A l → RdK W (advK A c i) (partT l i) from fun W h => h.part (by omega))
  have HD := Lib.hid (show ∀ W, RdK W A l → RdK W (advK A c (i + 1)) (l.drop (i + 1)) from fun W h => h.dropI (by omega))
  have hin : i ≤ n := by omega
  clear h few fit hm hy hz ck hi hfr hn
  clear ht
  clear he
  go_enter Try.func30, Try.ntmps30
  have emin : min ((i : Int) + 1) (n : Int) = (i : Int) + 1 := by omega
  go_upto_region 2 with fail
  (try go_frame)
  clear emin
  clear q0 q19
  generalize (((w.alloc (.cells (rl x A n c) 63)).alloc (.cells (sp3 ((i : Int), y, z)) 28)).alloc (.cells (#[.int .i64 0, .int .i64 0, .int .i64 0]) 28)) = w0 at *
  refine wp_region_noPanic ?_
  refine wp_region_held_drew (S := fun w' => Below w0.heap.size w0 w') (by kernel_rfl) ?_ (fun hHeld => ?_)
  · exact b_dr (Below.refl _ _)
  refine wpAnyH_take (i := 0) (oi := ⟨some 24, _, _, _, _, _⟩) (v := ?_) rfl (by kernel_rfl) (by kernel_rfl) (by kernel_rfl) (fun _ _ _ h => h) (Or.inl ⟨by rfl, ?_⟩) (by assumption) ?_
  rotate_left
  · (intro w' hSw; clear hSw; go_simp; try (with_reducible rfl))
  (try simp only [Act.put, List.setIfInBounds_toArray, List.set_cons_zero, List.set_cons_succ])
  refine wpAnyH_take (i := 1) (oi := ⟨some 25, _, _, _, _, _⟩) (v := ?_) rfl (by kernel_rfl) (by kernel_rfl) (by kernel_rfl) (fun _ _ _ h => h) (Or.inl ⟨by rfl, ?_⟩) (by assumption) ?_
  rotate_left
  · (intro w' hSw; have q := (XR.keep hSw XR.lt).rlT; clear hSw; go_simp; try (with_reducible rfl))
  (try simp only [Act.put, List.setIfInBounds_toArray, List.set_cons_zero, List.set_cons_succ])
  refine wpAnyH_take (i := 2) (oi := ⟨some 26, _, _, _, _, _⟩) (v := ?_) rfl (by kernel_rfl) (by kernel_rfl) (by kernel_rfl) (fun _ _ _ h => h) (Or.inl ⟨by rfl, ?_⟩) (by assumption) ?_
  rotate_left
  · (intro w' hSw; clear hSw; go_simp; try (with_reducible rfl))
  (try simp only [Act.put, List.setIfInBounds_toArray, List.set_cons_zero, List.set_cons_succ])
  refine wpAnyH_take (i := 3) (oi := ⟨some 27, _, _, _, _, _⟩) (v := ?_) rfl (by kernel_rfl) (by kernel_rfl) (by kernel_rfl) (fun _ _ _ h => h) (Or.inl ⟨by rfl, ?_⟩) (by assumption) ?_
  rotate_left
  · (intro w' hSw; have q : w'.cell? ⟨w.heap.size + 1, 0, none⟩ = some (.int .i64 (i : Int)) := (XS.keep hSw XS.lt).cell rfl; clear hSw; go_simp; try (with_reducible rfl))
  (try simp only [Act.put, List.setIfInBounds_toArray, List.set_cons_zero, List.set_cons_succ])
  refine wpAnyH_take (i := 4) (oi := ⟨some 28, _, _, _, _, _⟩) (v := ?_) rfl (by kernel_rfl) (by kernel_rfl) (by kernel_rfl) (fun _ _ _ h => h) (Or.inl ⟨by rfl, ?_⟩) (by assumption) ?_
  rotate_left
  · (intro w' hSw; clear hSw; go_simp; try (with_reducible rfl))
  (try simp only [Act.put, List.setIfInBounds_toArray, List.set_cons_zero, List.set_cons_succ])
  refine wpAnyH_take (i := 5) (oi := ⟨some 29, _, _, _, _, _⟩) (v := .slice (advK A c i) (1) (c - i)) rfl (by kernel_rfl) (by kernel_rfl) (by kernel_rfl) (fun _ _ _ h => h) (Or.inl ⟨by rfl, fun w' hSw => exec_slice_tk A n c i (i + 1) (1) w' ((i : Nat) : Int) ((i : Int) + 1) rfl rfl rfl rfl rfl (by simp) (by omega) (by have := HC.out; omega) (by omega)⟩) (by assumption) ?_
  (try simp only [Act.put, List.setIfInBounds_toArray, List.set_cons_zero, List.set_cons_succ])
  refine wpAnyH_take (i := 6) (oi := ⟨some 30, _, _, _, _, _⟩) (v := ?_) rfl (by kernel_rfl) (by kernel_rfl) (by kernel_rfl) (fun _ _ _ h => h) (Or.inl ⟨by rfl, ?_⟩) (by assumption) ?_
  rotate_left
  · (intro w' hSw; clear hSw; go_simp; try (with_reducible rfl))
  (try simp only [Act.put, List.setIfInBounds_toArray, List.set_cons_zero, List.set_cons_succ])
  refine wpAnyH_take (i := 7) (oi := ⟨some 31, _, _, _, _, _⟩) (v := ?_) rfl (by kernel_rfl) (by kernel_rfl) (by kernel_rfl) (fun _ _ _ h => h) (Or.inl ⟨by rfl, ?_⟩) (by assumption) ?_
  rotate_left
  · (intro w' hSw; have q : w'.cell? ⟨w.heap.size + 1, 1, none⟩ = some (.int .i64 y) := (XS.keep hSw XS.lt).cell rfl; clear hSw; go_simp; try (with_reducible rfl))
  (try simp only [Act.put, List.setIfInBounds_toArray, List.set_cons_zero, List.set_cons_succ])
  refine wpAnyH_take (i := 8) (oi := ⟨some 32, _, _, _, _, _⟩) (v := ?_) rfl (by kernel_rfl) (by kernel_rfl) (by kernel_rfl) (fun _ _ _ h => h) (Or.inl ⟨by rfl, ?_⟩) (by assumption) ?_
  rotate_left
  · (intro w' hSw; clear hSw; go_simp; try (with_reducible rfl))
  (try simp only [Act.put, List.setIfInBounds_toArray, List.set_cons_zero, List.set_cons_succ])
  refine wpAnyH_take (i := 9) (oi := ⟨some 33, _, _, _, _, _⟩) (v := ?_) rfl (by kernel_rfl) (by kernel_rfl) (by kernel_rfl) (fun _ _ _ h => h) (Or.inl ⟨by rfl, ?_⟩) (by assumption) ?_
  rotate_left
  · (intro w' hSw; have q : w'.cell? ⟨w.heap.size + 1, 2, none⟩ = some (.int .i64 z) := (XS.keep hSw XS.lt).cell rfl; clear hSw; go_simp; try (with_reducible rfl))
  (try simp only [Act.put, List.setIfInBounds_toArray, List.set_cons_zero, List.set_cons_succ])
  refine wpAnyH_take (i := 10) (oi := ⟨some 34, _, _, _, _, _⟩) (v := .agg (sp3 (0, y, z))) rfl (by kernel_rfl) (by kernel_rfl) (by kernel_rfl) (fun _ _ _ h => h) (Or.inl ⟨by rfl, fun w' hSw => exec_build (sp3 (0, y, z)) w' rfl (by kernel_rfl)⟩) (by assumption) ?_
  (try simp only [Act.put, List.setIfInBounds_toArray, List.set_cons_zero, List.set_cons_succ])
  refine wpAnyH_take (i := 11) (oi := ⟨some 35, _, _, _, _, _⟩) (v := ?_) rfl (by kernel_rfl) (by kernel_rfl) (by kernel_rfl) (fun _ _ _ h => h) (Or.inl ⟨by rfl, ?_⟩) (by assumption) ?_
  rotate_left
  · (intro w' hSw; clear hSw; go_simp; try (with_reducible rfl))
  (try simp only [Act.put, List.setIfInBounds_toArray, List.set_cons_zero, List.set_cons_succ])
  refine wpAnyH_take (i := 12) (oi := ⟨some 36, _, _, _, _, _⟩) (v := ?_) rfl (by kernel_rfl) (by kernel_rfl) (by kernel_rfl) (fun _ _ _ h => h) (Or.inl ⟨by rfl, ?_⟩) (by assumption) ?_
  rotate_left
  · (intro w' hSw; clear hSw; go_simp; try (with_reducible rfl))
  (try simp only [Act.put, List.setIfInBounds_toArray, List.set_cons_zero, List.set_cons_succ])
  refine wpAnyH_ready (rs := [13, 18]) (by kernel_rfl) (by simp) ?_
  refine AllReadyH.cons (o := ⟨some 37, _, _, _, _, _⟩) rfl (fun K hK => ?_) (AllReadyH.cons (o := ⟨some 11, _, _, _, _, _⟩) rfl (fun K hK => ?_) AllReadyH.nil)
  ·
    go_simp
    (go_at_call 42; refine (CS _ (HA.out _ (HK.out.below hHeld))).mono ?_; rintro e w1 ⟨rfl, hb1⟩)
    go_wp2_with fail
    refine hK.out _ _ (b_cl hHeld (Nat.le_refl _) (by assumption)) (fun hHeld => ?_)
    clear hK K
    (try simp only [Act.put, List.setIfInBounds_toArray, List.set_cons_zero, List.set_cons_succ])
    refine wpAnyH_take (i := 14) (oi := ⟨some 23, _, _, _, _, _⟩) (v := ?_) rfl (by kernel_rfl) (by kernel_rfl) (by kernel_rfl) (fun _ _ _ h => h) (Or.inl ⟨by rfl, ?_⟩) (by assumption) ?_
    rotate_left
    · (intro w' hSw; clear hSw; go_simp; try (with_reducible rfl))
    (try simp only [Act.put, List.setIfInBounds_toArray, List.set_cons_zero, List.set_cons_succ])
    refine wpAnyH_take (i := 15) (oi := ⟨some 38, _, _, _, _, _⟩) (v := ?_) rfl (by kernel_rfl) (by kernel_rfl) (by kernel_rfl) (fun _ _ _ h => h) (Or.inl ⟨by rfl, ?_⟩) (by assumption) ?_
    rotate_left
    · (intro w' hSw; clear hSw; go_simp; try (with_reducible rfl))
    (try simp only [Act.put, List.setIfInBounds_toArray, List.set_cons_zero, List.set_cons_succ])
    refine wpAnyH_take (i := 16) (oi := ⟨some 39, _, _, _, _, _⟩) (v := ?_) rfl (by kernel_rfl) (by kernel_rfl) (by kernel_rfl) (fun _ _ _ h => h) (Or.inl ⟨by rfl, ?_⟩) (by assumption) ?_
    rotate_left
    · (intro w' hSw; clear hSw; go_simp; try (with_reducible rfl))
    (try simp only [Act.put, List.setIfInBounds_toArray, List.set_cons_zero, List.set_cons_succ])
    refine wpAnyH_take (i := 17) (oi := ⟨some 40, _, _, _, _, _⟩) (v := ?_) rfl (by kernel_rfl) (by kernel_rfl) (by kernel_rfl) (fun _ _ _ h => h) (Or.inl ⟨by rfl, ?_⟩) (by assumption) ?_
    rotate_left
    · (intro w' hSw; clear hSw; go_simp; try (with_reducible rfl))
    (try simp only [Act.put, List.setIfInBounds_toArray, List.set_cons_zero, List.set_cons_succ])
    refine wpAnyH_ready (rs := [18]) (by kernel_rfl) (by simp) ?_
    refine AllReadyH.cons (o := ⟨some 11, _, _, _, _, _⟩) rfl (fun K hK => ?_) AllReadyH.nil
    refine wp_alloc_any 28 (sp3 (0, 0, 0)) (by kernel_rfl) (fun g W' hg hA hbA => ?_)
    have hgN := Nat.le_trans hHeld.size hg
    refine hK.out _ _ (b_cl hHeld (Nat.le_refl _) hbA) (fun hHeld => ?_)
    clear hK K hbA hg
    (try simp only [Act.put, List.setIfInBounds_toArray, List.set_cons_zero, List.set_cons_succ])
    refine wpAnyH_ready (rs := [19]) (by kernel_rfl) (by simp) ?_
    refine AllReadyH.cons (o := ⟨none, _, _, _, _, _⟩) rfl (fun K hK => ?_) AllReadyH.nil
    refine wp_store_any 28 _ _ rfl g (sp3 (0, q, r)) rfl rfl 28 (sp3 (0, 0, 0)) hA (by kernel_rfl) rfl (one3 _ _ _) (fun W' u => ?_)
    refine hK.out _ _ (hHeld.trans (u.bel _ hgN)) (fun hHeld => ?_)
    clear hK K
    (try simp only [Act.put])
    refine wpAnyH_take (i := 20) (oi := ⟨some 12, _, _, _, _, _⟩) (v := ?_) rfl (by kernel_rfl) (by kernel_rfl) (by kernel_rfl) (fun _ _ _ h => h) (Or.inl ⟨by rfl, ?_⟩) (by assumption) ?_
    rotate_left
    · (intro w' hSw; clear hSw; go_simp; try (with_reducible rfl))
    (try simp only [Act.put, List.setIfInBounds_toArray, List.set_cons_zero, List.set_cons_succ])
    refine wpAnyH_take (i := 21) (oi := ⟨some 13, _, _, _, _, _⟩) (v := ?_) rfl (by kernel_rfl) (by kernel_rfl) (by kernel_rfl) (fun _ _ _ h => h) (Or.inl ⟨by rfl, ?_⟩) (by assumption) ?_
    rotate_left
    · (intro w' hSw; clear hSw; go_simp; try (with_reducible rfl))
    (try simp only [Act.put, List.setIfInBounds_toArray, List.set_cons_zero, List.set_cons_succ])
    refine wpAnyH_done (by kernel_rfl) ?_ _
    refine NoPanic.normal ?_
    have XR1 := XR.keep hHeld XR.lt
    have XS1 := XS.keep hHeld XS.lt
    have XP1 := XP.keep hHeld XP.lt
    have XG1 := u.box
    have s0 : W'.cell? ⟨w.heap.size + 1, 0, none⟩ = some (.int .i64 (i : Int)) := XS1.cell rfl
    have s1 : W'.cell? ⟨g, 0, none⟩ = some (.int .i64 (0)) := XG1.cell rfl
    have s2 : W'.cell? ⟨g, 1, none⟩ = some (.int .i64 (q)) := XG1.cell rfl
    have s3 : W'.cell? ⟨g, 2, none⟩ = some (.int .i64 (r)) := XG1.cell rfl
    have t19 := XR1.rlT
    have HB1 := Lib.hid (b_cl B0 (Nat.le_refl _) hHeld)
    have hlt := XP1.lt
    go_wp2_with (first
      | go_skip
      | refine wpList_build_as rfl 28 _ rfl (sp3 ((i : Int), q, r)) (by kernel_rfl) ?_
      | (refine wpList_store_box rfl 28 _ _ rfl (w.heap.size + 1 + 1) (sp3 ((i : Int), q, r)) rfl rfl 28 (sp3 (0, 0, 0)) (XP1) (by kernel_rfl) rfl (one3 _ _ _) (fun w9 u9 => ?_); have XP9 := u9.box; have HB9 := Lib.hid (HB1.out.trans (u9.bel _ (by omega)))))
    refine bodyPost_ret (v := .tuple #[.agg (sp3 ((i : Int), q, r)), .bool true]) (results_box2 Try.results30 _ _ (w.heap.size + 1 + 1) 28 (sp3 ((i : Int), q, r)) _ _ rfl XP9 rfl Try.underlying28 rfl (by kernel_rfl)) rfl ⟨rfl, ?_⟩
    exact HB9.out
  ·
    refine wp_alloc_any 28 (sp3 (0, 0, 0)) (by kernel_rfl) (fun g W' hg hA hbA => ?_)
    have hgN := Nat.le_trans hHeld.size hg
    refine hK.out _ _ (b_cl hHeld (Nat.le_refl _) hbA) (fun hHeld => ?_)
    clear hK K hbA hg
    (try simp only [Act.put, List.setIfInBounds_toArray, List.set_cons_zero, List.set_cons_succ])
    refine wpAnyH_ready (rs := [13]) (by kernel_rfl) (by simp) ?_
    refine AllReadyH.cons (o := ⟨some 37, _, _, _, _, _⟩) rfl (fun K hK => ?_) AllReadyH.nil
    go_simp
    (go_at_call 42; refine (CS _ (HA.out _ (HK.out.below hHeld))).mono ?_; rintro e w1 ⟨rfl, hb1⟩)
    go_wp2_with fail
    refine hK.out _ _ (b_cl hHeld (Nat.le_refl _) (by assumption)) (fun hHeld => ?_)
    replace hA := hA.below (by assumption)
    clear hK K
    (try simp only [Act.put, List.setIfInBounds_toArray, List.set_cons_zero, List.set_cons_succ])
    refine wpAnyH_take (i := 14) (oi := ⟨some 23, _, _, _, _, _⟩) (v := ?_) rfl (by kernel_rfl) (by kernel_rfl) (by kernel_rfl) (fun _ _ _ h => h) (Or.inl ⟨by rfl, ?_⟩) (by assumption) ?_
    rotate_left
    · (intro w' hSw; clear hSw; go_simp; try (with_reducible rfl))
    (try simp only [Act.put, List.setIfInBounds_toArray, List.set_cons_zero, List.set_cons_succ])
    refine wpAnyH_take (i := 15) (oi := ⟨some 38, _, _, _, _, _⟩) (v := ?_) rfl (by kernel_rfl) (by kernel_rfl) (by kernel_rfl) (fun _ _ _ h => h) (Or.inl ⟨by rfl, ?_⟩) (by assumption) ?_
    rotate_left
    · (intro w' hSw; clear hSw; go_simp; try (with_reducible rfl))
    (try simp only [Act.put, List.setIfInBounds_toArray, List.set_cons_zero, List.set_cons_succ])
    refine wpAnyH_take (i := 16) (oi := ⟨some 39, _, _, _, _, _⟩) (v := ?_) rfl (by kernel_rfl) (by kernel_rfl) (by kernel_rfl) (fun _ _ _ h => h) (Or.inl ⟨by rfl, ?_⟩) (by assumption) ?_
    rotate_left
    · (intro w' hSw; clear hSw; go_simp; try (with_reducible rfl))
    (try simp only [Act.put, List.setIfInBounds_toArray, List.set_cons_zero, List.set_cons_succ])
    refine wpAnyH_take (i := 17) (oi := ⟨some 40, _, _, _, _, _⟩) (v := ?_) rfl (by kernel_rfl) (by kernel_rfl) (by kernel_rfl) (fun _ _ _ h => h) (Or.inl ⟨by rfl, ?_⟩) (by assumption) ?_
    rotate_left
    · (intro w' hSw; clear hSw; go_simp; try (with_reducible rfl))
    (try simp only [Act.put, List.setIfInBounds_toArray, List.set_cons_zero, List.set_cons_succ])
    refine wpAnyH_ready (rs := [19]) (by kernel_rfl) (by simp) ?_
    refine AllReadyH.cons (o := ⟨none, _, _, _, _, _⟩) rfl (fun K hK => ?_) AllReadyH.nil
    refine wp_store_any 28 _ _ rfl g (sp3 (0, q, r)) rfl rfl 28 (sp3 (0, 0, 0)) hA (by kernel_rfl) rfl (one3 _ _ _) (fun W' u => ?_)
    refine hK.out _ _ (hHeld.trans (u.bel _ hgN)) (fun hHeld => ?_)
    clear hK K
    (try simp only [Act.put])
    refine wpAnyH_take (i := 20) (oi := ⟨some 12, _, _, _, _, _⟩) (v := ?_) rfl (by kernel_rfl) (by kernel_rfl) (by kernel_rfl) (fun _ _ _ h => h) (Or.inl ⟨by rfl, ?_⟩) (by assumption) ?_
    rotate_left
    · (intro w' hSw; clear hSw; go_simp; try (with_reducible rfl))
    (try simp only [Act.put, List.setIfInBounds_toArray, List.set_cons_zero, List.set_cons_succ])
    refine wpAnyH_take (i := 21) (oi := ⟨some 13, _, _, _, _, _⟩) (v := ?_) rfl (by kernel_rfl) (by kernel_rfl) (by kernel_rfl) (fun _ _ _ h => h) (Or.inl ⟨by rfl, ?_⟩) (by assumption) ?_
    rotate_left
    · (intro w' hSw; clear hSw; go_simp; try (with_reducible rfl))
    (try simp only [Act.put, List.setIfInBounds_toArray, List.set_cons_zero, List.set_cons_succ])
    refine wpAnyH_done (by kernel_rfl) ?_ _
    refine NoPanic.normal ?_
    have XR1 := XR.keep hHeld XR.lt
    have XS1 := XS.keep hHeld XS.lt
    have XP1 := XP.keep hHeld XP.lt
    have XG1 := u.box
    have s0 : W'.cell? ⟨w.heap.size + 1, 0, none⟩ = some (.int .i64 (i : Int)) := XS1.cell rfl
    have s1 : W'.cell? ⟨g, 0, none⟩ = some (.int .i64 (0)) := XG1.cell rfl
    have s2 : W'.cell? ⟨g, 1, none⟩ = some (.int .i64 (q)) := XG1.cell rfl
    have s3 : W'.cell? ⟨g, 2, none⟩ = some (.int .i64 (r)) := XG1.cell rfl
    have t19 := XR1.rlT
    have HB1 := Lib.hid (b_cl B0 (Nat.le_refl _) hHeld)
    have hlt := XP1.lt
    go_wp2_with (first
      | go_skip
      | refine wpList_build_as rfl 28 _ rfl (sp3 ((i : Int), q, r)) (by kernel_rfl) ?_
      | (refine wpList_store_box rfl 28 _ _ rfl (w.heap.size + 1 + 1) (sp3 ((i : Int), q, r)) rfl rfl 28 (sp3 (0, 0, 0)) (XP1) (by kernel_rfl) rfl (one3 _ _ _) (fun w9 u9 => ?_); have XP9 := u9.box; have HB9 := Lib.hid (HB1.out.trans (u9.bel _ (by omega)))))
    refine bodyPost_ret (v := .tuple #[.agg (sp3 ((i : Int), q, r)), .bool true]) (results_box2 Try.results30 _ _ (w.heap.size + 1 + 1) 28 (sp3 ((i : Int), q, r)) _ _ rfl XP9 rfl Try.underlying28 rfl (by kernel_rfl)) rfl ⟨rfl, ?_⟩
    exact HB9.out

set_option maxRecDepth 100000 in
set_option maxHeartbeats 4000000 in
theorem turn_in1 (x : Nat → Int) (A : Option Addr) (n c : Nat) (l : List Tk) (hn : l.length = n) (i : Nat) (y z m k : Int) (w : World) (h : RdK w A l) (few : Few l) (hcn : n ≤ c) (hl : n ≤ 2001) (ck : checkT l = 0) (fit : Fits l ((i : Int), y, z)) (hm : 0 ≤ m ∧ m ≤ 40319) (hk : 0 ≤ k ∧ k ≤ 3) (hy : 0 ≤ y ∧ y ≤ 10080) (hz : 0 ≤ z ∧ z ≤ 1440) (hi : i < l.length) (hfr : freeT l ((i : Int), y, z) m k = true) (q r : Int) (he : stepT (partT l i) (0, y, z) k = (1, q, r)) :
    Calls Try.prog 30 #[.agg (rl x A n c), .agg (sp3 ((i : Int), y, z)), .int .i64 m, .int .i64 k] w fun e w' => e = .returned (.tuple #[.agg (sp3 (stepT l ((i : Int), y, z) k)), .bool true]) ∧ Below w.heap.size w w' := by
  have XR : Bx (((w.alloc (.cells (rl x A n c) 63)).alloc (.cells (sp3 ((i : Int), y, z)) 28)).alloc (.cells (#[.int .i64 0, .int .i64 0, .int .i64 0]) 28)) (w.heap.size) 63 (rl x A n c) := ((Bx.new (W := w) _ _ (by simp)).alloc _).alloc _
  have XS : Bx (((w.alloc (.cells (rl x A n c) 63)).alloc (.cells (sp3 ((i : Int), y, z)) 28)).alloc (.cells (#[.int .i64 0, .int .i64 0, .int .i64 0]) 28)) (w.heap.size + 1) 28 (sp3 ((i : Int), y, z)) := (Bx.new (W := (w.alloc (.cells (rl x A n c) 63))) _ _ (by simp)).alloc _
  have XP : Bx (((w.alloc (.cells (rl x A n c) 63)).alloc (.cells (sp3 ((i : Int), y, z)) 28)).alloc (.cells (#[.int .i64 0, .int .i64 0, .int .i64 0]) 28)) (w.heap.size + 1 + 1) 28 (#[.int .i64 0, .int .i64 0, .int .i64 0]) := (Bx.new (W := ((w.alloc (.cells (rl x A n c) 63)).alloc (.cells (sp3 ((i : Int), y, z)) 28))) _ _ (by simp))
  have B0 : Below w.heap.size w (((w.alloc (.cells (rl x A n c) 63)).alloc (.cells (sp3 ((i : Int), y, z)) 28)).alloc (.cells (#[.int .i64 0, .int .i64 0, .int .i64 0]) 28)) := b_al (b_al (b_al (Below.refl _ _) (Nat.le_refl _) _) (Nat.le_refl _) _) (Nat.le_refl _) _
  have HK := Lib.hid (h.below B0)
  have CS := fun W (h : RdK W (advK A c i) (partT l i)) => step19_any (advK A c i) (1) (c - i) (partT l i) (by unfold partT; simp; omega) 0 y z m k W h (partT_few few i) (by omega) (by omega) (by omega)
  have es : stepV (partT l i) (0, y, z) m k = (stepT (partT l i) (0, y, z) k, setT (partT l i) (0, y, z) m k, 0) := by
    have e0 : stepE (partT l i) (0, y, z) m k = 0 := by
      unfold stepE
      rw [if_pos (spot_yes (check_part ck i) (part_fits fit)), if_pos (by omega), if_pos (by omega)]
    unfold stepV
    rw [if_pos e0]
  rw [es] at CS
  clear es
  rw [setT_free ((part_free (l := l) (i := i)).trans hfr)] at CS
  rw [he] at CS
  have ht := part_step (y := z) (x := y) hi _ _ _ he
  obtain ⟨h1, _⟩ | ⟨_, ht⟩ := ht
  · exact absurd h1 (by decide)
  rw [ht]
  have CB := fun W (h : RdK W (advK A c (i + 1)) (l.drop (i + 1))) => start19_any (advK A c (i + 1)) (n - (i + 1)) (c - (i + 1)) (l.drop (i + 1)) (by simp; omega) W h (drop_few few _)
  rw [start_ok (check_drop ck _), check_drop ck _] at CB
  obtain ⟨⟨p1, p2, p3⟩, hP⟩ : ∃ P, pastT (l.drop (i + 1)) (0, 0, 0) = P := ⟨_, rfl⟩
  rw [hP] at CB ⊢
  have hpb := pastT_shift (l := l) (i := i + 1) (by omega)
  rw [hP] at hpb
  have hpf := (pastT_fits (checkt_zero ck).1 (s := (((i + 1 : Nat) : Int), 0, 0)) ⟨by simp only; omega, by simp only; omega, fun _ => ⟨rfl, rfl⟩, fun g => by
    have := (checkt_zero ck).1 _ (tk_mem (l := l) (i := ((i + 1 : Nat) : Int)) (by omega) g)
    exact ⟨Int.le_refl _, this.1, Int.le_refl _, this.2.2.1, Or.inl rfl⟩⟩)
  rw [hpb] at hpf
  have hp0 : -2001 ≤ p1 ∧ p1 ≤ 2001 := by have h1 := hpf.1; have h2 := hpf.2.1; simp only at h1 h2; omega
  clear hP hpb hpf
  have q0 : (((w.alloc (.cells (rl x A n c) 63)).alloc (.cells (sp3 ((i : Int), y, z)) 28)).alloc (.cells (#[.int .i64 0, .int .i64 0, .int .i64 0]) 28)).cell? ⟨w.heap.size + 1, 0, none⟩ = some (.int .i64 (i : Int)) := XS.cell rfl
  have q19 := XR.rlT
  have g1 : (i : Int) + 1 ≤ (n : Int) := by omega
  have HC := Lib.hid hcn
  have HA := Lib.hid (show ∀ W, RdK W A l → RdK W (advK A c i) (partT l i) from fun W h => h.part (by omega))
  have HD := Lib.hid (show ∀ W, RdK W A l → RdK W (advK A c (i + 1)) (l.drop (i + 1)) from fun W h => h.dropI (by omega))
  have hin : i ≤ n := by omega
  clear h few fit hm hy hz ck hi hfr hn
  clear ht
  clear he
  go_enter Try.func30, Try.ntmps30
  have emin : min ((i : Int) + 1) (n : Int) = (i : Int) + 1 := by omega
  go_upto_region 2 with fail
  (try go_frame)
  clear emin
  clear q0 q19
  generalize (((w.alloc (.cells (rl x A n c) 63)).alloc (.cells (sp3 ((i : Int), y, z)) 28)).alloc (.cells (#[.int .i64 0, .int .i64 0, .int .i64 0]) 28)) = w0 at *
  refine wp_region_noPanic ?_
  refine wp_region_held_drew (S := fun w' => Below w0.heap.size w0 w') (by kernel_rfl) ?_ (fun hHeld => ?_)
  · exact b_dr (Below.refl _ _)
  refine wpAnyH_take (i := 0) (oi := ⟨some 24, _, _, _, _, _⟩) (v := ?_) rfl (by kernel_rfl) (by kernel_rfl) (by kernel_rfl) (fun _ _ _ h => h) (Or.inl ⟨by rfl, ?_⟩) (by assumption) ?_
  rotate_left
  · (intro w' hSw; clear hSw; go_simp; try (with_reducible rfl))
  (try simp only [Act.put, List.setIfInBounds_toArray, List.set_cons_zero, List.set_cons_succ])
  refine wpAnyH_take (i := 1) (oi := ⟨some 25, _, _, _, _, _⟩) (v := ?_) rfl (by kernel_rfl) (by kernel_rfl) (by kernel_rfl) (fun _ _ _ h => h) (Or.inl ⟨by rfl, ?_⟩) (by assumption) ?_
  rotate_left
  · (intro w' hSw; have q := (XR.keep hSw XR.lt).rlT; clear hSw; go_simp; try (with_reducible rfl))
  (try simp only [Act.put, List.setIfInBounds_toArray, List.set_cons_zero, List.set_cons_succ])
  refine wpAnyH_take (i := 2) (oi := ⟨some 26, _, _, _, _, _⟩) (v := ?_) rfl (by kernel_rfl) (by kernel_rfl) (by kernel_rfl) (fun _ _ _ h => h) (Or.inl ⟨by rfl, ?_⟩) (by assumption) ?_
  rotate_left
  · (intro w' hSw; clear hSw; go_simp; try (with_reducible rfl))
  (try simp only [Act.put, List.setIfInBounds_toArray, List.set_cons_zero, List.set_cons_succ])
  refine wpAnyH_take (i := 3) (oi := ⟨some 27, _, _, _, _, _⟩) (v := ?_) rfl (by kernel_rfl) (by kernel_rfl) (by kernel_rfl) (fun _ _ _ h => h) (Or.inl ⟨by rfl, ?_⟩) (by assumption) ?_
  rotate_left
  · (intro w' hSw; have q : w'.cell? ⟨w.heap.size + 1, 0, none⟩ = some (.int .i64 (i : Int)) := (XS.keep hSw XS.lt).cell rfl; clear hSw; go_simp; try (with_reducible rfl))
  (try simp only [Act.put, List.setIfInBounds_toArray, List.set_cons_zero, List.set_cons_succ])
  refine wpAnyH_take (i := 4) (oi := ⟨some 28, _, _, _, _, _⟩) (v := ?_) rfl (by kernel_rfl) (by kernel_rfl) (by kernel_rfl) (fun _ _ _ h => h) (Or.inl ⟨by rfl, ?_⟩) (by assumption) ?_
  rotate_left
  · (intro w' hSw; clear hSw; go_simp; try (with_reducible rfl))
  (try simp only [Act.put, List.setIfInBounds_toArray, List.set_cons_zero, List.set_cons_succ])
  refine wpAnyH_take (i := 5) (oi := ⟨some 29, _, _, _, _, _⟩) (v := .slice (advK A c i) (1) (c - i)) rfl (by kernel_rfl) (by kernel_rfl) (by kernel_rfl) (fun _ _ _ h => h) (Or.inl ⟨by rfl, fun w' hSw => exec_slice_tk A n c i (i + 1) (1) w' ((i : Nat) : Int) ((i : Int) + 1) rfl rfl rfl rfl rfl (by simp) (by omega) (by have := HC.out; omega) (by omega)⟩) (by assumption) ?_
  (try simp only [Act.put, List.setIfInBounds_toArray, List.set_cons_zero, List.set_cons_succ])
  refine wpAnyH_take (i := 6) (oi := ⟨some 30, _, _, _, _, _⟩) (v := ?_) rfl (by kernel_rfl) (by kernel_rfl) (by kernel_rfl) (fun _ _ _ h => h) (Or.inl ⟨by rfl, ?_⟩) (by assumption) ?_
  rotate_left
  · (intro w' hSw; clear hSw; go_simp; try (with_reducible rfl))
  (try simp only [Act.put, List.setIfInBounds_toArray, List.set_cons_zero, List.set_cons_succ])
  refine wpAnyH_take (i := 7) (oi := ⟨some 31, _, _, _, _, _⟩) (v := ?_) rfl (by kernel_rfl) (by kernel_rfl) (by kernel_rfl) (fun _ _ _ h => h) (Or.inl ⟨by rfl, ?_⟩) (by assumption) ?_
  rotate_left
  · (intro w' hSw; have q : w'.cell? ⟨w.heap.size + 1, 1, none⟩ = some (.int .i64 y) := (XS.keep hSw XS.lt).cell rfl; clear hSw; go_simp; try (with_reducible rfl))
  (try simp only [Act.put, List.setIfInBounds_toArray, List.set_cons_zero, List.set_cons_succ])
  refine wpAnyH_take (i := 8) (oi := ⟨some 32, _, _, _, _, _⟩) (v := ?_) rfl (by kernel_rfl) (by kernel_rfl) (by kernel_rfl) (fun _ _ _ h => h) (Or.inl ⟨by rfl, ?_⟩) (by assumption) ?_
  rotate_left
  · (intro w' hSw; clear hSw; go_simp; try (with_reducible rfl))
  (try simp only [Act.put, List.setIfInBounds_toArray, List.set_cons_zero, List.set_cons_succ])
  refine wpAnyH_take (i := 9) (oi := ⟨some 33, _, _, _, _, _⟩) (v := ?_) rfl (by kernel_rfl) (by kernel_rfl) (by kernel_rfl) (fun _ _ _ h => h) (Or.inl ⟨by rfl, ?_⟩) (by assumption) ?_
  rotate_left
  · (intro w' hSw; have q : w'.cell? ⟨w.heap.size + 1, 2, none⟩ = some (.int .i64 z) := (XS.keep hSw XS.lt).cell rfl; clear hSw; go_simp; try (with_reducible rfl))
  (try simp only [Act.put, List.setIfInBounds_toArray, List.set_cons_zero, List.set_cons_succ])
  refine wpAnyH_take (i := 10) (oi := ⟨some 34, _, _, _, _, _⟩) (v := .agg (sp3 (0, y, z))) rfl (by kernel_rfl) (by kernel_rfl) (by kernel_rfl) (fun _ _ _ h => h) (Or.inl ⟨by rfl, fun w' hSw => exec_build (sp3 (0, y, z)) w' rfl (by kernel_rfl)⟩) (by assumption) ?_
  (try simp only [Act.put, List.setIfInBounds_toArray, List.set_cons_zero, List.set_cons_succ])
  refine wpAnyH_take (i := 11) (oi := ⟨some 35, _, _, _, _, _⟩) (v := ?_) rfl (by kernel_rfl) (by kernel_rfl) (by kernel_rfl) (fun _ _ _ h => h) (Or.inl ⟨by rfl, ?_⟩) (by assumption) ?_
  rotate_left
  · (intro w' hSw; clear hSw; go_simp; try (with_reducible rfl))
  (try simp only [Act.put, List.setIfInBounds_toArray, List.set_cons_zero, List.set_cons_succ])
  refine wpAnyH_take (i := 12) (oi := ⟨some 36, _, _, _, _, _⟩) (v := ?_) rfl (by kernel_rfl) (by kernel_rfl) (by kernel_rfl) (fun _ _ _ h => h) (Or.inl ⟨by rfl, ?_⟩) (by assumption) ?_
  rotate_left
  · (intro w' hSw; clear hSw; go_simp; try (with_reducible rfl))
  (try simp only [Act.put, List.setIfInBounds_toArray, List.set_cons_zero, List.set_cons_succ])
  refine wpAnyH_ready (rs := [13, 18]) (by kernel_rfl) (by simp) ?_
  refine AllReadyH.cons (o := ⟨some 37, _, _, _, _, _⟩) rfl (fun K hK => ?_) (AllReadyH.cons (o := ⟨some 11, _, _, _, _, _⟩) rfl (fun K hK => ?_) AllReadyH.nil)
  ·
    go_simp
    (go_at_call 42; refine (CS _ (HA.out _ (HK.out.below hHeld))).mono ?_; rintro e w1 ⟨rfl, hb1⟩)
    go_wp2_with fail
    refine hK.out _ _ (b_cl hHeld (Nat.le_refl _) (by assumption)) (fun hHeld => ?_)
    clear hK K
    (try simp only [Act.put, List.setIfInBounds_toArray, List.set_cons_zero, List.set_cons_succ])
    refine wpAnyH_take (i := 14) (oi := ⟨some 23, _, _, _, _, _⟩) (v := ?_) rfl (by kernel_rfl) (by kernel_rfl) (by kernel_rfl) (fun _ _ _ h => h) (Or.inl ⟨by rfl, ?_⟩) (by assumption) ?_
    rotate_left
    · (intro w' hSw; clear hSw; go_simp; try (with_reducible rfl))
    (try simp only [Act.put, List.setIfInBounds_toArray, List.set_cons_zero, List.set_cons_succ])
    refine wpAnyH_take (i := 15) (oi := ⟨some 38, _, _, _, _, _⟩) (v := ?_) rfl (by kernel_rfl) (by kernel_rfl) (by kernel_rfl) (fun _ _ _ h => h) (Or.inl ⟨by rfl, ?_⟩) (by assumption) ?_
    rotate_left
    · (intro w' hSw; clear hSw; go_simp; try (with_reducible rfl))
    (try simp only [Act.put, List.setIfInBounds_toArray, List.set_cons_zero, List.set_cons_succ])
    refine wpAnyH_take (i := 16) (oi := ⟨some 39, _, _, _, _, _⟩) (v := ?_) rfl (by kernel_rfl) (by kernel_rfl) (by kernel_rfl) (fun _ _ _ h => h) (Or.inl ⟨by rfl, ?_⟩) (by assumption) ?_
    rotate_left
    · (intro w' hSw; clear hSw; go_simp; try (with_reducible rfl))
    (try simp only [Act.put, List.setIfInBounds_toArray, List.set_cons_zero, List.set_cons_succ])
    refine wpAnyH_take (i := 17) (oi := ⟨some 40, _, _, _, _, _⟩) (v := ?_) rfl (by kernel_rfl) (by kernel_rfl) (by kernel_rfl) (fun _ _ _ h => h) (Or.inl ⟨by rfl, ?_⟩) (by assumption) ?_
    rotate_left
    · (intro w' hSw; clear hSw; go_simp; try (with_reducible rfl))
    (try simp only [Act.put, List.setIfInBounds_toArray, List.set_cons_zero, List.set_cons_succ])
    refine wpAnyH_ready (rs := [18]) (by kernel_rfl) (by simp) ?_
    refine AllReadyH.cons (o := ⟨some 11, _, _, _, _, _⟩) rfl (fun K hK => ?_) AllReadyH.nil
    refine wp_alloc_any 28 (sp3 (0, 0, 0)) (by kernel_rfl) (fun g W' hg hA hbA => ?_)
    have hgN := Nat.le_trans hHeld.size hg
    refine hK.out _ _ (b_cl hHeld (Nat.le_refl _) hbA) (fun hHeld => ?_)
    clear hK K hbA hg
    (try simp only [Act.put, List.setIfInBounds_toArray, List.set_cons_zero, List.set_cons_succ])
    refine wpAnyH_ready (rs := [19]) (by kernel_rfl) (by simp) ?_
    refine AllReadyH.cons (o := ⟨none, _, _, _, _, _⟩) rfl (fun K hK => ?_) AllReadyH.nil
    refine wp_store_any 28 _ _ rfl g (sp3 (1, q, r)) rfl rfl 28 (sp3 (0, 0, 0)) hA (by kernel_rfl) rfl (one3 _ _ _) (fun W' u => ?_)
    refine hK.out _ _ (hHeld.trans (u.bel _ hgN)) (fun hHeld => ?_)
    clear hK K
    (try simp only [Act.put])
    refine wpAnyH_take (i := 20) (oi := ⟨some 12, _, _, _, _, _⟩) (v := ?_) rfl (by kernel_rfl) (by kernel_rfl) (by kernel_rfl) (fun _ _ _ h => h) (Or.inl ⟨by rfl, ?_⟩) (by assumption) ?_
    rotate_left
    · (intro w' hSw; clear hSw; go_simp; try (with_reducible rfl))
    (try simp only [Act.put, List.setIfInBounds_toArray, List.set_cons_zero, List.set_cons_succ])
    refine wpAnyH_take (i := 21) (oi := ⟨some 13, _, _, _, _, _⟩) (v := ?_) rfl (by kernel_rfl) (by kernel_rfl) (by kernel_rfl) (fun _ _ _ h => h) (Or.inl ⟨by rfl, ?_⟩) (by assumption) ?_
    rotate_left
    · (intro w' hSw; clear hSw; go_simp; try (with_reducible rfl))
    (try simp only [Act.put, List.setIfInBounds_toArray, List.set_cons_zero, List.set_cons_succ])
    refine wpAnyH_done (by kernel_rfl) ?_ _
    refine NoPanic.normal ?_
    have XR1 := XR.keep hHeld XR.lt
    have XS1 := XS.keep hHeld XS.lt
    have XP1 := XP.keep hHeld XP.lt
    have XG1 := u.box
    have s0 : W'.cell? ⟨w.heap.size + 1, 0, none⟩ = some (.int .i64 (i : Int)) := XS1.cell rfl
    have s1 : W'.cell? ⟨g, 0, none⟩ = some (.int .i64 (1)) := XG1.cell rfl
    have s2 : W'.cell? ⟨g, 1, none⟩ = some (.int .i64 (q)) := XG1.cell rfl
    have s3 : W'.cell? ⟨g, 2, none⟩ = some (.int .i64 (r)) := XG1.cell rfl
    have t19 := XR1.rlT
    have HB1 := Lib.hid (b_cl B0 (Nat.le_refl _) hHeld)
    have hlt := XP1.lt
    have HK1 := Lib.hid (HK.out.below hHeld)
    go_wp2_with (first
      | go_skip
      | refine wpList_slice_tkL (by rfl) A n c (i + 1) (n - (i + 1)) ((i : Int) + 1) rfl rfl rfl (by simp) (by omega) (by omega) ?_
      | (go_at_call 43; refine (CB _ (HD.out _ HK1.out)).mono ?_; rintro e w2 ⟨rfl, hb2⟩; have XP2 := XP1.below hb2; have HB2 := Lib.hid (b_cl HB1.out (Nat.le_refl _) hb2); have hle2 := HB2.out.size)
      | (refine wpList_store_box rfl 28 _ _ rfl w2.heap.size (sp3 (p1, p2, p3)) rfl rfl 28 (sp3 (0, 0, 0)) (Bx.new (W := w2) 28 (sp3 (0, 0, 0)) rfl) (by kernel_rfl) rfl (one3 _ _ _) (fun w3 u3 => ?_); have XG3 := u3.box; have r0 : w3.cell? ⟨w2.heap.size, 0, none⟩ = some (.int .i64 p1) := XG3.cell rfl; have XP3 := XP2.below ((b_al (Below.refl w2.heap.size w2) (Nat.le_refl _) _).trans (u3.bel _ (Nat.le_refl _))); have HB3 := Lib.hid (b_cl HB2.out (Nat.le_refl _) ((b_al (Below.refl w2.heap.size w2) (Nat.le_refl _) _).trans (u3.bel _ (Nat.le_refl _)))))
      | refine wpList_build_as rfl 28 _ rfl (sp3 ((i : Int) + 1 + p1, 0, 0)) (by kernel_rfl) ?_
      | (refine wpList_store_box rfl 28 _ _ rfl (w.heap.size + 1 + 1) (sp3 ((i : Int) + 1 + p1, 0, 0)) rfl rfl 28 (sp3 (0, 0, 0)) (XP3) (by kernel_rfl) rfl (one3 _ _ _) (fun w9 u9 => ?_); have XP9 := u9.box; have HB9 := Lib.hid (HB3.out.trans (u9.bel _ (by omega)))))
    refine bodyPost_ret (v := .tuple #[.agg (sp3 ((i : Int) + 1 + p1, 0, 0)), .bool true]) (results_box2 Try.results30 _ _ (w.heap.size + 1 + 1) 28 (sp3 ((i : Int) + 1 + p1, 0, 0)) _ _ rfl XP9 rfl Try.underlying28 rfl (by kernel_rfl)) rfl ⟨rfl, ?_⟩
    exact HB9.out
  ·
    refine wp_alloc_any 28 (sp3 (0, 0, 0)) (by kernel_rfl) (fun g W' hg hA hbA => ?_)
    have hgN := Nat.le_trans hHeld.size hg
    refine hK.out _ _ (b_cl hHeld (Nat.le_refl _) hbA) (fun hHeld => ?_)
    clear hK K hbA hg
    (try simp only [Act.put, List.setIfInBounds_toArray, List.set_cons_zero, List.set_cons_succ])
    refine wpAnyH_ready (rs := [13]) (by kernel_rfl) (by simp) ?_
    refine AllReadyH.cons (o := ⟨some 37, _, _, _, _, _⟩) rfl (fun K hK => ?_) AllReadyH.nil
    go_simp
    (go_at_call 42; refine (CS _ (HA.out _ (HK.out.below hHeld))).mono ?_; rintro e w1 ⟨rfl, hb1⟩)
    go_wp2_with fail
    refine hK.out _ _ (b_cl hHeld (Nat.le_refl _) (by assumption)) (fun hHeld => ?_)
    replace hA := hA.below (by assumption)
    clear hK K
    (try simp only [Act.put, List.setIfInBounds_toArray, List.set_cons_zero, List.set_cons_succ])
    refine wpAnyH_take (i := 14) (oi := ⟨some 23, _, _, _, _, _⟩) (v := ?_) rfl (by kernel_rfl) (by kernel_rfl) (by kernel_rfl) (fun _ _ _ h => h) (Or.inl ⟨by rfl, ?_⟩) (by assumption) ?_
    rotate_left
    · (intro w' hSw; clear hSw; go_simp; try (with_reducible rfl))
    (try simp only [Act.put, List.setIfInBounds_toArray, List.set_cons_zero, List.set_cons_succ])
    refine wpAnyH_take (i := 15) (oi := ⟨some 38, _, _, _, _, _⟩) (v := ?_) rfl (by kernel_rfl) (by kernel_rfl) (by kernel_rfl) (fun _ _ _ h => h) (Or.inl ⟨by rfl, ?_⟩) (by assumption) ?_
    rotate_left
    · (intro w' hSw; clear hSw; go_simp; try (with_reducible rfl))
    (try simp only [Act.put, List.setIfInBounds_toArray, List.set_cons_zero, List.set_cons_succ])
    refine wpAnyH_take (i := 16) (oi := ⟨some 39, _, _, _, _, _⟩) (v := ?_) rfl (by kernel_rfl) (by kernel_rfl) (by kernel_rfl) (fun _ _ _ h => h) (Or.inl ⟨by rfl, ?_⟩) (by assumption) ?_
    rotate_left
    · (intro w' hSw; clear hSw; go_simp; try (with_reducible rfl))
    (try simp only [Act.put, List.setIfInBounds_toArray, List.set_cons_zero, List.set_cons_succ])
    refine wpAnyH_take (i := 17) (oi := ⟨some 40, _, _, _, _, _⟩) (v := ?_) rfl (by kernel_rfl) (by kernel_rfl) (by kernel_rfl) (fun _ _ _ h => h) (Or.inl ⟨by rfl, ?_⟩) (by assumption) ?_
    rotate_left
    · (intro w' hSw; clear hSw; go_simp; try (with_reducible rfl))
    (try simp only [Act.put, List.setIfInBounds_toArray, List.set_cons_zero, List.set_cons_succ])
    refine wpAnyH_ready (rs := [19]) (by kernel_rfl) (by simp) ?_
    refine AllReadyH.cons (o := ⟨none, _, _, _, _, _⟩) rfl (fun K hK => ?_) AllReadyH.nil
    refine wp_store_any 28 _ _ rfl g (sp3 (1, q, r)) rfl rfl 28 (sp3 (0, 0, 0)) hA (by kernel_rfl) rfl (one3 _ _ _) (fun W' u => ?_)
    refine hK.out _ _ (hHeld.trans (u.bel _ hgN)) (fun hHeld => ?_)
    clear hK K
    (try simp only [Act.put])
    refine wpAnyH_take (i := 20) (oi := ⟨some 12, _, _, _, _, _⟩) (v := ?_) rfl (by kernel_rfl) (by kernel_rfl) (by kernel_rfl) (fun _ _ _ h => h) (Or.inl ⟨by rfl, ?_⟩) (by assumption) ?_
    rotate_left
    · (intro w' hSw; clear hSw; go_simp; try (with_reducible rfl))
    (try simp only [Act.put, List.setIfInBounds_toArray, List.set_cons_zero, List.set_cons_succ])
    refine wpAnyH_take (i := 21) (oi := ⟨some 13, _, _, _, _, _⟩) (v := ?_) rfl (by kernel_rfl) (by kernel_rfl) (by kernel_rfl) (fun _ _ _ h => h) (Or.inl ⟨by rfl, ?_⟩) (by assumption) ?_
    rotate_left
    · (intro w' hSw; clear hSw; go_simp; try (with_reducible rfl))
    (try simp only [Act.put, List.setIfInBounds_toArray, List.set_cons_zero, List.set_cons_succ])
    refine wpAnyH_done (by kernel_rfl) ?_ _
    refine NoPanic.normal ?_
    have XR1 := XR.keep hHeld XR.lt
    have XS1 := XS.keep hHeld XS.lt
    have XP1 := XP.keep hHeld XP.lt
    have XG1 := u.box
    have s0 : W'.cell? ⟨w.heap.size + 1, 0, none⟩ = some (.int .i64 (i : Int)) := XS1.cell rfl
    have s1 : W'.cell? ⟨g, 0, none⟩ = some (.int .i64 (1)) := XG1.cell rfl
    have s2 : W'.cell? ⟨g, 1, none⟩ = some (.int .i64 (q)) := XG1.cell rfl
    have s3 : W'.cell? ⟨g, 2, none⟩ = some (.int .i64 (r)) := XG1.cell rfl
    have t19 := XR1.rlT
    have HB1 := Lib.hid (b_cl B0 (Nat.le_refl _) hHeld)
    have hlt := XP1.lt
    have HK1 := Lib.hid (HK.out.below hHeld)
    go_wp2_with (first
      | go_skip
      | refine wpList_slice_tkL (by rfl) A n c (i + 1) (n - (i + 1)) ((i : Int) + 1) rfl rfl rfl (by simp) (by omega) (by omega) ?_
      | (go_at_call 43; refine (CB _ (HD.out _ HK1.out)).mono ?_; rintro e w2 ⟨rfl, hb2⟩; have XP2 := XP1.below hb2; have HB2 := Lib.hid (b_cl HB1.out (Nat.le_refl _) hb2); have hle2 := HB2.out.size)
      | (refine wpList_store_box rfl 28 _ _ rfl w2.heap.size (sp3 (p1, p2, p3)) rfl rfl 28 (sp3 (0, 0, 0)) (Bx.new (W := w2) 28 (sp3 (0, 0, 0)) rfl) (by kernel_rfl) rfl (one3 _ _ _) (fun w3 u3 => ?_); have XG3 := u3.box; have r0 : w3.cell? ⟨w2.heap.size, 0, none⟩ = some (.int .i64 p1) := XG3.cell rfl; have XP3 := XP2.below ((b_al (Below.refl w2.heap.size w2) (Nat.le_refl _) _).trans (u3.bel _ (Nat.le_refl _))); have HB3 := Lib.hid (b_cl HB2.out (Nat.le_refl _) ((b_al (Below.refl w2.heap.size w2) (Nat.le_refl _) _).trans (u3.bel _ (Nat.le_refl _)))))
      | refine wpList_build_as rfl 28 _ rfl (sp3 ((i : Int) + 1 + p1, 0, 0)) (by kernel_rfl) ?_
      | (refine wpList_store_box rfl 28 _ _ rfl (w.heap.size + 1 + 1) (sp3 ((i : Int) + 1 + p1, 0, 0)) rfl rfl 28 (sp3 (0, 0, 0)) (XP3) (by kernel_rfl) rfl (one3 _ _ _) (fun w9 u9 => ?_); have XP9 := u9.box; have HB9 := Lib.hid (HB3.out.trans (u9.bel _ (by omega)))))
    refine bodyPost_ret (v := .tuple #[.agg (sp3 ((i : Int) + 1 + p1, 0, 0)), .bool true]) (results_box2 Try.results30 _ _ (w.heap.size + 1 + 1) 28 (sp3 ((i : Int) + 1 + p1, 0, 0)) _ _ rfl XP9 rfl Try.underlying28 rfl (by kernel_rfl)) rfl ⟨rfl, ?_⟩
    exact HB9.out

set_option maxRecDepth 100000 in
set_option maxHeartbeats 4000000 in
theorem turn_end (x : Nat → Int) (A : Option Addr) (n c : Nat) (l : List Tk) (hn : l.length = n) (i : Nat) (y z m k : Int) (w : World) (h : RdK w A l) (few : Few l) (hcn : n ≤ c) (hl : n ≤ 2001) (ck : checkT l = 0) (fit : Fits l ((i : Int), y, z)) (hm : 0 ≤ m ∧ m ≤ 40319) (hk : 0 ≤ k ∧ k ≤ 3) (hy : 0 ≤ y ∧ y ≤ 10080) (hz : 0 ≤ z ∧ z ≤ 1440) (hi : i = l.length) (hfr : freeT l ((i : Int), y, z) m k = true) :
    Calls Try.prog 30 #[.agg (rl x A n c), .agg (sp3 ((i : Int), y, z)), .int .i64 m, .int .i64 k] w fun e w' => e = .returned (.tuple #[.agg (sp3 (stepT l ((i : Int), y, z) k)), .bool true]) ∧ Below w.heap.size w w' := by
  have XR : Bx (((w.alloc (.cells (rl x A n c) 63)).alloc (.cells (sp3 ((i : Int), y, z)) 28)).alloc (.cells (#[.int .i64 0, .int .i64 0, .int .i64 0]) 28)) (w.heap.size) 63 (rl x A n c) := ((Bx.new (W := w) _ _ (by simp)).alloc _).alloc _
  have XS : Bx (((w.alloc (.cells (rl x A n c) 63)).alloc (.cells (sp3 ((i : Int), y, z)) 28)).alloc (.cells (#[.int .i64 0, .int .i64 0, .int .i64 0]) 28)) (w.heap.size + 1) 28 (sp3 ((i : Int), y, z)) := (Bx.new (W := (w.alloc (.cells (rl x A n c) 63))) _ _ (by simp)).alloc _
  have XP : Bx (((w.alloc (.cells (rl x A n c) 63)).alloc (.cells (sp3 ((i : Int), y, z)) 28)).alloc (.cells (#[.int .i64 0, .int .i64 0, .int .i64 0]) 28)) (w.heap.size + 1 + 1) 28 (#[.int .i64 0, .int .i64 0, .int .i64 0]) := (Bx.new (W := ((w.alloc (.cells (rl x A n c) 63)).alloc (.cells (sp3 ((i : Int), y, z)) 28))) _ _ (by simp))
  have B0 : Below w.heap.size w (((w.alloc (.cells (rl x A n c) 63)).alloc (.cells (sp3 ((i : Int), y, z)) 28)).alloc (.cells (#[.int .i64 0, .int .i64 0, .int .i64 0]) 28)) := b_al (b_al (b_al (Below.refl _ _) (Nat.le_refl _) _) (Nat.le_refl _) _) (Nat.le_refl _) _
  have HK := Lib.hid (h.below B0)
  have CS := fun W (h : RdK W (advK A c i) (partT l i)) => step19_any (advK A c i) (n - i) (c - i) (partT l i) (by unfold partT; simp; omega) 0 y z m k W h (partT_few few i) (by omega) (by omega) (by omega)
  have es : stepV (partT l i) (0, y, z) m k = (stepT (partT l i) (0, y, z) k, setT (partT l i) (0, y, z) m k, 0) := by
    have e0 : stepE (partT l i) (0, y, z) m k = 0 := by
      unfold stepE
      rw [if_pos (spot_yes (check_part ck i) (part_fits fit)), if_pos (by omega), if_pos (by omega)]
    unfold stepV
    rw [if_pos e0]
  rw [es] at CS
  clear es
  rw [setT_free ((part_free (l := l) (i := i)).trans hfr)] at CS
  obtain ⟨he, ht, hy0, hz0⟩ := part_step_end (k := k) fit hi
  rw [he] at CS
  have ht' : stepT l ((i : Int), y, z) k = ((n : Int), 0, 0) := by rw [ht, show ((i : Nat) : Int) = (n : Int) by omega]
  rw [ht']
  clear ht' hy0 hz0
  have CB := fun W (h : RdK W (advK A c (n)) (l.drop (n))) => start19_any (advK A c (n)) (0) (c - (n)) (l.drop (n)) (by simp; omega) W h (drop_few few _)
  rw [start_ok (check_drop ck _), check_drop ck _] at CB
  have ed : pastT (l.drop n) (0, 0, 0) = (0, 0, 0) := by rw [List.drop_eq_nil_iff.2 (by omega)]; rfl
  rw [ed] at CB
  clear ed
  have q0 : (((w.alloc (.cells (rl x A n c) 63)).alloc (.cells (sp3 ((i : Int), y, z)) 28)).alloc (.cells (#[.int .i64 0, .int .i64 0, .int .i64 0]) 28)).cell? ⟨w.heap.size + 1, 0, none⟩ = some (.int .i64 (i : Int)) := XS.cell rfl
  have q19 := XR.rlT
  have g1 : (n : Int) < (i : Int) + 1 := by omega
  have HC := Lib.hid hcn
  have HA := Lib.hid (show ∀ W, RdK W A l → RdK W (advK A c i) (partT l i) from fun W h => h.part (by omega))
  have HD := Lib.hid (show ∀ W, RdK W A l → RdK W (advK A c (n)) (l.drop (n)) from fun W h => h.dropI (by omega))
  have hin : i ≤ n := by omega
  clear h few fit hm hy hz ck hi hfr hn
  clear ht
  clear he
  go_enter Try.func30, Try.ntmps30
  have emin : min ((i : Int) + 1) (n : Int) = (n : Int) := by omega
  go_upto_region 2 with fail
  (try go_frame)
  clear emin
  clear q0 q19
  generalize (((w.alloc (.cells (rl x A n c) 63)).alloc (.cells (sp3 ((i : Int), y, z)) 28)).alloc (.cells (#[.int .i64 0, .int .i64 0, .int .i64 0]) 28)) = w0 at *
  refine wp_region_noPanic ?_
  refine wp_region_held_drew (S := fun w' => Below w0.heap.size w0 w') (by kernel_rfl) ?_ (fun hHeld => ?_)
  · exact b_dr (Below.refl _ _)
  refine wpAnyH_take (i := 0) (oi := ⟨some 24, _, _, _, _, _⟩) (v := ?_) rfl (by kernel_rfl) (by kernel_rfl) (by kernel_rfl) (fun _ _ _ h => h) (Or.inl ⟨by rfl, ?_⟩) (by assumption) ?_
  rotate_left
  · (intro w' hSw; clear hSw; go_simp; try (with_reducible rfl))
  (try simp only [Act.put, List.setIfInBounds_toArray, List.set_cons_zero, List.set_cons_succ])
  refine wpAnyH_take (i := 1) (oi := ⟨some 25, _, _, _, _, _⟩) (v := ?_) rfl (by kernel_rfl) (by kernel_rfl) (by kernel_rfl) (fun _ _ _ h => h) (Or.inl ⟨by rfl, ?_⟩) (by assumption) ?_
  rotate_left
  · (intro w' hSw; have q := (XR.keep hSw XR.lt).rlT; clear hSw; go_simp; try (with_reducible rfl))
  (try simp only [Act.put, List.setIfInBounds_toArray, List.set_cons_zero, List.set_cons_succ])
  refine wpAnyH_take (i := 2) (oi := ⟨some 26, _, _, _, _, _⟩) (v := ?_) rfl (by kernel_rfl) (by kernel_rfl) (by kernel_rfl) (fun _ _ _ h => h) (Or.inl ⟨by rfl, ?_⟩) (by assumption) ?_
  rotate_left
  · (intro w' hSw; clear hSw; go_simp; try (with_reducible rfl))
  (try simp only [Act.put, List.setIfInBounds_toArray, List.set_cons_zero, List.set_cons_succ])
  refine wpAnyH_take (i := 3) (oi := ⟨some 27, _, _, _, _, _⟩) (v := ?_) rfl (by kernel_rfl) (by kernel_rfl) (by kernel_rfl) (fun _ _ _ h => h) (Or.inl ⟨by rfl, ?_⟩) (by assumption) ?_
  rotate_left
  · (intro w' hSw; have q : w'.cell? ⟨w.heap.size + 1, 0, none⟩ = some (.int .i64 (i : Int)) := (XS.keep hSw XS.lt).cell rfl; clear hSw; go_simp; try (with_reducible rfl))
  (try simp only [Act.put, List.setIfInBounds_toArray, List.set_cons_zero, List.set_cons_succ])
  refine wpAnyH_take (i := 4) (oi := ⟨some 28, _, _, _, _, _⟩) (v := ?_) rfl (by kernel_rfl) (by kernel_rfl) (by kernel_rfl) (fun _ _ _ h => h) (Or.inl ⟨by rfl, ?_⟩) (by assumption) ?_
  rotate_left
  · (intro w' hSw; clear hSw; go_simp; try (with_reducible rfl))
  (try simp only [Act.put, List.setIfInBounds_toArray, List.set_cons_zero, List.set_cons_succ])
  refine wpAnyH_take (i := 5) (oi := ⟨some 29, _, _, _, _, _⟩) (v := .slice (advK A c i) (n - i) (c - i)) rfl (by kernel_rfl) (by kernel_rfl) (by kernel_rfl) (fun _ _ _ h => h) (Or.inl ⟨by rfl, fun w' hSw => exec_slice_tk A n c i (n) (n - i) w' ((i : Nat) : Int) ((n : Int)) rfl rfl rfl rfl rfl (by simp) (by omega) (by have := HC.out; omega) (by omega)⟩) (by assumption) ?_
  (try simp only [Act.put, List.setIfInBounds_toArray, List.set_cons_zero, List.set_cons_succ])
  refine wpAnyH_take (i := 6) (oi := ⟨some 30, _, _, _, _, _⟩) (v := ?_) rfl (by kernel_rfl) (by kernel_rfl) (by kernel_rfl) (fun _ _ _ h => h) (Or.inl ⟨by rfl, ?_⟩) (by assumption) ?_
  rotate_left
  · (intro w' hSw; clear hSw; go_simp; try (with_reducible rfl))
  (try simp only [Act.put, List.setIfInBounds_toArray, List.set_cons_zero, List.set_cons_succ])
  refine wpAnyH_take (i := 7) (oi := ⟨some 31, _, _, _, _, _⟩) (v := ?_) rfl (by kernel_rfl) (by kernel_rfl) (by kernel_rfl) (fun _ _ _ h => h) (Or.inl ⟨by rfl, ?_⟩) (by assumption) ?_
  rotate_left
  · (intro w' hSw; have q : w'.cell? ⟨w.heap.size + 1, 1, none⟩ = some (.int .i64 y) := (XS.keep hSw XS.lt).cell rfl; clear hSw; go_simp; try (with_reducible rfl))
  (try simp only [Act.put, List.setIfInBounds_toArray, List.set_cons_zero, List.set_cons_succ])
  refine wpAnyH_take (i := 8) (oi := ⟨some 32, _, _, _, _, _⟩) (v := ?_) rfl (by kernel_rfl) (by kernel_rfl) (by kernel_rfl) (fun _ _ _ h => h) (Or.inl ⟨by rfl, ?_⟩) (by assumption) ?_
  rotate_left
  · (intro w' hSw; clear hSw; go_simp; try (with_reducible rfl))
  (try simp only [Act.put, List.setIfInBounds_toArray, List.set_cons_zero, List.set_cons_succ])
  refine wpAnyH_take (i := 9) (oi := ⟨some 33, _, _, _, _, _⟩) (v := ?_) rfl (by kernel_rfl) (by kernel_rfl) (by kernel_rfl) (fun _ _ _ h => h) (Or.inl ⟨by rfl, ?_⟩) (by assumption) ?_
  rotate_left
  · (intro w' hSw; have q : w'.cell? ⟨w.heap.size + 1, 2, none⟩ = some (.int .i64 z) := (XS.keep hSw XS.lt).cell rfl; clear hSw; go_simp; try (with_reducible rfl))
  (try simp only [Act.put, List.setIfInBounds_toArray, List.set_cons_zero, List.set_cons_succ])
  refine wpAnyH_take (i := 10) (oi := ⟨some 34, _, _, _, _, _⟩) (v := .agg (sp3 (0, y, z))) rfl (by kernel_rfl) (by kernel_rfl) (by kernel_rfl) (fun _ _ _ h => h) (Or.inl ⟨by rfl, fun w' hSw => exec_build (sp3 (0, y, z)) w' rfl (by kernel_rfl)⟩) (by assumption) ?_
  (try simp only [Act.put, List.setIfInBounds_toArray, List.set_cons_zero, List.set_cons_succ])
  refine wpAnyH_take (i := 11) (oi := ⟨some 35, _, _, _, _, _⟩) (v := ?_) rfl (by kernel_rfl) (by kernel_rfl) (by kernel_rfl) (fun _ _ _ h => h) (Or.inl ⟨by rfl, ?_⟩) (by assumption) ?_
  rotate_left
  · (intro w' hSw; clear hSw; go_simp; try (with_reducible rfl))
  (try simp only [Act.put, List.setIfInBounds_toArray, List.set_cons_zero, List.set_cons_succ])
  refine wpAnyH_take (i := 12) (oi := ⟨some 36, _, _, _, _, _⟩) (v := ?_) rfl (by kernel_rfl) (by kernel_rfl) (by kernel_rfl) (fun _ _ _ h => h) (Or.inl ⟨by rfl, ?_⟩) (by assumption) ?_
  rotate_left
  · (intro w' hSw; clear hSw; go_simp; try (with_reducible rfl))
  (try simp only [Act.put, List.setIfInBounds_toArray, List.set_cons_zero, List.set_cons_succ])
  refine wpAnyH_ready (rs := [13, 18]) (by kernel_rfl) (by simp) ?_
  refine AllReadyH.cons (o := ⟨some 37, _, _, _, _, _⟩) rfl (fun K hK => ?_) (AllReadyH.cons (o := ⟨some 11, _, _, _, _, _⟩) rfl (fun K hK => ?_) AllReadyH.nil)
  ·
    go_simp
    (go_at_call 42; refine (CS _ (HA.out _ (HK.out.below hHeld))).mono ?_; rintro e w1 ⟨rfl, hb1⟩)
    go_wp2_with fail
    refine hK.out _ _ (b_cl hHeld (Nat.le_refl _) (by assumption)) (fun hHeld => ?_)
    clear hK K
    (try simp only [Act.put, List.setIfInBounds_toArray, List.set_cons_zero, List.set_cons_succ])
    refine wpAnyH_take (i := 14) (oi := ⟨some 23, _, _, _, _, _⟩) (v := ?_) rfl (by kernel_rfl) (by kernel_rfl) (by kernel_rfl) (fun _ _ _ h => h) (Or.inl ⟨by rfl, ?_⟩) (by assumption) ?_
    rotate_left
    · (intro w' hSw; clear hSw; go_simp; try (with_reducible rfl))
    (try simp only [Act.put, List.setIfInBounds_toArray, List.set_cons_zero, List.set_cons_succ])
    refine wpAnyH_take (i := 15) (oi := ⟨some 38, _, _, _, _, _⟩) (v := ?_) rfl (by kernel_rfl) (by kernel_rfl) (by kernel_rfl) (fun _ _ _ h => h) (Or.inl ⟨by rfl, ?_⟩) (by assumption) ?_
    rotate_left
    · (intro w' hSw; clear hSw; go_simp; try (with_reducible rfl))
    (try simp only [Act.put, List.setIfInBounds_toArray, List.set_cons_zero, List.set_cons_succ])
    refine wpAnyH_take (i := 16) (oi := ⟨some 39, _, _, _, _, _⟩) (v := ?_) rfl (by kernel_rfl) (by kernel_rfl) (by kernel_rfl) (fun _ _ _ h => h) (Or.inl ⟨by rfl, ?_⟩) (by assumption) ?_
    rotate_left
    · (intro w' hSw; clear hSw; go_simp; try (with_reducible rfl))
    (try simp only [Act.put, List.setIfInBounds_toArray, List.set_cons_zero, List.set_cons_succ])
    refine wpAnyH_take (i := 17) (oi := ⟨some 40, _, _, _, _, _⟩) (v := ?_) rfl (by kernel_rfl) (by kernel_rfl) (by kernel_rfl) (fun _ _ _ h => h) (Or.inl ⟨by rfl, ?_⟩) (by assumption) ?_
    rotate_left
    · (intro w' hSw; clear hSw; go_simp; try (with_reducible rfl))
    (try simp only [Act.put, List.setIfInBounds_toArray, List.set_cons_zero, List.set_cons_succ])
    refine wpAnyH_ready (rs := [18]) (by kernel_rfl) (by simp) ?_
    refine AllReadyH.cons (o := ⟨some 11, _, _, _, _, _⟩) rfl (fun K hK => ?_) AllReadyH.nil
    refine wp_alloc_any 28 (sp3 (0, 0, 0)) (by kernel_rfl) (fun g W' hg hA hbA => ?_)
    have hgN := Nat.le_trans hHeld.size hg
    refine hK.out _ _ (b_cl hHeld (Nat.le_refl _) hbA) (fun hHeld => ?_)
    clear hK K hbA hg
    (try simp only [Act.put, List.setIfInBounds_toArray, List.set_cons_zero, List.set_cons_succ])
    refine wpAnyH_ready (rs := [19]) (by kernel_rfl) (by simp) ?_
    refine AllReadyH.cons (o := ⟨none, _, _, _, _, _⟩) rfl (fun K hK => ?_) AllReadyH.nil
    refine wp_store_any 28 _ _ rfl g (sp3 (0, 0, 0)) rfl rfl 28 (sp3 (0, 0, 0)) hA (by kernel_rfl) rfl (one3 _ _ _) (fun W' u => ?_)
    refine hK.out _ _ (hHeld.trans (u.bel _ hgN)) (fun hHeld => ?_)
    clear hK K
    (try simp only [Act.put])
    refine wpAnyH_take (i := 20) (oi := ⟨some 12, _, _, _, _, _⟩) (v := ?_) rfl (by kernel_rfl) (by kernel_rfl) (by kernel_rfl) (fun _ _ _ h => h) (Or.inl ⟨by rfl, ?_⟩) (by assumption) ?_
    rotate_left
    · (intro w' hSw; clear hSw; go_simp; try (with_reducible rfl))
    (try simp only [Act.put, List.setIfInBounds_toArray, List.set_cons_zero, List.set_cons_succ])
    refine wpAnyH_take (i := 21) (oi := ⟨some 13, _, _, _, _, _⟩) (v := ?_) rfl (by kernel_rfl) (by kernel_rfl) (by kernel_rfl) (fun _ _ _ h => h) (Or.inl ⟨by rfl, ?_⟩) (by assumption) ?_
    rotate_left
    · (intro w' hSw; clear hSw; go_simp; try (with_reducible rfl))
    (try simp only [Act.put, List.setIfInBounds_toArray, List.set_cons_zero, List.set_cons_succ])
    refine wpAnyH_done (by kernel_rfl) ?_ _
    refine NoPanic.normal ?_
    have XR1 := XR.keep hHeld XR.lt
    have XS1 := XS.keep hHeld XS.lt
    have XP1 := XP.keep hHeld XP.lt
    have XG1 := u.box
    have s0 : W'.cell? ⟨w.heap.size + 1, 0, none⟩ = some (.int .i64 (i : Int)) := XS1.cell rfl
    have s1 : W'.cell? ⟨g, 0, none⟩ = some (.int .i64 (0)) := XG1.cell rfl
    have s2 : W'.cell? ⟨g, 1, none⟩ = some (.int .i64 (0)) := XG1.cell rfl
    have s3 : W'.cell? ⟨g, 2, none⟩ = some (.int .i64 (0)) := XG1.cell rfl
    have t19 := XR1.rlT
    have HB1 := Lib.hid (b_cl B0 (Nat.le_refl _) hHeld)
    have hlt := XP1.lt
    have HK1 := Lib.hid (HK.out.below hHeld)
    go_wp2_with (first
      | go_skip
      | refine wpList_slice_tkL (by rfl) A n c (n) (0) ((n : Int)) rfl rfl rfl (by simp) (by omega) (by omega) ?_
      | (go_at_call 43; refine (CB _ (HD.out _ HK1.out)).mono ?_; rintro e w2 ⟨rfl, hb2⟩; have XP2 := XP1.below hb2; have HB2 := Lib.hid (b_cl HB1.out (Nat.le_refl _) hb2); have hle2 := HB2.out.size)
      | (refine wpList_store_box rfl 28 _ _ rfl w2.heap.size (sp3 (0, 0, 0)) rfl rfl 28 (sp3 (0, 0, 0)) (Bx.new (W := w2) 28 (sp3 (0, 0, 0)) rfl) (by kernel_rfl) rfl (one3 _ _ _) (fun w3 u3 => ?_); have XG3 := u3.box; have r0 : w3.cell? ⟨w2.heap.size, 0, none⟩ = some (.int .i64 0) := XG3.cell rfl; have XP3 := XP2.below ((b_al (Below.refl w2.heap.size w2) (Nat.le_refl _) _).trans (u3.bel _ (Nat.le_refl _))); have HB3 := Lib.hid (b_cl HB2.out (Nat.le_refl _) ((b_al (Below.refl w2.heap.size w2) (Nat.le_refl _) _).trans (u3.bel _ (Nat.le_refl _)))))
      | refine wpList_build_as rfl 28 _ rfl (sp3 ((n : Int), 0, 0)) (by kernel_rfl) ?_
      | (refine wpList_store_box rfl 28 _ _ rfl (w.heap.size + 1 + 1) (sp3 ((n : Int), 0, 0)) rfl rfl 28 (sp3 (0, 0, 0)) (XP3) (by kernel_rfl) rfl (one3 _ _ _) (fun w9 u9 => ?_); have XP9 := u9.box; have HB9 := Lib.hid (HB3.out.trans (u9.bel _ (by omega)))))
    refine bodyPost_ret (v := .tuple #[.agg (sp3 ((n : Int), 0, 0)), .bool true]) (results_box2 Try.results30 _ _ (w.heap.size + 1 + 1) 28 (sp3 ((n : Int), 0, 0)) _ _ rfl XP9 rfl Try.underlying28 rfl (by kernel_rfl)) rfl ⟨rfl, ?_⟩
    exact HB9.out
  ·
    refine wp_alloc_any 28 (sp3 (0, 0, 0)) (by kernel_rfl) (fun g W' hg hA hbA => ?_)
    have hgN := Nat.le_trans hHeld.size hg
    refine hK.out _ _ (b_cl hHeld (Nat.le_refl _) hbA) (fun hHeld => ?_)
    clear hK K hbA hg
    (try simp only [Act.put, List.setIfInBounds_toArray, List.set_cons_zero, List.set_cons_succ])
    refine wpAnyH_ready (rs := [13]) (by kernel_rfl) (by simp) ?_
    refine AllReadyH.cons (o := ⟨some 37, _, _, _, _, _⟩) rfl (fun K hK => ?_) AllReadyH.nil
    go_simp
    (go_at_call 42; refine (CS _ (HA.out _ (HK.out.below hHeld))).mono ?_; rintro e w1 ⟨rfl, hb1⟩)
    go_wp2_with fail
    refine hK.out _ _ (b_cl hHeld (Nat.le_refl _) (by assumption)) (fun hHeld => ?_)
    replace hA := hA.below (by assumption)
    clear hK K
    (try simp only [Act.put, List.setIfInBounds_toArray, List.set_cons_zero, List.set_cons_succ])
    refine wpAnyH_take (i := 14) (oi := ⟨some 23, _, _, _, _, _⟩) (v := ?_) rfl (by kernel_rfl) (by kernel_rfl) (by kernel_rfl) (fun _ _ _ h => h) (Or.inl ⟨by rfl, ?_⟩) (by assumption) ?_
    rotate_left
    · (intro w' hSw; clear hSw; go_simp; try (with_reducible rfl))
    (try simp only [Act.put, List.setIfInBounds_toArray, List.set_cons_zero, List.set_cons_succ])
    refine wpAnyH_take (i := 15) (oi := ⟨some 38, _, _, _, _, _⟩) (v := ?_) rfl (by kernel_rfl) (by kernel_rfl) (by kernel_rfl) (fun _ _ _ h => h) (Or.inl ⟨by rfl, ?_⟩) (by assumption) ?_
    rotate_left
    · (intro w' hSw; clear hSw; go_simp; try (with_reducible rfl))
    (try simp only [Act.put, List.setIfInBounds_toArray, List.set_cons_zero, List.set_cons_succ])
    refine wpAnyH_take (i := 16) (oi := ⟨some 39, _, _, _, _, _⟩) (v := ?_) rfl (by kernel_rfl) (by kernel_rfl) (by kernel_rfl) (fun _ _ _ h => h) (Or.inl ⟨by rfl, ?_⟩) (by assumption) ?_
    rotate_left
    · (intro w' hSw; clear hSw; go_simp; try (with_reducible rfl))
    (try simp only [Act.put, List.setIfInBounds_toArray, List.set_cons_zero, List.set_cons_succ])
    refine wpAnyH_take (i := 17) (oi := ⟨some 40, _, _, _, _, _⟩) (v := ?_) rfl (by kernel_rfl) (by kernel_rfl) (by kernel_rfl) (fun _ _ _ h => h) (Or.inl ⟨by rfl, ?_⟩) (by assumption) ?_
    rotate_left
    · (intro w' hSw; clear hSw; go_simp; try (with_reducible rfl))
    (try simp only [Act.put, List.setIfInBounds_toArray, List.set_cons_zero, List.set_cons_succ])
    refine wpAnyH_ready (rs := [19]) (by kernel_rfl) (by simp) ?_
    refine AllReadyH.cons (o := ⟨none, _, _, _, _, _⟩) rfl (fun K hK => ?_) AllReadyH.nil
    refine wp_store_any 28 _ _ rfl g (sp3 (0, 0, 0)) rfl rfl 28 (sp3 (0, 0, 0)) hA (by kernel_rfl) rfl (one3 _ _ _) (fun W' u => ?_)
    refine hK.out _ _ (hHeld.trans (u.bel _ hgN)) (fun hHeld => ?_)
    clear hK K
    (try simp only [Act.put])
    refine wpAnyH_take (i := 20) (oi := ⟨some 12, _, _, _, _, _⟩) (v := ?_) rfl (by kernel_rfl) (by kernel_rfl) (by kernel_rfl) (fun _ _ _ h => h) (Or.inl ⟨by rfl, ?_⟩) (by assumption) ?_
    rotate_left
    · (intro w' hSw; clear hSw; go_simp; try (with_reducible rfl))
    (try simp only [Act.put, List.setIfInBounds_toArray, List.set_cons_zero, List.set_cons_succ])
    refine wpAnyH_take (i := 21) (oi := ⟨some 13, _, _, _, _, _⟩) (v := ?_) rfl (by kernel_rfl) (by kernel_rfl) (by kernel_rfl) (fun _ _ _ h => h) (Or.inl ⟨by rfl, ?_⟩) (by assumption) ?_
    rotate_left
    · (intro w' hSw; clear hSw; go_simp; try (with_reducible rfl))
    (try simp only [Act.put, List.setIfInBounds_toArray, List.set_cons_zero, List.set_cons_succ])
    refine wpAnyH_done (by kernel_rfl) ?_ _
    refine NoPanic.normal ?_
    have XR1 := XR.keep hHeld XR.lt
    have XS1 := XS.keep hHeld XS.lt
    have XP1 := XP.keep hHeld XP.lt
    have XG1 := u.box
    have s0 : W'.cell? ⟨w.heap.size + 1, 0, none⟩ = some (.int .i64 (i : Int)) := XS1.cell rfl
    have s1 : W'.cell? ⟨g, 0, none⟩ = some (.int .i64 (0)) := XG1.cell rfl
    have s2 : W'.cell? ⟨g, 1, none⟩ = some (.int .i64 (0)) := XG1.cell rfl
    have s3 : W'.cell? ⟨g, 2, none⟩ = some (.int .i64 (0)) := XG1.cell rfl
    have t19 := XR1.rlT
    have HB1 := Lib.hid (b_cl B0 (Nat.le_refl _) hHeld)
    have hlt := XP1.lt
    have HK1 := Lib.hid (HK.out.below hHeld)
    go_wp2_with (first
      | go_skip
      | refine wpList_slice_tkL (by rfl) A n c (n) (0) ((n : Int)) rfl rfl rfl (by simp) (by omega) (by omega) ?_
      | (go_at_call 43; refine (CB _ (HD.out _ HK1.out)).mono ?_; rintro e w2 ⟨rfl, hb2⟩; have XP2 := XP1.below hb2; have HB2 := Lib.hid (b_cl HB1.out (Nat.le_refl _) hb2); have hle2 := HB2.out.size)
      | (refine wpList_store_box rfl 28 _ _ rfl w2.heap.size (sp3 (0, 0, 0)) rfl rfl 28 (sp3 (0, 0, 0)) (Bx.new (W := w2) 28 (sp3 (0, 0, 0)) rfl) (by kernel_rfl) rfl (one3 _ _ _) (fun w3 u3 => ?_); have XG3 := u3.box; have r0 : w3.cell? ⟨w2.heap.size, 0, none⟩ = some (.int .i64 0) := XG3.cell rfl; have XP3 := XP2.below ((b_al (Below.refl w2.heap.size w2) (Nat.le_refl _) _).trans (u3.bel _ (Nat.le_refl _))); have HB3 := Lib.hid (b_cl HB2.out (Nat.le_refl _) ((b_al (Below.refl w2.heap.size w2) (Nat.le_refl _) _).trans (u3.bel _ (Nat.le_refl _)))))
      | refine wpList_build_as rfl 28 _ rfl (sp3 ((n : Int), 0, 0)) (by kernel_rfl) ?_
      | (refine wpList_store_box rfl 28 _ _ rfl (w.heap.size + 1 + 1) (sp3 ((n : Int), 0, 0)) rfl rfl 28 (sp3 (0, 0, 0)) (XP3) (by kernel_rfl) rfl (one3 _ _ _) (fun w9 u9 => ?_); have XP9 := u9.box; have HB9 := Lib.hid (HB3.out.trans (u9.bel _ (by omega)))))
    refine bodyPost_ret (v := .tuple #[.agg (sp3 ((n : Int), 0, 0)), .bool true]) (results_box2 Try.results30 _ _ (w.heap.size + 1 + 1) 28 (sp3 ((n : Int), 0, 0)) _ _ rfl XP9 rfl Try.underlying28 rfl (by kernel_rfl)) rfl ⟨rfl, ?_⟩
    exact HB9.out

theorem turn25_any (x : Nat → Int) (A : Option Addr) (n c : Nat) (l : List Tk) (hn : l.length = n) (s : Pt) (m k : Int) (w : World) (h : RdK w A l) (few : Few l) (hcn : n ≤ c) (ck : checkT l = 0) (fit : Fits l s) (hm : 0 ≤ m ∧ m ≤ 40319) (hk : 0 ≤ k ∧ k ≤ 3) :
    Calls Try.prog 30 #[.agg (rl x A n c), .agg (sp3 s), .int .i64 m, .int .i64 k] w fun e w' => e = .returned (.tuple #[.agg (sp3 (turnV l s m k).1), .bool (turnV l s m k).2]) ∧ Below w.heap.size w w' := by
  obtain ⟨i0, y, z⟩ := s
  obtain ⟨ok, hl⟩ := checkt_zero ck
  obtain ⟨a0, a1, y0, y1, z0, z1⟩ := fits_cells ok fit
  obtain ⟨i, rfl⟩ : ∃ i : Nat, i0 = i := ⟨i0.toNat, by omega⟩
  have hl' : n ≤ 2001 := by omega
  cases hfr : freeT l ((i : Int), y, z) m k with
  | false =>
    rw [turnV_no hfr]
    by_cases hi : i < l.length
    · exact turn_no_in x A n c l hn i y z m k w h few hcn hl' ck fit hm hk ⟨y0, y1⟩ ⟨z0, z1⟩ hi hfr
    · exact turn_no_end x A n c l hn i y z m k w h few hcn hl' ck fit hm hk ⟨y0, y1⟩ ⟨z0, z1⟩ (by omega) hfr
  | true =>
    rw [turnV_yes hfr]
    by_cases hi : i < l.length
    · obtain ⟨p, q, r, he⟩ : ∃ p q r, stepT (partT l i) (0, y, z) k = (p, q, r) := ⟨_, _, _, rfl⟩
      rcases part_step hi p q r he with ⟨rfl, _⟩ | ⟨rfl, _⟩
      · exact turn_in0 x A n c l hn i y z m k w h few hcn hl' ck fit hm hk ⟨y0, y1⟩ ⟨z0, z1⟩ hi hfr q r he
      · exact turn_in1 x A n c l hn i y z m k w h few hcn hl' ck fit hm hk ⟨y0, y1⟩ ⟨z0, z1⟩ hi hfr q r he
    · exact turn_end x A n c l hn i y z m k w h few hcn hl' ck fit hm hk ⟨y0, y1⟩ ⟨z0, z1⟩ (by omega) hfr

end Go.Proofs.Ytolbihfnogbjaaa
