/- Minutes that break nothing behind one meter break nothing behind one that is under it, which is under it still behind them. Conditions: none beyond the statement's own. -/
import Derived.Test.YtojdaigilagppaaRows
import Derived.Test.YtojdaigilagppaaBase
import Derived.Test.YtojdaigilagppaaRow
import Derived.Test.YtojdaigilagppaaBookRow
import Derived.Test.YtojdaigilagppaaBookLim
import Derived.Test.YtojdaigilagppaaBookLaws
import Derived.Test.YtojdaigilagppaaBookOpen
import Derived.Test.YtojdaigilagppaaRecMath
import Derived.Test.YtojdaigilagppaaRecHeap
import Derived.Test.YtojdaigilagppaaBox
import Derived.Test.YtojdaigilagppaaSpellMath
import Derived.Test.YtojdaigilagppaaMeterMath
import Derived.Test.YtojdaigilagppaaMeterChk
import Derived.Test.YtojdaigilagppaaMeterOpen
import Derived.Test.YtojdaigilagppaaBelowMath
import Derived.Test.YtojdaigilagppaaBelowC
import Derived.Test.YtojdaigilagppaaBelowAlive
import Derived.Test.YtojdaigilagppaaMeterRun
import Derived.Test.YtojdaigilagppaaMeterStep
import Derived.Test.YtojdaigilagppaaBelowBoth
import Derived.WalkKit
import Derived.WalkSmall
import Derived.WalkSpells
import Derived.ProofKit
import Derived.OpenShut
import Derived.ShutString
import Derived.ChangeOld
import Derived.Below
import Derived.Lib.Hide
import Derived.OwnWalk
import Derived.BigQuiet
import Derived.Outline
import Derived.Maps.RangeWalk
import Derived.Deep.DeepCutAuto
import Derived.OrdersHeld
import Derived.Deep.RegionHeld3
namespace Go.Proofs.Ytojdaigilagppaa.belowKeeps
open Go.ChangeShapes Go.WideShapes Go.ChangeAt Go.RowKit
open Go.ChangeMaps (open_string shut_string)
set_option linter.unusedVariables false

theorem own : ownKnob Try.prog.godebug = none := by kernel_rfl
theorem laidOut : laidOutB Try.prog = true := by kernel_rfl

set_option maxRecDepth 100000 in
set_option maxHeartbeats 4000000 in
theorem long (w : World) (x0 : Nat → Int) (s1 t1 : Mt) (A2 : Option Addr) (c2 : Nat) (l2 : List Int) (rd2 : RdN w A2 l2) (hl : 400 < l2.length) :
    Calls Try.prog 4 #[.agg (bk x0), .agg (bo s1 t1), .slice A2 l2.length c2] w fun e w' => e = .returned (.bool true) ∧ Below w.heap.size w w' := by
  have XB0 : Bx ((w.alloc (.cells (bk x0) 23)).alloc (.cells (bo s1 t1) 29)) w.heap.size 23 (bk x0) := (Bx.new (W := w) _ _ rfl).alloc _
  have XT0 : Bx ((w.alloc (.cells (bk x0) 23)).alloc (.cells (bo s1 t1) 29)) (w.heap.size + 1) 29 (bo s1 t1) := Bx.new (W := w.alloc (.cells (bk x0) 23)) _ _ (by simp)
  have B0 : Below w.heap.size w ((w.alloc (.cells (bk x0) 23)).alloc (.cells (bo s1 t1) 29)) := b_al (b_al (Below.refl _ _) (Nat.le_refl _) _) (Nat.le_refl _) _
  have d0 : decide ((400 : Int) < (l2.length : Int)) = true := decide_eq_true (by omega)
  go_enter Try.func4, Try.ntmps4
  go_wp2_with (first | go_skip | (go_at_call 8; (with_reducible refine (alive17_any _).mono ?_); rintro e w99 ⟨rfl, hb99⟩))
  go_ret
  exact ⟨rfl, b_cl B0 (Nat.le_refl _) hb99⟩

set_option maxRecDepth 100000 in
set_option maxHeartbeats 4000000 in
theorem no (w : World) (x0 : Nat → Int) (s1 t1 : Mt) (A2 : Option Addr) (c2 : Nat) (l2 : List Int) (rd2 : RdN w A2 l2) (hl : l2.length ≤ 400) (hn : ¬ Un x0 s1 t1) :
    Calls Try.prog 4 #[.agg (bk x0), .agg (bo s1 t1), .slice A2 l2.length c2] w fun e w' => e = .returned (.bool true) ∧ Below w.heap.size w w' := by
  have XB0 : Bx ((w.alloc (.cells (bk x0) 23)).alloc (.cells (bo s1 t1) 29)) w.heap.size 23 (bk x0) := (Bx.new (W := w) _ _ rfl).alloc _
  have XT0 : Bx ((w.alloc (.cells (bk x0) 23)).alloc (.cells (bo s1 t1) 29)) (w.heap.size + 1) 29 (bo s1 t1) := Bx.new (W := w.alloc (.cells (bk x0) 23)) _ _ (by simp)
  have B0 : Below w.heap.size w ((w.alloc (.cells (bk x0) 23)).alloc (.cells (bo s1 t1) 29)) := b_al (b_al (Below.refl _ _) (Nat.le_refl _) _) (Nat.le_refl _) _
  have d0 : decide ((400 : Int) < (l2.length : Int)) = false := decide_eq_false (by omega)
  have d1 : ¬ ((400 : Int) < (l2.length : Int)) := by omega
  have U1 := fun W => under17_any x0 s1 t1 W
  simp only [tf_no hn] at U1
  clear hn
  go_enter Try.func4, Try.ntmps4
  go_wp2_with (first
    | go_skip
    | refine wpList_load_box (by rfl) 23 _ rfl (w.heap.size) rfl 23 (bk x0) _ (by assumption) Try.underlying23 rfl (by kernel_rfl) ?_
    | refine wpList_load_of17 (by rfl) 25 _ rfl (w.heap.size + 1) 0 rfl (mt s1) _ (bo_fst (T := 29) (s := s1) (t := t1) (by assumption)) Try.underlying25 rfl (by kernel_rfl) ?_
    | refine wpList_load_of17 (by rfl) 25 _ rfl (w.heap.size + 1) 14 rfl (mt t1) _ (bo_snd (T := 29) (s := s1) (t := t1) (by assumption)) Try.underlying25 rfl (by kernel_rfl) ?_
    | (go_at_call 6; (with_reducible refine (U1 _).mono ?_); rintro e w1 ⟨rfl, hb1⟩; have XB1 := XB0.below hb1; have XT1 := XT0.below hb1; have B1 := b_cl B0 (Nat.le_refl _) hb1)
    | (go_at_call 8; (with_reducible refine (alive17_any _).mono ?_); rintro e w99 ⟨rfl, hb99⟩))
  go_ret
  exact ⟨rfl, b_cl B1 (Nat.le_refl _) hb99⟩

set_option maxRecDepth 100000 in
set_option maxHeartbeats 4000000 in
theorem yes (w : World) (x0 : Nat → Int) (s1 t1 : Mt) (A2 : Option Addr) (c2 : Nat) (l2 : List Int) (rd2 : RdN w A2 l2) (hl : l2.length ≤ 400) (hu : Un x0 s1 t1) :
    Calls Try.prog 4 #[.agg (bk x0), .agg (bo s1 t1), .slice A2 l2.length c2] w fun e w' => e = .returned (.bool true) ∧ Below w.heap.size w w' := by
  have XB0 : Bx ((w.alloc (.cells (bk x0) 23)).alloc (.cells (bo s1 t1) 29)) w.heap.size 23 (bk x0) := (Bx.new (W := w) _ _ rfl).alloc _
  have XT0 : Bx ((w.alloc (.cells (bk x0) 23)).alloc (.cells (bo s1 t1) 29)) (w.heap.size + 1) 29 (bo s1 t1) := Bx.new (W := w.alloc (.cells (bk x0) 23)) _ _ (by simp)
  have B0 : Below w.heap.size w ((w.alloc (.cells (bk x0) 23)).alloc (.cells (bo s1 t1) 29)) := b_al (b_al (Below.refl _ _) (Nat.le_refl _) _) (Nat.le_refl _) _
  have d0 : decide ((400 : Int) < (l2.length : Int)) = false := decide_eq_false (by omega)
  have d1 : ¬ ((400 : Int) < (l2.length : Int)) := by omega
  have HU := Lib.hid hu
  have HR := Lib.hid rd2
  have U1 := fun W => under17_any x0 s1 t1 W
  simp only [tf_yes hu] at U1
  clear hu rd2
  have hz0 : ((w.alloc (.cells (bk x0) 23)).alloc (.cells (bo s1 t1) 29)).heap.size = w.heap.size + 2 := by simp
  go_enter Try.func4, Try.ntmps4
  go_upto_region 3 with (first
    | go_skip
    | refine wpList_load_box (by rfl) 23 _ rfl (w.heap.size) rfl 23 (bk x0) _ (by assumption) Try.underlying23 rfl (by kernel_rfl) ?_
    | refine wpList_load_of17 (by rfl) 25 _ rfl (w.heap.size + 1) 0 rfl (mt s1) _ (bo_fst (T := 29) (s := s1) (t := t1) (by assumption)) Try.underlying25 rfl (by kernel_rfl) ?_
    | refine wpList_load_of17 (by rfl) 25 _ rfl (w.heap.size + 1) 14 rfl (mt t1) _ (bo_snd (T := 29) (s := s1) (t := t1) (by assumption)) Try.underlying25 rfl (by kernel_rfl) ?_
    | (go_at_call 6; (with_reducible refine (U1 _).mono ?_); rintro e w1 ⟨rfl, hb1⟩; have XB1 := XB0.below hb1; have XT1 := XT0.below hb1; have B1 := b_cl B0 (Nat.le_refl _) hb1))
  (try go_frame)
  have hz1 := hb1.size
  rw [hz0] at hz1
  clear hz0 hb1 XB0 XT0 B0 d0 d1
  go_cut [7, 8] (fun u7 u8 wx => ∃ R1 R2 : Nat, u7 = .pointer (some ⟨R1, 0, none⟩) ∧ u8 = .pointer (some ⟨R2, 0, none⟩) ∧ Bx wx R1 25 (mt s1) ∧ Bx wx R2 25 (mt t1) ∧ w1.heap.size ≤ R1 ∧ w1.heap.size ≤ R2 ∧ R1 ≠ R2 ∧ Below w1.heap.size w1 wx)
  case first =>
    refine wp_region_noPanic ?_
    refine wp_region_held_drew (S := fun w' => Below w1.heap.size w1 w') (by kernel_rfl) ?_ (fun hHeld => ?_)
    · exact b_dr (Below.refl _ _)
    refine wpAnyH_take (i := 0) (oi := ⟨some 30, _, _, _, _, _⟩) (v := ?_) rfl (by kernel_rfl) (by kernel_rfl) (by kernel_rfl) (fun _ _ _ h => h) (Or.inl ⟨by rfl, ?_⟩) (by assumption) ?_
    rotate_left
    · (intro w' hSw; clear hSw; go_simp; try (with_reducible rfl))
    (try simp only [Act.put, List.setIfInBounds_toArray, List.set_cons_zero, List.set_cons_succ])
    refine wpAnyH_take (i := 1) (oi := ⟨some 31, _, _, _, _, _⟩) (v := .agg (mt s1)) rfl (by kernel_rfl) (by kernel_rfl) (by kernel_rfl) (fun _ _ _ h => h) (Or.inl ⟨by rfl, fun w' hSw => exec_load_of17 (w.heap.size + 1) 0 (mt s1) _ w' rfl rfl (bo_fst (XT1.below hSw)) Try.underlying25 rfl (by kernel_rfl)⟩) (by assumption) ?_
    (try simp only [Act.put, List.setIfInBounds_toArray, List.set_cons_zero, List.set_cons_succ])
    refine wpAnyH_take (i := 2) (oi := ⟨some 32, _, _, _, _, _⟩) (v := ?_) rfl (by kernel_rfl) (by kernel_rfl) (by kernel_rfl) (fun _ _ _ h => h) (Or.inl ⟨by rfl, ?_⟩) (by assumption) ?_
    rotate_left
    · (intro w' hSw; clear hSw; go_simp; try (with_reducible rfl))
    (try simp only [Act.put, List.setIfInBounds_toArray, List.set_cons_zero, List.set_cons_succ])
    refine wpAnyH_take (i := 3) (oi := ⟨some 33, _, _, _, _, _⟩) (v := .agg (mt t1)) rfl (by kernel_rfl) (by kernel_rfl) (by kernel_rfl) (fun _ _ _ h => h) (Or.inl ⟨by rfl, fun w' hSw => exec_load_of17 (w.heap.size + 1) 14 (mt t1) _ w' rfl rfl (bo_snd (XT1.below hSw)) Try.underlying25 rfl (by kernel_rfl)⟩) (by assumption) ?_
    (try simp only [Act.put, List.setIfInBounds_toArray, List.set_cons_zero, List.set_cons_succ])
    refine wpAnyH_ready (rs := [4, 5]) (by kernel_rfl) (by simp) ?_
    refine AllReadyH.cons (o := ⟨some 7, _, _, _, _, _⟩) rfl (fun K hK => ?_) (AllReadyH.cons (o := ⟨some 8, _, _, _, _, _⟩) rfl (fun K hK => ?_) AllReadyH.nil)
    ·
      refine wp_alloc_any 25 (mt .zero) (by kernel_rfl) (fun gM WM hg hAM hbA => ?_)
      have hgNM := Nat.le_trans hHeld.size hg
      refine hK.out _ _ (b_cl hHeld (Nat.le_refl _) hbA) (fun hHeld => ?_)
      clear hK K hbA hg
      (try simp only [Act.put, List.setIfInBounds_toArray, List.set_cons_zero, List.set_cons_succ])
      refine wpAnyH_ready (rs := [5]) (by kernel_rfl) (by simp) ?_
      refine AllReadyH.cons (o := ⟨some 8, _, _, _, _, _⟩) rfl (fun K hK => ?_) AllReadyH.nil
      refine wp_alloc_any 25 (mt .zero) (by kernel_rfl) (fun gN WN hg hAN hbA => ?_)
      have hgNN := Nat.le_trans hHeld.size hg
      have hne := Nat.ne_of_lt (Nat.lt_of_lt_of_le (hAM.lt) hg)
      replace hAM := hAM.below hbA
      refine hK.out _ _ (b_cl hHeld (Nat.le_refl _) hbA) (fun hHeld => ?_)
      clear hK K hbA hg
      (try simp only [Act.put, List.setIfInBounds_toArray, List.set_cons_zero, List.set_cons_succ])
      refine wpAnyH_ready (rs := [6]) (by kernel_rfl) (by simp) ?_
      refine AllReadyH.cons (o := ⟨none, _, _, _, _, _⟩) rfl (fun K hK => ?_) AllReadyH.nil
      refine wp_store_any 25 _ _ rfl gM (mt s1) rfl rfl 25 (mt .zero) hAM (by kernel_rfl) rfl (mt_one _) (fun W8 u8 => ?_)
      refine hK.out _ _ (hHeld.trans (u8.bel _ hgNM)) (fun hHeld => ?_)
      clear hK K
      (try simp only [Act.put])
      replace hAN := u8.bx hAN (by omega)
      refine wpAnyH_ready (rs := [7]) (by kernel_rfl) (by simp) ?_
      refine AllReadyH.cons (o := ⟨none, _, _, _, _, _⟩) rfl (fun K hK => ?_) AllReadyH.nil
      refine wp_store_any 25 _ _ rfl gN (mt t1) rfl rfl 25 (mt .zero) hAN (by kernel_rfl) rfl (mt_one _) (fun W9 u9 => ?_)
      refine hK.out _ _ (hHeld.trans (u9.bel _ hgNN)) (fun hHeld => ?_)
      clear hK K
      (try simp only [Act.put])
      refine wpAnyH_done (by kernel_rfl) ?_ _
      refine NoPanic.normal ?_
      go_wp2_with fail
      go_meet
      exact ⟨gM, gN, rfl, rfl, u9.bx u8.box (by omega), u9.box, hgNM, hgNN, by omega, hHeld⟩
    ·
      refine wp_alloc_any 25 (mt .zero) (by kernel_rfl) (fun gN WN hg hAN hbA => ?_)
      have hgNN := Nat.le_trans hHeld.size hg
      refine hK.out _ _ (b_cl hHeld (Nat.le_refl _) hbA) (fun hHeld => ?_)
      clear hK K hbA hg
      (try simp only [Act.put, List.setIfInBounds_toArray, List.set_cons_zero, List.set_cons_succ])
      refine wpAnyH_ready (rs := [4]) (by kernel_rfl) (by simp) ?_
      refine AllReadyH.cons (o := ⟨some 7, _, _, _, _, _⟩) rfl (fun K hK => ?_) AllReadyH.nil
      refine wp_alloc_any 25 (mt .zero) (by kernel_rfl) (fun gM WM hg hAM hbA => ?_)
      have hgNM := Nat.le_trans hHeld.size hg
      have hne := Nat.ne_of_lt (Nat.lt_of_lt_of_le (hAN.lt) hg)
      replace hAN := hAN.below hbA
      refine hK.out _ _ (b_cl hHeld (Nat.le_refl _) hbA) (fun hHeld => ?_)
      clear hK K hbA hg
      (try simp only [Act.put, List.setIfInBounds_toArray, List.set_cons_zero, List.set_cons_succ])
      refine wpAnyH_ready (rs := [6]) (by kernel_rfl) (by simp) ?_
      refine AllReadyH.cons (o := ⟨none, _, _, _, _, _⟩) rfl (fun K hK => ?_) AllReadyH.nil
      refine wp_store_any 25 _ _ rfl gM (mt s1) rfl rfl 25 (mt .zero) hAM (by kernel_rfl) rfl (mt_one _) (fun W8 u8 => ?_)
      refine hK.out _ _ (hHeld.trans (u8.bel _ hgNM)) (fun hHeld => ?_)
      clear hK K
      (try simp only [Act.put])
      replace hAN := u8.bx hAN (by omega)
      refine wpAnyH_ready (rs := [7]) (by kernel_rfl) (by simp) ?_
      refine AllReadyH.cons (o := ⟨none, _, _, _, _, _⟩) rfl (fun K hK => ?_) AllReadyH.nil
      refine wp_store_any 25 _ _ rfl gN (mt t1) rfl rfl 25 (mt .zero) hAN (by kernel_rfl) rfl (mt_one _) (fun W9 u9 => ?_)
      refine hK.out _ _ (hHeld.trans (u9.bel _ hgNN)) (fun hHeld => ?_)
      clear hK K
      (try simp only [Act.put])
      refine wpAnyH_done (by kernel_rfl) ?_ _
      refine NoPanic.normal ?_
      go_wp2_with fail
      go_meet
      exact ⟨gM, gN, rfl, rfl, u9.bx u8.box (by omega), u9.box, hgNM, hgNN, by omega, hHeld⟩
  case rest =>
  obtain ⟨R1, R2, rfl, rfl, XM2, XN2, hR1, hR2, hne, hb2⟩ := hcut
  rename World => w2
  have XB2 := XB1.below hb2
  have B2 := b_cl B1 (Nat.le_refl _) hb2
  have hs1 : w.heap.size + 2 ≤ R1 := by omega
  have hs2 : w.heap.size + 2 ≤ R2 := by omega
  clear XB1 XT1 B1 hb2 hR1 hR2 hz1
  go_wp2
  go_loopw [36] (fun i wr => ∃ (k : Nat) (s t : Mt), k ≤ l2.length ∧ i = .int .i64 k ∧ Hid (Un x0 s t) ∧ Hid (Bx wr R1 25 (mt s)) ∧ Hid (Bx wr R2 25 (mt t)) ∧ Hid (Bx wr w.heap.size 23 (bk x0)) ∧ Hid (Below w.heap.size w wr)) (fun i _ => l2.length - (intOf i).toNat)
  case atStart => exact ⟨0, s1, t1, Nat.zero_le _, rfl, HU, Lib.hid XM2, Lib.hid XN2, Lib.hid XB2, Lib.hid B2⟩
  case round =>
    clear XM2 XN2 XB2 B2 HU
    obtain ⟨k, s, t, hk, rfl, HU, HM, HN, HX, HB⟩ := hrel
    obtain ⟨w3, rfl⟩ : ∃ w3 : World, w3 = wr := ⟨_, rfl⟩
    by_cases hlt : k < l2.length
    case neg =>
      obtain rfl : k = l2.length := by omega
      go_wp2_with (go_at_call 8; (with_reducible refine (alive17_any _).mono ?_); rintro e w99 ⟨rfl, hb99⟩)
      go_ret
      exact ⟨rfl, b_cl HB.out (Nat.le_refl _) hb99⟩
    obtain ⟨b, off, y, rfl, hbb, hc0, hs⟩ := HR.out.at_ hlt
    have hc0 : w3.cell? ⟨b, off + k, none⟩ = some (.int .i64 y) := (HB.out.cell (p := ⟨b, off + k, none⟩) hbb).trans hc0
    have XB3 := HX.out
    have XM3 := HM.out
    have XN3 := HN.out
    have B3 := HB.out
    have ST := fun W => step13_any x0 t y W
    have HS := un_step (k := y) HU.out
    have SM := fun W => step13_any x0 s y W
    clear hs HX HM HN HB hbb
    obtain ⟨⟨M, N, E⟩, hV⟩ : ∃ V, meterV x0 t [y] = V := ⟨_, rfl⟩
    rw [hV] at ST HS
    clear hV
    dsimp only at ST HS
    by_cases hE : E = 0
    case neg =>
      have ne : (E != 0) = true := by simpa using hE
      have ne2 : (E == 0) = false := by simpa using hE
      clear hE HS SM
      go_wp2_with (first
        | go_skip
        | refine wpList_load_box (by rfl) 23 _ rfl (w.heap.size) rfl 23 (bk x0) _ (by assumption) Try.underlying23 rfl (by kernel_rfl) ?_
        | refine wpList_load_box (by rfl) 25 _ rfl (R1) rfl 25 (mt s) _ (by assumption) Try.underlying25 rfl (by kernel_rfl) ?_
        | refine wpList_load_box (by rfl) 25 _ rfl (R2) rfl 25 (mt t) _ (by assumption) Try.underlying25 rfl (by kernel_rfl) ?_
        | (go_at_call 9; (with_reducible refine (ST _).mono ?_); rintro e w4 ⟨rfl, hb4⟩; have XB4 := XB3.below hb4; have XM4 := XM3.below hb4; have XN4 := XN3.below hb4; have B4 := b_cl B3 (Nat.le_refl _) hb4; clear ST)
        | (refine wpList_store_box rfl 25 _ _ rfl w4.heap.size (mt M) rfl rfl 25 (mt .zero) (Bx.new (W := w4) 25 (mt .zero) rfl) (by kernel_rfl) rfl (mt_one _) (fun w5 u5 => ?_); have XB5 := u5.bx (XB4.alloc _) (Nat.ne_of_lt XB4.lt); have XM5 := u5.bx (XM4.alloc _) (Nat.ne_of_lt XM4.lt); have XN5 := u5.bx (XN4.alloc _) (Nat.ne_of_lt XN4.lt); have B5 := (b_al B4 (Nat.le_refl _) _).trans (u5.bel _ B4.size); have XV5 := u5.box)
        | (go_at_call 8; (with_reducible refine (alive17_any _).mono ?_); rintro e w99 ⟨rfl, hb99⟩))
      go_ret
      exact ⟨rfl, b_cl B5 (Nat.le_refl _) hb99⟩
    subst hE
    by_cases hN : N = 0
    case neg =>
      have hi : (N : Int) ≠ 0 := by omega
      have ne : ((N : Int) != 0) = true := by simpa using hN
      have ne2 : ((N : Int) == 0) = false := by simpa using hN
      clear hN HS SM
      go_wp2_with (first
        | go_skip
        | refine wpList_load_box (by rfl) 23 _ rfl (w.heap.size) rfl 23 (bk x0) _ (by assumption) Try.underlying23 rfl (by kernel_rfl) ?_
        | refine wpList_load_box (by rfl) 25 _ rfl (R1) rfl 25 (mt s) _ (by assumption) Try.underlying25 rfl (by kernel_rfl) ?_
        | refine wpList_load_box (by rfl) 25 _ rfl (R2) rfl 25 (mt t) _ (by assumption) Try.underlying25 rfl (by kernel_rfl) ?_
        | (go_at_call 9; (with_reducible refine (ST _).mono ?_); rintro e w4 ⟨rfl, hb4⟩; have XB4 := XB3.below hb4; have XM4 := XM3.below hb4; have XN4 := XN3.below hb4; have B4 := b_cl B3 (Nat.le_refl _) hb4; clear ST)
        | (refine wpList_store_box rfl 25 _ _ rfl w4.heap.size (mt M) rfl rfl 25 (mt .zero) (Bx.new (W := w4) 25 (mt .zero) rfl) (by kernel_rfl) rfl (mt_one _) (fun w5 u5 => ?_); have XB5 := u5.bx (XB4.alloc _) (Nat.ne_of_lt XB4.lt); have XM5 := u5.bx (XM4.alloc _) (Nat.ne_of_lt XM4.lt); have XN5 := u5.bx (XN4.alloc _) (Nat.ne_of_lt XN4.lt); have B5 := (b_al B4 (Nat.le_refl _) _).trans (u5.bel _ B4.size); have XV5 := u5.box)
        | (go_at_call 8; (with_reducible refine (alive17_any _).mono ?_); rintro e w99 ⟨rfl, hb99⟩))
      go_ret
      exact ⟨rfl, b_cl B5 (Nat.le_refl _) hb99⟩
    subst hN
    obtain ⟨e1, e2, hu2⟩ := HS rfl rfl
    clear HS
    obtain ⟨⟨M2, N2, E2⟩, hV2⟩ : ∃ V, meterV x0 s [y] = V := ⟨_, rfl⟩
    rw [hV2] at SM e1 e2 hu2
    clear hV2
    dsimp only at SM e1 e2 hu2
    subst e1 e2
    rw [show ((0 : Nat) : Int) = 0 from rfl] at SM ST
    have U2 := fun W => under17_any x0 M2 M W
    simp only [tf_yes hu2] at U2
    have HU2 := Lib.hid hu2
    clear hu2 HU
    go_upto_region 13 with (first
      | go_skip
      | refine wpList_load_box (by rfl) 23 _ rfl (w.heap.size) rfl 23 (bk x0) _ (by assumption) Try.underlying23 rfl (by kernel_rfl) ?_
      | refine wpList_load_box (by rfl) 25 _ rfl (R1) rfl 25 (mt s) _ (by assumption) Try.underlying25 rfl (by kernel_rfl) ?_
      | refine wpList_load_box (by rfl) 25 _ rfl (R2) rfl 25 (mt t) _ (by assumption) Try.underlying25 rfl (by kernel_rfl) ?_
      | (go_at_call 9; (with_reducible refine (ST _).mono ?_); rintro e w4 ⟨rfl, hb4⟩; have XB4 := XB3.below hb4; have XM4 := XM3.below hb4; have XN4 := XN3.below hb4; have B4 := b_cl B3 (Nat.le_refl _) hb4; clear ST)
      | (refine wpList_store_box rfl 25 _ _ rfl w4.heap.size (mt M) rfl rfl 25 (mt .zero) (Bx.new (W := w4) 25 (mt .zero) rfl) (by kernel_rfl) rfl (mt_one _) (fun w5 u5 => ?_); have XB5 := u5.bx (XB4.alloc _) (Nat.ne_of_lt XB4.lt); have XM5 := u5.bx (XM4.alloc _) (Nat.ne_of_lt XM4.lt); have XN5 := u5.bx (XN4.alloc _) (Nat.ne_of_lt XN4.lt); have B5 := (b_al B4 (Nat.le_refl _) _).trans (u5.bel _ B4.size); have XV5 := u5.box)
      | (go_at_call 9; (with_reducible refine (SM _).mono ?_); rintro e w6 ⟨rfl, hb6⟩; have XB6 := XB5.below hb6; have XM6 := XM5.below hb6; have XN6 := XN5.below hb6; have XV6 := XV5.below hb6; have B6 := b_cl B5 (Nat.le_refl _) hb6; clear SM)
      | (refine wpList_store_box rfl 25 _ _ rfl w6.heap.size (mt M2) rfl rfl 25 (mt .zero) (Bx.new (W := w6) 25 (mt .zero) rfl) (by kernel_rfl) rfl (mt_one _) (fun w7 u7 => ?_); have XB7 := u7.bx (XB6.alloc _) (Nat.ne_of_lt XB6.lt); have XM7 := u7.bx (XM6.alloc _) (Nat.ne_of_lt XM6.lt); have XN7 := u7.bx (XN6.alloc _) (Nat.ne_of_lt XN6.lt); have XV7 := u7.bx (XV6.alloc _) (Nat.ne_of_lt XV6.lt); have B7 := (b_al B6 (Nat.le_refl _) _).trans (u7.bel _ B6.size); have XU7 := u7.box)
      | refine wpList_load_box (by rfl) 25 _ rfl (w4.heap.size) rfl 25 (mt M) _ (by assumption) Try.underlying25 rfl (by kernel_rfl) ?_
      | refine wpList_load_box (by rfl) 25 _ rfl (w6.heap.size) rfl 25 (mt M2) _ (by assumption) Try.underlying25 rfl (by kernel_rfl) ?_
      | (go_at_call 6; (with_reducible refine (U2 _).mono ?_); rintro e w8 ⟨rfl, hb8⟩; have XB8 := XB7.below hb8; have XM8 := XM7.below hb8; have XN8 := XN7.below hb8; have XV8 := XV7.below hb8; have XU8 := XU7.below hb8; have B8 := b_cl B7 (Nat.le_refl _) hb8; clear U2))
    (try go_frame)
    have m4 : R1 < w4.heap.size := XM4.lt
    have n4 : R2 < w4.heap.size := XN4.lt
    have m6 : R1 < w6.heap.size := XM6.lt
    have n6 : R2 < w6.heap.size := XN6.lt
    refine wp_region_noPanic ?_
    refine wp_region_held_drew (S := fun w' => Bx w' w4.heap.size 25 (mt M) ∧ Bx w' w6.heap.size 25 (mt M2) ∧ Bx w' w.heap.size 23 (bk x0) ∧ Below w.heap.size w w') (by kernel_rfl) ?_ (fun hHeld => ?_)
    · exact ⟨XV8.drew, XU8.drew, XB8.drew, b_dr B8⟩
    refine wpAnyH_take (i := 0) (oi := ⟨some 76, _, _, _, _, _⟩) (v := .agg (mt M2)) rfl (by kernel_rfl) (by kernel_rfl) (by kernel_rfl) (fun _ _ _ h => h) (Or.inl ⟨by rfl, fun w' hSw => exec_load_box (w6.heap.size) 25 (mt M2) _ w' rfl rfl hSw.2.1 Try.underlying25 rfl (by kernel_rfl)⟩) (by assumption) ?_
    (try simp only [Act.put, List.setIfInBounds_toArray, List.set_cons_zero, List.set_cons_succ])
    refine wpAnyH_take (i := 1) (oi := ⟨some 77, _, _, _, _, _⟩) (v := .agg (mt M)) rfl (by kernel_rfl) (by kernel_rfl) (by kernel_rfl) (fun _ _ _ h => h) (Or.inl ⟨by rfl, fun w' hSw => exec_load_box (w4.heap.size) 25 (mt M) _ w' rfl rfl hSw.1 Try.underlying25 rfl (by kernel_rfl)⟩) (by assumption) ?_
    (try simp only [Act.put, List.setIfInBounds_toArray, List.set_cons_zero, List.set_cons_succ])
    refine wpAnyH_ready (rs := [2]) (by kernel_rfl) (by simp) ?_
    refine AllReadyH.cons (o := ⟨none, _, _, _, _, _⟩) rfl (fun K hK => ?_) AllReadyH.nil
    refine wp_store_any 25 _ _ rfl R1 (mt M2) rfl rfl 25 (mt s) XM8.drew (by kernel_rfl) rfl (mt_one _) (fun w9 u9 => ?_)
    have XN9 := u9.bx XN8.drew (by omega)
    refine hK.out _ _ ⟨u9.bx hHeld.1 (by omega), u9.bx hHeld.2.1 (by omega), u9.bx hHeld.2.2.1 (by omega), hHeld.2.2.2.trans (u9.bel _ (by omega))⟩ (fun hHeld => ?_)
    clear hK K
    (try simp only [Act.put])
    refine wpAnyH_ready (rs := [3]) (by kernel_rfl) (by simp) ?_
    refine AllReadyH.cons (o := ⟨none, _, _, _, _, _⟩) rfl (fun K hK => ?_) AllReadyH.nil
    refine wp_store_any 25 _ _ rfl R2 (mt M) rfl rfl 25 (mt t) XN9 (by kernel_rfl) rfl (mt_one _) (fun w10 u10 => ?_)
    have XM10 := u10.bx u9.box (by omega)
    refine hK.out _ _ ⟨u10.bx hHeld.1 (by omega), u10.bx hHeld.2.1 (by omega), u10.bx hHeld.2.2.1 (by omega), hHeld.2.2.2.trans (u10.bel _ (by omega))⟩ (fun hHeld => ?_)
    clear hK K
    (try simp only [Act.put])
    refine wpAnyH_done (by kernel_rfl) ?_ _
    refine NoPanic.normal ?_
    have HM9 := Lib.hid XM10
    have HN9 := Lib.hid u10.box
    have HX9 := Lib.hid hHeld.2.2.1
    have HB9 := Lib.hid hHeld.2.2.2
    clear XM10 u10 u9 XN9 hHeld XB3 XM3 XN3 B3 XB4 XM4 XN4 B4 XB5 XM5 XN5 XV5 B5 XB6 XM6 XN6 XV6 B6 XB7 XM7 XN7 XV7 XU7 B7 XB8 XM8 XN8 XV8 XU8 B8 u5 u7 hb4 hb6 hb8 hc0
    go_wp2
    go_roundw
    case rel => exact ⟨k + 1, M2, M, by omega, by go_num, HU2, HM9, HN9, HX9, HB9⟩
    case measure => simp [intOf]; omega

theorem walk (w : World) (x0 : Nat → Int) (s1 t1 : Mt) (A2 : Option Addr) (c2 : Nat) (l2 : List Int) (rd2 : RdN w A2 l2) (zz2 : A2 = none → c2 = 0) :
    Calls Try.prog 4 #[.agg (bk x0), .agg (bo s1 t1), .slice A2 l2.length c2] w fun e w' => e = .returned (.bool true) ∧ Below w.heap.size w w' := by
  by_cases hl : l2.length ≤ 400
  case neg => exact long w x0 s1 t1 A2 c2 l2 rd2 (by omega)
  by_cases hu : Un x0 s1 t1
  · exact yes w x0 s1 t1 A2 c2 l2 rd2 hl hu
  · exact no w x0 s1 t1 A2 c2 l2 rd2 hl hu

set_option maxRecDepth 100000 in
theorem lifted (os : Os) (started : os.Started) (H : Type) (enc : TypeId × Value → H) :
    ReturnsInHanded {} Try.checked os 4 .any (Rows.belowKeepsSpec.pre6 enc Try.prog Try.f4 Rows.belowKeepsRow.domain false) (Rows.belowKeepsSpec.post enc Try.prog Try.f4 false true false false) := by
  refine returnsInHanded_of_change (C := Try.checked) own started (by kernel_rfl) Try.func4
    (ChangeSpec.witness6 (enc := enc) (C := Try.checked) false ⟨#[], #[.agg #[.int .i64 0, .int .i64 0, .int .i64 0, .int .i64 0, .int .i64 0, .int .i64 0, .int .i64 0, .int .i64 0, .int .i64 0, .int .i64 0, .int .i64 0, .int .i64 0, .int .i64 0, .int .i64 0, .int .i64 0, .int .i64 0, .int .i64 0, .int .i64 0, .int .i64 0], .agg #[.int .i64 0, .int .i64 0, .bool false, .int .i64 0, .int .i64 0, .int .i64 0, .int .i64 0, .bool false, .int .i64 0, .int .i64 0, .bool false, .int .i64 0, .int .i64 0, .int .i64 0, .int .i64 0, .int .i64 0, .bool false, .int .i64 0, .int .i64 0, .int .i64 0, .int .i64 0, .bool false, .int .i64 0, .int .i64 0, .bool false, .int .i64 0, .int .i64 0, .int .i64 0], .slice none 0 0], []⟩ 8 (by kernel_rfl) (by kernel_rfl) (by kernel_rfl) (by kernel_rfl)) ?_
  intro W base args ds gs before hval0 hW hcnd _
  have hval : ∀ (j : Nat) t v, Try.f4.params[j]? = some t → args[j]? = some v → Value.okWide Try.prog W .any base t v := hval0
  have hW' := hW
  obtain ⟨p, q, hA0, hV, rfl, hfz, hnd⟩ := hW
  have hA : DataW.TrodAll enc Try.prog W 0 (fun _ => true) true Try.f4.params.toList args.toList ds p := hA0
  rw [Try.params4] at hA hval
  obtain ⟨v0, vs0, d0, ds0, p0, q0, hargs, rfl, rfl, h0, r0⟩ := trodAll_cons hA
  obtain ⟨v1, vs1, d1, ds1, p1, q1, rfl, rfl, rfl, h1, r1⟩ := trodAll_cons r0
  obtain ⟨v2, vs2, d2, ds2, p2, q2, rfl, rfl, rfl, h2, r2⟩ := trodAll_cons r1
  obtain ⟨rfl, rfl, rfl⟩ := trodAll_nil r2
  obtain rfl : args = #[v0, v1, v2] := by cases args; simp_all
  obtain ⟨rfl, rfl⟩ := trodVars_none hV
  have k0 := h0
  have lt0 : ∀ x ∈ p0, x.block < W.heap.size := by obtain ⟨m, hm⟩ := k0; exact DataW.trod_lt m _ _ _ hm
  obtain ⟨x0, rfl⟩ := open_book (hval 0 23 v0 rfl rfl) h0
  have k1 := h1
  have lt1 : ∀ x ∈ p1, x.block < W.heap.size := by obtain ⟨m, hm⟩ := k1; exact DataW.trod_lt m _ _ _ hm
  obtain ⟨s1, t1, rfl⟩ := open_both17 (hval 1 29 v1 rfl rfl) h1
  have k2 := h2
  have lt2 : ∀ x ∈ p2, x.block < W.heap.size := by obtain ⟨m, hm⟩ := k2; exact DataW.trod_lt m _ _ _ hm
  obtain ⟨A2, c2, l2, rfl, rd2, zz2⟩ := open_ints13 (hval 2 30 v2 rfl rfl) h2
  clear hA0 hval0
  refine (walk W x0 s1 t1 A2 c2 l2 rd2 zz2).mono fun e W' ⟨he, bel⟩ => ?_
  subst he
  exact ⟨_, rfl, _, _, _, [], _, [], hW', trodAll_mk1 (shut_bool Try.underlying4 _), (trodAll_cons_mk (Below.trod laidOut (by kernel_rfl) (of_decide_eq_true (by kernel_rfl)) k0 bel lt0) (trodAll_cons_mk (Below.trod laidOut (by kernel_rfl) (of_decide_eq_true (by kernel_rfl)) k1 bel lt1) (trodAll_cons_mk (Below.trod laidOut (by kernel_rfl) (of_decide_eq_true (by kernel_rfl)) k2 bel lt2) trodAll_mk0))), rfl, bel.frame _, fun h => by cases h⟩

theorem over : Rows.belowKeepsRow.holds Try.pinned (OpenSpec.ofChange Rows.belowKeepsSpec) :=
  OpenClaim.holds_of_wide 4 Try.f4 rfl rfl rfl rfl rfl rfl rfl ⟨rfl, rfl, rfl, rfl, rfl⟩ rfl rfl rfl rfl rfl (by kernel_rfl) Try.func4 (by kernel_rfl)
    (of_decide_eq_true (by kernel_rfl)) (by unfold Func.isWrapper; first | (rw [if_pos (by decide +kernel)]; kernel_rfl) | (rw [if_neg (by decide +kernel)]; exact ⟨rfl, rfl⟩))
    (fun os started H enc _ => lifted os started H enc)

theorem proved : Rows.BelowKeepsSaid := over
#print axioms proved
end Go.Proofs.Ytojdaigilagppaa.belowKeeps
