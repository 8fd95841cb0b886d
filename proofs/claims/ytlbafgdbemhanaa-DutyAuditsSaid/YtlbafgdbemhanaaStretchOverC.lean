/- What Over of layer 14 returns. Conditions: none. -/
import Derived.Test.YtlbafgdbemhanaaRows
import Derived.Test.YtlbafgdbemhanaaBase
import Derived.Test.YtlbafgdbemhanaaZ2
import Derived.Test.YtlbafgdbemhanaaZ3
import Derived.Test.YtlbafgdbemhanaaMeterChk
import Derived.Test.YtlbafgdbemhanaaZ4
import Derived.Test.YtlbafgdbemhanaaBookLim
import Derived.Test.YtlbafgdbemhanaaMeterRun
import Derived.Test.YtlbafgdbemhanaaStretchChk
import Derived.Test.YtlbafgdbemhanaaStretchOnC
import Derived.Test.YtlbafgdbemhanaaStretchFirst
import Derived.WalkKit
import Derived.WalkSpells
import Derived.WalkSmall
import Derived.Below
import Derived.Lib.Hide
import Derived.Shelf.Abstract
import Derived.BigQuiet
import Derived.OwnWalk
import Derived.Outline
import Derived.Deep.DeepCutAuto
import Derived.StillTailTactics
import Derived.Maps.RangeWalk
import Derived.OrdersHeld
import Derived.Deep.RegionHeld3
namespace Go.Proofs.Ytlbafgdbemhanaa
open Go.RowKit

theorem results_box22 {P : Program} {fn : Func} {p q r : Tmp} {ty tz : TypeId} (h : fn.results = #[.cell p ty, .cell q tz, .tmp r]) (tmps : Array Value) (w : World) (g g' : Nat) (t t' : TypeId) (cs ds : Array Value) (d d' : TypeDesc) (v : Value)
    (hp : tmps.getD p undef = .pointer (some ⟨g, 0, none⟩)) (hb : Bx w g t cs) (hq : tmps.getD q undef = .pointer (some ⟨g', 0, none⟩)) (hb' : Bx w g' t' ds) (hr : tmps.getD r undef = v)
    (hu : P.underlying ty = some d) (hd : (match d with | .struct _ | .array _ _ => true | _ => false) = true) (hi : (P.info? ty).map (·.size) = some cs.size)
    (hu' : P.underlying tz = some d') (hd' : (match d' with | .struct _ | .array _ _ => true | _ => false) = true) (hi' : (P.info? tz).map (·.size) = some ds.size) :
    (results fn tmps).run P w = .ok (.tuple #[.agg cs, .agg ds, v]) w := by
  have hp' : tmps[p]?.getD undef = .pointer (some ⟨g, 0, none⟩) := by simpa using hp
  have hq' : tmps[q]?.getD undef = .pointer (some ⟨g', 0, none⟩) := by simpa using hq
  have hr' : tmps[r]?.getD undef = v := by simpa using hr
  simp [results, h, hp', hq', hr', asAddr, run_loadVar_row w g t ty cs (0, 0) d hb hu hd hi, run_loadVar_row w g' t' tz ds (0, 0) d' hb' hu' hd' hi']

/-- A block of minutes, or the error. -/
noncomputable def overV (x : Nat → Int) (m : Mt) (k n : Int) : Mt × (Nat → Int) × Int :=
  if err14 x m k = 0 then (if n < 0 ∨ 40320 - m.now < n then (.zero, zeroF, 4) else ((walkV x k n.toNat m noneF).1, (walkV x k n.toNat m noneF).2, 0)) else (.zero, zeroF, err14 x m k)

set_option maxRecDepth 100000 in
set_option maxHeartbeats 4000000 in
theorem over14_any (x : Nat → Int) (m : Mt) (k n : Int) (w : World) :
    Calls Try.prog 42 #[.agg (bk x), .agg (mt m), .int .i64 k, .int .i64 n] w fun e w' => e = .returned (.tuple #[.agg (mt (overV x m k n).1), .agg (tn (overV x m k n).2.1), .int .i64 (overV x m k n).2.2]) ∧ Below w.heap.size w w' := by
  have C1 := fun W => check14_any x m k W
  have RB : RdI ((((w.alloc (.cells (bk x) 23)).alloc (.cells (mt m) 36)).alloc (.cells (mt .zero) 36)).alloc (.cells (tn zeroF) 74)) w.heap.size 0 x := (((RdI.new x 23 rfl).alloc _).alloc _).alloc _
  have BM : Bx ((((w.alloc (.cells (bk x) 23)).alloc (.cells (mt m) 36)).alloc (.cells (mt .zero) 36)).alloc (.cells (tn zeroF) 74)) (w.heap.size + 1) 36 (mt m) := ((Bx.new (W := w.alloc (.cells (bk x) 23)) _ _ (by simp)).alloc _).alloc _
  have BR : Bx ((((w.alloc (.cells (bk x) 23)).alloc (.cells (mt m) 36)).alloc (.cells (mt .zero) 36)).alloc (.cells (tn zeroF) 74)) (w.heap.size + 2) 36 (mt .zero) := (Bx.new (W := (w.alloc (.cells (bk x) 23)).alloc (.cells (mt m) 36)) _ _ (by simp)).alloc _
  have BF : Bx ((((w.alloc (.cells (bk x) 23)).alloc (.cells (mt m) 36)).alloc (.cells (mt .zero) 36)).alloc (.cells (tn zeroF) 74)) (w.heap.size + 3) 74 (tn zeroF) := Bx.new (W := ((w.alloc (.cells (bk x) 23)).alloc (.cells (mt m) 36)).alloc (.cells (mt .zero) 36)) _ _ (by simp)
  have hB0 : Below w.heap.size w ((((w.alloc (.cells (bk x) 23)).alloc (.cells (mt m) 36)).alloc (.cells (mt .zero) 36)).alloc (.cells (tn zeroF) 74)) := b_al (b_al (b_al (b_al (Below.refl _ _) (Nat.le_refl _) _) (Nat.le_refl _) _) (Nat.le_refl _) _) (Nat.le_refl _) _
  have hz0 : ((((w.alloc (.cells (bk x) 23)).alloc (.cells (mt m) 36)).alloc (.cells (mt .zero) 36)).alloc (.cells (tn zeroF) 74)).heap.size = w.heap.size + 4 := by simp
  by_cases he : err14 x m k = 0
  case neg =>
    have hv : overV x m k n = (.zero, zeroF, err14 x m k) := by unfold overV; rw [if_neg he]
    rw [hv]
    clear hv
    generalize err14 x m k = er at he C1 ⊢
    have ne : (er != 0) = true := by simpa using he
    have ne2 : (er == 0) = false := by simpa using he
    clear he
    go_enter Try.func42, Try.ntmps42
    go_wp2_with (first
      | refine wpList_load_bk (by rfl) 23 _ rfl _ _ rfl x _ (RB) Try.underlying23 rfl (by kernel_rfl) ?_ | refine wpList_load_box (by rfl) 36 _ rfl (w.heap.size + 1) rfl 36 (mt m) _ BM Try.underlying36 rfl (by kernel_rfl) ?_ | (go_at_call 66; (with_reducible refine (C1 _).mono ?_); rintro e w1 ⟨rfl, hb1⟩; have BR1 := BR.below hb1; have BF1 := BF.below hb1; have RB1 := RB.below hb1; have BM1 := BM.below hb1)
      | refine wpList_build_as rfl 36 _ rfl (mt .zero) (by kernel_rfl) ?_ | refine wpList_build_as rfl 74 _ rfl (tn zeroF) (by kernel_rfl) ?_ | refine wpList_store_box rfl 36 _ _ rfl (w.heap.size + 2) (mt .zero) rfl rfl 36 (mt .zero) BR1 (by kernel_rfl) rfl (mt_one _) (fun w2 u => ?_) | refine wpList_store_box rfl 74 _ _ rfl (w.heap.size + 3) (tn zeroF) rfl rfl 74 (tn zeroF) (u.bx BF1 (by omega)) (by kernel_rfl) rfl (tn_one _) (fun w3 u2 => ?_))
    refine bodyPost_ret (results_box22 Try.results42 _ _ (w.heap.size + 2) (w.heap.size + 3) 36 74 (mt .zero) (tn zeroF) _ _ (.int .i64 er) rfl (u2.bx u.box (by omega)) rfl u2.box rfl Try.underlying36 rfl (by kernel_rfl) Try.underlying74 rfl (by kernel_rfl)) rfl ⟨rfl, ?_⟩
    exact ((b_cl hB0 (Nat.le_refl _) hb1).trans (u.bel _ (by omega))).trans (u2.bel _ (by omega))
  obtain ⟨hx, hm, hk⟩ := err14_ok.1 he
  have HK := Lib.hid hk
  rw [he] at C1
  have hnow := hm.1
  have HM := Lib.hid hm
  have HX := Lib.hid hx
  clear hm hx hk
  by_cases hr : n < 0 ∨ 40320 - m.now < n
  case pos =>
    have hv : overV x m k n = (.zero, zeroF, 4) := by unfold overV; rw [if_pos he, if_pos hr]
    rw [hv]
    clear hv he
    have f0 : ((((w.alloc (.cells (bk x) 23)).alloc (.cells (mt m) 36)).alloc (.cells (mt .zero) 36)).alloc (.cells (tn zeroF) 74)).cell? ⟨w.heap.size + 1, 0, none⟩ = some (.int .i64 m.now) := BM.cell rfl
    have hw40 := wrap14 (40320 - m.now) (by omega) (by omega)
    generalize m.now = nw at *
    by_cases h0 : n < 0
    case pos =>
      have d0 : decide (n < 0) = true := decide_eq_true h0
      clear hr h0
      go_enter Try.func42, Try.ntmps42
      go_wp2_with (first
        | refine wpList_load_bk (by rfl) 23 _ rfl _ _ rfl x _ (RB) Try.underlying23 rfl (by kernel_rfl) ?_ | refine wpList_load_box (by rfl) 36 _ rfl (w.heap.size + 1) rfl 36 (mt m) _ BM Try.underlying36 rfl (by kernel_rfl) ?_ | (go_at_call 66; (with_reducible refine (C1 _).mono ?_); rintro e w1 ⟨rfl, hb1⟩; have BR1 := BR.below hb1; have BF1 := BF.below hb1; have RB1 := RB.below hb1; have BM1 := BM.below hb1)
        | refine wpList_build_as rfl 36 _ rfl (mt .zero) (by kernel_rfl) ?_ | refine wpList_build_as rfl 74 _ rfl (tn zeroF) (by kernel_rfl) ?_ | refine wpList_store_box rfl 36 _ _ rfl (w.heap.size + 2) (mt .zero) rfl rfl 36 (mt .zero) BR1 (by kernel_rfl) rfl (mt_one _) (fun w2 u => ?_) | refine wpList_store_box rfl 74 _ _ rfl (w.heap.size + 3) (tn zeroF) rfl rfl 74 (tn zeroF) (u.bx BF1 (by omega)) (by kernel_rfl) rfl (tn_one _) (fun w3 u2 => ?_))
      refine bodyPost_ret (results_box22 Try.results42 _ _ (w.heap.size + 2) (w.heap.size + 3) 36 74 (mt .zero) (tn zeroF) _ _ (.int .i64 4) rfl (u2.bx u.box (by omega)) rfl u2.box rfl Try.underlying36 rfl (by kernel_rfl) Try.underlying74 rfl (by kernel_rfl)) rfl ⟨rfl, ?_⟩
      exact ((b_cl hB0 (Nat.le_refl _) hb1).trans (u.bel _ (by omega))).trans (u2.bel _ (by omega))
    case neg =>
      have d0 : decide (n < 0) = false := decide_eq_false h0
      have d1 : decide (40320 - nw < n) = true := decide_eq_true (by omega)
      have d2 : 40320 - nw < n := by omega
      clear hr
      go_enter Try.func42, Try.ntmps42
      go_wp2_with (first
        | refine wpList_load_bk (by rfl) 23 _ rfl _ _ rfl x _ (RB) Try.underlying23 rfl (by kernel_rfl) ?_ | refine wpList_load_box (by rfl) 36 _ rfl (w.heap.size + 1) rfl 36 (mt m) _ BM Try.underlying36 rfl (by kernel_rfl) ?_ | (go_at_call 66; (with_reducible refine (C1 _).mono ?_); rintro e w1 ⟨rfl, hb1⟩; have BR1 := BR.below hb1; have BF1 := BF.below hb1; have RB1 := RB.below hb1; have BM1 := BM.below hb1; have g0 := c_cl f0 hb1)
        | refine wpList_build_as rfl 36 _ rfl (mt .zero) (by kernel_rfl) ?_ | refine wpList_build_as rfl 74 _ rfl (tn zeroF) (by kernel_rfl) ?_ | refine wpList_store_box rfl 36 _ _ rfl (w.heap.size + 2) (mt .zero) rfl rfl 36 (mt .zero) BR1 (by kernel_rfl) rfl (mt_one _) (fun w2 u => ?_) | refine wpList_store_box rfl 74 _ _ rfl (w.heap.size + 3) (tn zeroF) rfl rfl 74 (tn zeroF) (u.bx BF1 (by omega)) (by kernel_rfl) rfl (tn_one _) (fun w3 u2 => ?_))
      refine bodyPost_ret (results_box22 Try.results42 _ _ (w.heap.size + 2) (w.heap.size + 3) 36 74 (mt .zero) (tn zeroF) _ _ (.int .i64 4) rfl (u2.bx u.box (by omega)) rfl u2.box rfl Try.underlying36 rfl (by kernel_rfl) Try.underlying74 rfl (by kernel_rfl)) rfl ⟨rfl, ?_⟩
      exact ((b_cl hB0 (Nat.le_refl _) hb1).trans (u.bel _ (by omega))).trans (u2.bel _ (by omega))
  have hv : overV x m k n = ((walkV x k n.toNat m noneF).1, (walkV x k n.toNat m noneF).2, 0) := by unfold overV; rw [if_pos he, if_neg hr]
  rw [hv]
  dsimp only
  clear hv he
  obtain ⟨n', rfl⟩ : ∃ n' : Nat, n = (n' : Int) := ⟨n.toNat, by omega⟩
  rw [Int.toNat_natCast]
  obtain ⟨Mf, hMf⟩ : ∃ Mf, (walkV x k n' m noneF).1 = Mf := ⟨_, rfl⟩
  obtain ⟨Yf, hYf⟩ : ∃ Yf, (walkV x k n' m noneF).2 = Yf := ⟨_, rfl⟩
  rw [hMf, hYf]
  have HMF := Lib.hid hMf
  have HYF := Lib.hid hYf
  clear hMf hYf
  have f0 : ((((w.alloc (.cells (bk x) 23)).alloc (.cells (mt m) 36)).alloc (.cells (mt .zero) 36)).alloc (.cells (tn zeroF) 74)).cell? ⟨w.heap.size + 1, 0, none⟩ = some (.int .i64 m.now) := BM.cell rfl
  obtain ⟨nw, hnw⟩ : ∃ nw, m.now = nw := ⟨_, rfl⟩
  rw [hnw] at f0 hnow hr
  have HNW := Lib.hid hnw
  clear hnw
  have hw40 := wrap14 (40320 - nw) (by omega) (by omega)
  have d0 : decide ((n' : Int) < 0) = false := decide_eq_false (by omega)
  have d1 : decide (40320 - nw < (n' : Int)) = false := decide_eq_false (by omega)
  have d2 : ¬ 40320 - nw < (n' : Int) := by omega
  have d3 : ¬ (n' : Int) < 0 := by omega
  go_enter Try.func42, Try.ntmps42
  go_upto_region 6 with (first | refine wpList_load_bk (by rfl) 23 _ rfl _ _ rfl x _ (RB) Try.underlying23 rfl (by kernel_rfl) ?_ | refine wpList_load_box (by rfl) 36 _ rfl (w.heap.size + 1) rfl 36 (mt m) _ BM Try.underlying36 rfl (by kernel_rfl) ?_ | (go_at_call 66; (with_reducible refine (C1 _).mono ?_); rintro e w1 ⟨rfl, hb1⟩; have BR1 := BR.below hb1; have BF1 := BF.below hb1; have RB1 := RB.below hb1; have BM1 := BM.below hb1; have g0 := c_cl f0 hb1))
  (try go_frame)
  clear RB BM BR BF C1 f0
  have hz1 := hb1.size
  have hB1 := b_cl hB0 (Nat.le_refl _) hb1
  simp only [World.size_alloc] at hz1
  clear hb1 hB0 hz0 g0
  go_cut [2, 3, 12] (fun u2 u3 u12 wx => u2 = .int .i64 k ∧ u3 = .int .i64 (n' : Int) ∧ ∃ R : Nat, u12 = .pointer (some ⟨R, 0, none⟩) ∧ Bk wx R x k m noneF ∧ w1.heap.size ≤ R ∧ Below w1.heap.size w1 wx)
  case first =>
    refine wp_region_noPanic ?_
    refine wp_region_held_drew (S := fun w' => Below w1.heap.size w1 w') (by kernel_rfl) ?_ (fun hHeld => ?_)
    · exact b_dr (Below.refl _ _)
    refine wpAnyH_take (i := 0) (oi := ⟨some 33, _, _, _, _, _⟩) (v := .agg (bk x)) rfl (by kernel_rfl) (by kernel_rfl) (by kernel_rfl) (fun _ _ _ h => h) (Or.inl ⟨by rfl, fun w' hSw => exec_load w.heap.size 0 x _ w' rfl rfl (RB1.below hSw) Try.underlying23 rfl (by kernel_rfl)⟩) (by assumption) ?_
    (try simp only [Act.put, List.setIfInBounds_toArray, List.set_cons_zero, List.set_cons_succ])
    refine wpAnyH_take (i := 1) (oi := ⟨some 34, _, _, _, _, _⟩) (v := ?_) rfl (by kernel_rfl) (by kernel_rfl) (by kernel_rfl) (fun _ _ _ h => h) (Or.inl ⟨by rfl, ?_⟩) (by assumption) ?_
    rotate_left
    · (intro w' hSw; clear hSw; go_simp; try (with_reducible rfl))
    (try simp only [Act.put, List.setIfInBounds_toArray, List.set_cons_zero, List.set_cons_succ])
    refine wpAnyH_take (i := 2) (oi := ⟨some 35, _, _, _, _, _⟩) (v := .agg (mt m)) rfl (by kernel_rfl) (by kernel_rfl) (by kernel_rfl) (fun _ _ _ h => h) (Or.inl ⟨by rfl, fun w' hSw => exec_load_box (w.heap.size + 1) 36 _ _ w' rfl rfl (BM1.below hSw) Try.underlying36 rfl (by kernel_rfl)⟩) (by assumption) ?_
    (try simp only [Act.put, List.setIfInBounds_toArray, List.set_cons_zero, List.set_cons_succ])
    refine wpAnyH_ready (rs := [3, 5]) (by kernel_rfl) (by simp) ?_
    refine AllReadyH.cons (o := ⟨some 36, _, _, _, _, _⟩) rfl (fun K hK => ?_) (AllReadyH.cons (o := ⟨some 12, _, _, _, _, _⟩) rfl (fun K hK => ?_) AllReadyH.nil)
    ·
      go_simp
      (go_at_call 67; (with_reducible refine (none_any _).mono ?_); rintro e w2 ⟨rfl, hb2⟩)
      go_wp2_with fail
      refine hK.out _ _ (b_cl hHeld (Nat.le_refl _) (by assumption)) (fun hHeld => ?_)
      clear hK K
      (try simp only [Act.put, List.setIfInBounds_toArray, List.set_cons_zero, List.set_cons_succ])
      refine wpAnyH_take (i := 4) (oi := ⟨some 37, _, _, _, _, _⟩) (v := .agg (blk x k m noneF)) rfl (by kernel_rfl) (by kernel_rfl) (by kernel_rfl) (fun _ _ _ h => h) (Or.inl ⟨by rfl, fun w' hSw => exec_build _ _ rfl (by kernel_rfl)⟩) (by assumption) ?_
      (try simp only [Act.put, List.setIfInBounds_toArray, List.set_cons_zero, List.set_cons_succ])
      refine wpAnyH_ready (rs := [5]) (by kernel_rfl) (by simp) ?_
      refine AllReadyH.cons (o := ⟨some 12, _, _, _, _, _⟩) rfl (fun K hK => ?_) AllReadyH.nil
      refine wp_alloc_any 110 (blk zeroF 0 .zero zeroF) (by kernel_rfl) (fun g W' hg hA hbA => ?_)
      have hgN := Nat.le_trans hHeld.size hg
      refine hK.out _ _ (b_cl hHeld (Nat.le_refl _) hbA) (fun hHeld => ?_)
      clear hK K hbA hg
      (try simp only [Act.put, List.setIfInBounds_toArray, List.set_cons_zero, List.set_cons_succ])
      refine wpAnyH_ready (rs := [6]) (by kernel_rfl) (by simp) ?_
      refine AllReadyH.cons (o := ⟨none, _, _, _, _, _⟩) rfl (fun K hK => ?_) AllReadyH.nil
      refine wp_store_any 110 _ _ rfl g (blk x k m noneF) rfl rfl 110 (blk zeroF 0 .zero zeroF) hA (by kernel_rfl) rfl (blk_one _ _ _ _) (fun W' u => ?_)
      refine hK.out _ _ (hHeld.trans (u.bel _ hgN)) (fun hHeld => ?_)
      clear hK K
      (try simp only [Act.put])
      refine wpAnyH_done (by kernel_rfl) ?_ _
      refine NoPanic.normal ?_
      go_wp2_with fail
      go_meet
      exact ⟨rfl, rfl, g, rfl, u.box, hgN, hHeld⟩
    ·
      refine wp_alloc_any 110 (blk zeroF 0 .zero zeroF) (by kernel_rfl) (fun g W' hg hA hbA => ?_)
      have hgN := Nat.le_trans hHeld.size hg
      refine hK.out _ _ (b_cl hHeld (Nat.le_refl _) hbA) (fun hHeld => ?_)
      clear hK K hbA hg
      (try simp only [Act.put, List.setIfInBounds_toArray, List.set_cons_zero, List.set_cons_succ])
      refine wpAnyH_ready (rs := [3]) (by kernel_rfl) (by simp) ?_
      refine AllReadyH.cons (o := ⟨some 36, _, _, _, _, _⟩) rfl (fun K hK => ?_) AllReadyH.nil
      go_simp
      (go_at_call 67; (with_reducible refine (none_any _).mono ?_); rintro e w2 ⟨rfl, hb2⟩)
      go_wp2_with fail
      refine hK.out _ _ (b_cl hHeld (Nat.le_refl _) (by assumption)) (fun hHeld => ?_)
      replace hA := hA.below (by assumption)
      clear hK K
      (try simp only [Act.put, List.setIfInBounds_toArray, List.set_cons_zero, List.set_cons_succ])
      refine wpAnyH_take (i := 4) (oi := ⟨some 37, _, _, _, _, _⟩) (v := .agg (blk x k m noneF)) rfl (by kernel_rfl) (by kernel_rfl) (by kernel_rfl) (fun _ _ _ h => h) (Or.inl ⟨by rfl, fun w' hSw => exec_build _ _ rfl (by kernel_rfl)⟩) (by assumption) ?_
      (try simp only [Act.put, List.setIfInBounds_toArray, List.set_cons_zero, List.set_cons_succ])
      refine wpAnyH_ready (rs := [6]) (by kernel_rfl) (by simp) ?_
      refine AllReadyH.cons (o := ⟨none, _, _, _, _, _⟩) rfl (fun K hK => ?_) AllReadyH.nil
      refine wp_store_any 110 _ _ rfl g (blk x k m noneF) rfl rfl 110 (blk zeroF 0 .zero zeroF) hA (by kernel_rfl) rfl (blk_one _ _ _ _) (fun W' u => ?_)
      refine hK.out _ _ (hHeld.trans (u.bel _ hgN)) (fun hHeld => ?_)
      clear hK K
      (try simp only [Act.put])
      refine wpAnyH_done (by kernel_rfl) ?_ _
      refine NoPanic.normal ?_
      go_wp2_with fail
      go_meet
      exact ⟨rfl, rfl, g, rfl, u.box, hgN, hHeld⟩
  case rest =>
  obtain ⟨rfl, rfl, R, rfl, HR, hRw, hbe⟩ := hcut
  rename World => w2
  replace BR1 := BR1.below hbe
  replace BF1 := BF1.below hbe
  have hB2 := b_cl hB1 (Nat.le_refl _) hbe
  clear RB1 BM1 hbe hB1
  have C : BkTo w2 R x k m noneF w2 := Chg.refl HR
  clear HR
  go_upto_if 39 with fail
  go_cut [12] (fun u12 wx => u12 = .pointer (some ⟨R, 0, none⟩) ∧ BkTo w2 R x k Mf Yf wx)
  case first =>
    by_cases hp : n' = 0
    case pos =>
      subst hp
      have e1 : Mf = m := by rw [← HMF.out]; rfl
      have e2 : Yf = noneF := by rw [← HYF.out]; rfl
      subst e1 e2
      go_wp2
      go_meet
      exact ⟨rfl, C⟩
    case neg =>
      have dp : decide ((0 : Int) < (n' : Int)) = true := decide_eq_true (by omega)
      have dq : (0 : Int) < (n' : Int) := by omega
      have hlt : m.now < 40320 := by rw [HNW.out]; omega
      have FI := fun W h => first_any R x k m W h HM.out hlt HK.out HX.out
      have hs1 := may_step (x := x) k HM.out hlt
      obtain ⟨q, rfl⟩ : ∃ q, n' = q + 1 := ⟨n' - 1, by omega⟩
      have ON := fun W h => on_any R x k (stepM x m k) (recB (stepC x m k) noneF m.now) q W h (noted_first HM.out hlt) hs1.1 (by rw [hs1.2, HNW.out]; omega) HX.out
      have e1 : (walkV x k q (stepM x m k) (recB (stepC x m k) noneF m.now)).1 = Mf := HMF.out
      have e2 : (walkV x k q (stepM x m k) (recB (stepC x m k) noneF m.now)).2 = Yf := HYF.out
      rw [e1, e2] at ON
      clear e1 e2 hs1 hlt
      generalize stepM x m k = m1 at FI ON
      generalize recB (stepC x m k) noneF m.now = y1 at FI ON
      have hq1 : ((q + 1 : Nat) : Int) - 1 = (q : Nat) := by omega
      go_wp2_with (first
        | (go_at_call 68; (with_reducible refine (FI _ C.box).mono ?_); rintro e w3 ⟨rfl, c⟩; replace C : BkTo w2 R x k m1 y1 w3 := C.trans c; clear c)
        | (go_at_call 69; (refine (ON _ C.box).mono ?_); rintro e w4 ⟨rfl, c⟩; replace C : BkTo w2 R x k Mf Yf w4 := C.trans c; clear c))
      go_meet
      exact ⟨rfl, C⟩
  case rest =>
  clear C
  obtain ⟨rfl, C⟩ := hcut
  rename World => w5
  have hR3 := C.bx BR1 (by omega)
  have hF3 := C.bx BF1 (by omega)
  have hB5 := hB2.trans (C.bel _ (by omega) (by have := hB2.size; omega))
  have CB := C.box
  clear C BR1 BF1 hB2 HMF HYF
  go_upto_region 10 with fail
  refine wp_region_noPanic ?_
  refine wp_region_held_drew (S := fun w' => Bk w' R x k Mf Yf) (by kernel_rfl) ?_ (fun hHeld => ?_)
  · exact CB.drew
  refine wpAnyH_take (i := 0) (oi := ⟨some 44, _, _, _, _, _⟩) (v := ?_) rfl (by kernel_rfl) (by kernel_rfl) (by kernel_rfl) (fun _ _ _ h => h) (Or.inl ⟨by rfl, ?_⟩) (by assumption) ?_
  rotate_left
  · (intro w' hSw; clear hSw; go_simp; try (with_reducible rfl))
  (try simp only [Act.put, List.setIfInBounds_toArray, List.set_cons_zero, List.set_cons_succ])
  refine wpAnyH_take (i := 1) (oi := ⟨some 45, _, _, _, _, _⟩) (v := .agg (mt Mf)) rfl (by kernel_rfl) (by kernel_rfl) (by kernel_rfl) (fun _ _ _ h => h) (Or.inl ⟨by rfl, fun w' hSw => exec_load_mid R 20 (mt Mf) _ w' rfl rfl (Bk.meter hSw) Try.underlying36 rfl (by kernel_rfl)⟩) (by assumption) ?_
  (try simp only [Act.put, List.setIfInBounds_toArray, List.set_cons_zero, List.set_cons_succ])
  refine wpAnyH_take (i := 2) (oi := ⟨some 46, _, _, _, _, _⟩) (v := ?_) rfl (by kernel_rfl) (by kernel_rfl) (by kernel_rfl) (fun _ _ _ h => h) (Or.inl ⟨by rfl, ?_⟩) (by assumption) ?_
  rotate_left
  · (intro w' hSw; clear hSw; go_simp; try (with_reducible rfl))
  (try simp only [Act.put, List.setIfInBounds_toArray, List.set_cons_zero, List.set_cons_succ])
  refine wpAnyH_take (i := 3) (oi := ⟨some 47, _, _, _, _, _⟩) (v := .agg (tn Yf)) rfl (by kernel_rfl) (by kernel_rfl) (by kernel_rfl) (fun _ _ _ h => h) (Or.inl ⟨by rfl, fun w' hSw => exec_load_mid R 34 (tn Yf) _ w' rfl rfl (Bk.firsts hSw) Try.underlying74 rfl (by kernel_rfl)⟩) (by assumption) ?_
  (try simp only [Act.put, List.setIfInBounds_toArray, List.set_cons_zero, List.set_cons_succ])
  refine wpAnyH_ready (rs := [4]) (by kernel_rfl) (by simp) ?_
  refine AllReadyH.cons (o := ⟨none, _, _, _, _, _⟩) rfl (fun K hK => ?_) AllReadyH.nil
  refine wp_store_any 36 _ _ rfl (w.heap.size + 2) (mt Mf) rfl rfl 36 (mt .zero) hR3.drew (by kernel_rfl) rfl (mt_one _) (fun w6 u => ?_)
  refine hK.out _ _ (u.bx CB.drew (by omega)) (fun hHeld => ?_)
  clear hK K
  (try simp only [Act.put])
  refine wpAnyH_ready (rs := [5]) (by kernel_rfl) (by simp) ?_
  refine AllReadyH.cons (o := ⟨none, _, _, _, _, _⟩) rfl (fun K hK => ?_) AllReadyH.nil
  refine wp_store_any 74 _ _ rfl (w.heap.size + 3) (tn Yf) rfl rfl 74 (tn zeroF) (u.bx hF3.drew (by omega)) (by kernel_rfl) rfl (tn_one _) (fun w7 u2 => ?_)
  refine hK.out _ _ (u2.bx hHeld (by omega)) (fun hHeld => ?_)
  clear hK K
  (try simp only [Act.put])
  refine wpAnyH_take (i := 6) (oi := ⟨some 10, _, _, _, _, _⟩) (v := ?_) rfl (by kernel_rfl) (by kernel_rfl) (by kernel_rfl) (fun _ _ _ h => h) (Or.inl ⟨by rfl, ?_⟩) (by assumption) ?_
  rotate_left
  · (intro w' hSw; clear hSw; go_simp; try (with_reducible rfl))
  (try simp only [Act.put, List.setIfInBounds_toArray, List.set_cons_zero, List.set_cons_succ])
  refine wpAnyH_done (by kernel_rfl) ?_ _
  refine NoPanic.normal ?_
  go_wp2_with fail
  refine bodyPost_ret (results_box22 Try.results42 _ _ (w.heap.size + 2) (w.heap.size + 3) 36 74 (mt Mf) (tn Yf) _ _ (.int .i64 0) rfl (u2.bx u.box (by omega)) rfl u2.box rfl Try.underlying36 rfl (by kernel_rfl) Try.underlying74 rfl (by kernel_rfl)) rfl ⟨rfl, ?_⟩
  exact ((b_dr hB5).trans (u.bel _ (by omega))).trans (u2.bel _ (by omega))

end Go.Proofs.Ytlbafgdbemhanaa
