/- What Of of layer 12 returns, for any book and any spell. Conditions: none. -/
import Derived.Test.YtolbihfnogbjaaaRows
import Derived.Test.YtolbihfnogbjaaaBase
import Derived.Test.YtolbihfnogbjaaaZ2
import Derived.Test.YtolbihfnogbjaaaBookNum
import Derived.Test.YtolbihfnogbjaaaBookOrd
import Derived.Test.YtolbihfnogbjaaaBookLim
import Derived.Test.YtolbihfnogbjaaaBookMayR
import Derived.Test.YtolbihfnogbjaaaIvalLeaf
import Derived.Test.YtolbihfnogbjaaaZ4
import Derived.Test.YtolbihfnogbjaaaZ5
import Derived.WalkKit
import Derived.WalkSpells
import Derived.WalkSmall
import Derived.Below
import Derived.Lib.Hide
import Derived.Shelf.Abstract
import Derived.BigQuiet
import Derived.OwnWalk
import Derived.Outline
import Derived.Deep.DeepCutAuto
namespace Go.Proofs.Ytolbihfnogbjaaa
open Go.RowKit

set_option maxRecDepth 100000 in
set_option maxHeartbeats 4000000 in
theorem of_bad (x : Nat → Int) (f t dawn : Int) (half split : Bool) (w : World) (hc : spellErr x f t dawn ≠ 0) :
    Calls Try.prog 73 #[.agg (bk x), .agg #[.int .i64 f, .int .i64 t], .int .i64 dawn, .bool half, .bool split] w fun e w' => e = .returned (.tuple #[.agg (wo .zero), .int .i64 (spellErr x f t dawn)]) ∧ Below w.heap.size w w' := by
  have C1 := fun W => scheck_any x f t dawn W
  generalize spellErr x f t dawn = er at C1 hc ⊢
  have he : (er != 0) = true := by simpa using hc
  have he' : (er == 0) = false := by simpa using hc
  clear hc
  go_enter Try.func73, Try.ntmps73
  go_wp2_with (first
    | refine wpList_load_bk (by rfl) 23 _ rfl _ _ rfl x _ (((RdI.new x 23 rfl).alloc _).alloc _) Try.underlying23 rfl (by kernel_rfl) ?_
    | (go_at_call 76; (with_reducible refine (C1 _).mono ?_); rintro e w1 ⟨rfl, hb1⟩)
    | refine wpList_build_as rfl 129 _ rfl (wo .zero) (by kernel_rfl) ?_
    | refine wpList_store_box rfl 129 _ _ rfl (w.heap.size + 2) (wo .zero) (by first | rfl | (simp; done)) rfl 129 (wo .zero) ((Bx.new (W := (w.alloc (.cells (bk x) 23)).alloc (.cells #[.int .i64 f, .int .i64 t] 102)) 129 (wo .zero) (by simp)).below hb1) (by kernel_rfl) rfl (wo_one _) (fun W' u => ?_))
  refine bodyPost_ret (results_box2 Try.results73 _ _ (w.heap.size + 2) 129 (wo .zero) _ (.int .i64 er) rfl u.box rfl Try.underlying129 rfl (by kernel_rfl)) rfl ⟨rfl, ?_⟩
  have hz := hb1.size
  simp at hz
  exact (b_cl (b_al (b_al (b_al (Below.refl _ _) (Nat.le_refl _) _) (Nat.le_refl _) _) (Nat.le_refl _) _) (Nat.le_refl _) hb1).trans (u.bel _ (by omega))

set_option maxRecDepth 100000 in
set_option maxHeartbeats 8000000 in
theorem of_good (x : Nat → Int) (f t dawn : Int) (half split : Bool) (w : World) (hm : May x) (b1 : f < t) (b2 : 0 ≤ f) (b3 : t ≤ 40320) (b4 : 0 ≤ dawn) (b5 : dawn ≤ f) :
    Calls Try.prog 73 #[.agg (bk x), .agg #[.int .i64 f, .int .i64 t], .int .i64 dawn, .bool half, .bool split] w fun e w' => e = .returned (.tuple #[.agg (wo (ofV x f t dawn half split)), .int .i64 0]) ∧ Below w.heap.size w w' := by
  have eg : ∀ args w, (callFunc 77 args).run Try.prog w = .ok (.enter 77 args) w := enters_of Try.func77 (by kernel_rfl) rfl
  have r7 := may_time hm 7 (by omega)
  have r11 := may_time hm 11 (by omega)
  have C1 := fun W => scheck_any x f t dawn W
  rw [spellErr_ok.2 ⟨hm, b1, b2, b3, b4, b5⟩] at C1
  clear hm
  have L1 := fun g W h0 h1 => lasts_any g f t (x 1) W h0 h1 b2 (by omega) b3
  have L3 := fun g W h0 h1 => lasts_any g f t (x 3) W h0 h1 b2 (by omega) b3
  have L2 := fun g W h0 h1 => lasts_any g f t (x 2) W h0 h1 b2 (by omega) b3
  have L10 := fun g W h0 h1 => lasts_any g f t (x 10) W h0 h1 b2 (by omega) b3
  have L8 := fun g W h0 h1 => lasts_any g f t (x 8) W h0 h1 b2 (by omega) b3
  have L13 := fun g W h0 h1 => lasts_any g f t (x 13) W h0 h1 b2 (by omega) b3
  have L12 := fun g W h0 h1 => lasts_any g f t (x 12) W h0 h1 b2 (by omega) b3
  unfold ofV
  generalize lastB (t - f) (x 1) = br at L1 ⊢
  generalize lastB (t - f) (x 3) = se at L3 ⊢
  generalize lastB (t - f) (x 2) = fi at L2 ⊢
  generalize lastB (t - f) (x 10) = pa at L10 ⊢
  generalize lastB (t - f) (x 8) = da at L8 ⊢
  generalize lastB (t - f) (x 13) = wk at L13 ⊢
  generalize lastB (t - f) (x 12) = fu at L12 ⊢
  obtain ⟨rg, hrg⟩ : ∃ rg, lastB (min t (dawn + x 11) - f) (x 7) = rg := ⟨_, rfl⟩
  rw [hrg]
  have HG := Lib.hid hrg
  clear hrg
  go_enter Try.func73, Try.ntmps73
  go_upto_region 5 with (first | refine wpList_load_bk (by rfl) 23 _ rfl _ _ rfl x _ (((RdI.new x 23 rfl).alloc _).alloc _) Try.underlying23 rfl (by kernel_rfl) ?_ | (go_at_call 76; (with_reducible refine (C1 _).mono ?_); rintro e w1 ⟨rfl, hb1⟩))
  have hz := hb1.size
  simp at hz
  have hB : Below w.heap.size w w1 := b_cl (b_al (b_al (b_al (Below.refl _ _) (Nat.le_refl _) _) (Nat.le_refl _) _) (Nat.le_refl _) _) (Nat.le_refl _) hb1
  have hbk : RdI w1 w.heap.size 0 x := RdI.below (((RdI.new x 23 rfl).alloc _).alloc _) hb1
  have hsb : Bx w1 (w.heap.size + 1) 102 #[.int .i64 f, .int .i64 t] := ((Bx.new (W := w.alloc (.cells (bk x) 23)) 102 #[.int .i64 f, .int .i64 t] (by simp)).alloc _).below hb1
  have hs0 : w1.cell? ⟨w.heap.size + 1, 0, none⟩ = some (.int .i64 f) := hsb.cell rfl
  have hs1 : w1.cell? ⟨w.heap.size + 1, 1, none⟩ = some (.int .i64 t) := hsb.cell rfl
  have hrs : Bx w1 (w.heap.size + 2) 129 (wo .zero) := (Bx.new (W := (w.alloc (.cells (bk x) 23)).alloc (.cells #[.int .i64 f, .int .i64 t] 102)) 129 (wo .zero) (by simp)).below hb1
  clear hb1 hsb
  go_cut [14] (fun s wx => s = .bool rg ∧ w1 = wx)
  case first =>
    have q7 : w1.cell? ⟨w.heap.size, 7, none⟩ = some (.int .i64 (x 7)) := by have := hbk.2 7 (by omega); rwa [Nat.zero_add] at this
    have q11 : w1.cell? ⟨w.heap.size, 11, none⟩ = some (.int .i64 (x 11)) := by have := hbk.2 11 (by omega); rwa [Nat.zero_add] at this
    by_cases hq : t ≤ dawn + x 11
    · have hd : decide (x 7 ≤ t - f) = rg := by rw [← HG.out]; unfold lastB; rw [show min t (dawn + x 11) = t by omega]
      go_wp2
      go_meet
      exact ⟨by first | rfl | (rw [show min t (dawn + x 11) = t by omega]; exact congrArg Value.bool hd), rfl⟩
    · have hq' : dawn + x 11 < t := by omega
      have hd : decide (x 7 ≤ dawn + x 11 - f) = rg := by rw [← HG.out]; unfold lastB; rw [show min t (dawn + x 11) = dawn + x 11 by omega]
      clear hq
      go_wp2
      go_meet
      exact ⟨by first | rfl | (rw [show min t (dawn + x 11) = dawn + x 11 by omega]; exact congrArg Value.bool hd), rfl⟩
  case rest =>
  obtain ⟨rfl, rfl⟩ := hcut
  go_upto_region 7 with fail
  have S : SpW w w.heap.size (w.heap.size + 1) (w.heap.size + 2) w1.heap.size 129 x f t ⟨false, false, false, false, false, false, false⟩ (w1.alloc (.cells #[.bool false, .bool false, .bool false, .bool false, .bool false, .bool false, .bool false] 129)) :=
    ⟨b_al hB (by omega) _, by omega, hbk.alloc _, c_al _ hs0, c_al _ hs1, hrs.alloc _, Bx.new _ _ rfl⟩
  clear hB hbk hs0 hs1 hrs HG
  go_upto_region 7 with fail
  go_cut [] (fun  wx => SpW w w.heap.size (w.heap.size + 1) (w.heap.size + 2) (w1.heap.size) 129 x f t ⟨false, false, false, false, false, wk, false⟩ wx)
  case first =>
    obtain ⟨q1, q2, q3, q7, q8, q10, q11, q12, q13, v0, v1, v2, v3, v4, v5, v6⟩ := S.facts
    have s0 := S.sp0
    have s1 := S.sp1
    go_wp2_with (first | (refine wpList_store_fld (by rfl) 4 _ _ rfl (w1.heap.size) 5 (.bool _) rfl rfl rfl _ _ S.cur (by rw [wo_size]; decide) (by kernel_rfl) (fun W' u => ?_); replace S := S.put5 u) | (go_at_fn 77; (with_reducible refine (L1 _ _ S.sp0 S.sp1).mono ?_); rintro e w' ⟨rfl, rfl⟩) | (go_at_fn 77; (with_reducible refine (L3 _ _ S.sp0 S.sp1).mono ?_); rintro e w' ⟨rfl, rfl⟩) | (go_at_fn 77; (with_reducible refine (L2 _ _ S.sp0 S.sp1).mono ?_); rintro e w' ⟨rfl, rfl⟩) | (go_at_fn 77; (with_reducible refine (L10 _ _ S.sp0 S.sp1).mono ?_); rintro e w' ⟨rfl, rfl⟩) | (go_at_fn 77; (with_reducible refine (L8 _ _ S.sp0 S.sp1).mono ?_); rintro e w' ⟨rfl, rfl⟩) | (go_at_fn 77; (with_reducible refine (L13 _ _ S.sp0 S.sp1).mono ?_); rintro e w' ⟨rfl, rfl⟩) | (go_at_fn 77; (with_reducible refine (L12 _ _ S.sp0 S.sp1).mono ?_); rintro e w' ⟨rfl, rfl⟩))
    all_goals (go_meet; refine S.cast ?_; simp [*])
  case rest =>
  have S := hcut; clear hcut
  go_upto_region 8 with fail
  go_cut [] (fun  wx => SpW w w.heap.size (w.heap.size + 1) (w.heap.size + 2) (w1.heap.size) 129 x f t ⟨false, false, false, false, false, wk, (wk && !fu)⟩ wx)
  case first =>
    obtain ⟨q1, q2, q3, q7, q8, q10, q11, q12, q13, v0, v1, v2, v3, v4, v5, v6⟩ := S.facts
    have s0 := S.sp0
    have s1 := S.sp1
    go_wp2_with (first | (refine wpList_store_fld (by rfl) 4 _ _ rfl (w1.heap.size) 6 (.bool _) rfl rfl rfl _ _ S.cur (by rw [wo_size]; decide) (by kernel_rfl) (fun W' u => ?_); replace S := S.put6 u) | (go_at_fn 77; (with_reducible refine (L1 _ _ S.sp0 S.sp1).mono ?_); rintro e w' ⟨rfl, rfl⟩) | (go_at_fn 77; (with_reducible refine (L3 _ _ S.sp0 S.sp1).mono ?_); rintro e w' ⟨rfl, rfl⟩) | (go_at_fn 77; (with_reducible refine (L2 _ _ S.sp0 S.sp1).mono ?_); rintro e w' ⟨rfl, rfl⟩) | (go_at_fn 77; (with_reducible refine (L10 _ _ S.sp0 S.sp1).mono ?_); rintro e w' ⟨rfl, rfl⟩) | (go_at_fn 77; (with_reducible refine (L8 _ _ S.sp0 S.sp1).mono ?_); rintro e w' ⟨rfl, rfl⟩) | (go_at_fn 77; (with_reducible refine (L13 _ _ S.sp0 S.sp1).mono ?_); rintro e w' ⟨rfl, rfl⟩) | (go_at_fn 77; (with_reducible refine (L12 _ _ S.sp0 S.sp1).mono ?_); rintro e w' ⟨rfl, rfl⟩))
    all_goals (go_meet; refine S.cast ?_; simp [*])
  case rest =>
  have S := hcut; clear hcut
  go_upto_region 9 with fail
  go_cut [] (fun  wx => SpW w w.heap.size (w.heap.size + 1) (w.heap.size + 2) (w1.heap.size) 129 x f t ⟨false, false, false, da, false, wk, (wk && !fu)⟩ wx)
  case first =>
    obtain ⟨q1, q2, q3, q7, q8, q10, q11, q12, q13, v0, v1, v2, v3, v4, v5, v6⟩ := S.facts
    have s0 := S.sp0
    have s1 := S.sp1
    go_wp2_with (first | (refine wpList_store_fld (by rfl) 4 _ _ rfl (w1.heap.size) 3 (.bool _) rfl rfl rfl _ _ S.cur (by rw [wo_size]; decide) (by kernel_rfl) (fun W' u => ?_); replace S := S.put3 u) | (go_at_fn 77; (with_reducible refine (L1 _ _ S.sp0 S.sp1).mono ?_); rintro e w' ⟨rfl, rfl⟩) | (go_at_fn 77; (with_reducible refine (L3 _ _ S.sp0 S.sp1).mono ?_); rintro e w' ⟨rfl, rfl⟩) | (go_at_fn 77; (with_reducible refine (L2 _ _ S.sp0 S.sp1).mono ?_); rintro e w' ⟨rfl, rfl⟩) | (go_at_fn 77; (with_reducible refine (L10 _ _ S.sp0 S.sp1).mono ?_); rintro e w' ⟨rfl, rfl⟩) | (go_at_fn 77; (with_reducible refine (L8 _ _ S.sp0 S.sp1).mono ?_); rintro e w' ⟨rfl, rfl⟩) | (go_at_fn 77; (with_reducible refine (L13 _ _ S.sp0 S.sp1).mono ?_); rintro e w' ⟨rfl, rfl⟩) | (go_at_fn 77; (with_reducible refine (L12 _ _ S.sp0 S.sp1).mono ?_); rintro e w' ⟨rfl, rfl⟩))
    all_goals (go_meet; refine S.cast ?_; simp [*])
  case rest =>
  have S := hcut; clear hcut
  go_upto_region 10 with fail
  go_cut [3, 4, 14] (fun u3 u4 u14 wx => u3 = .bool half ∧ u4 = .bool split ∧ u14 = .bool rg ∧ SpW w w.heap.size (w.heap.size + 1) (w.heap.size + 2) (w1.heap.size) 129 x f t ⟨false, false, false, da, (da && !wk && !split && !rg), wk, (wk && !fu)⟩ wx)
  case first =>
    obtain ⟨q1, q2, q3, q7, q8, q10, q11, q12, q13, v0, v1, v2, v3, v4, v5, v6⟩ := S.facts
    have s0 := S.sp0
    have s1 := S.sp1
    go_wp2_with (first | (refine wpList_store_fld (by rfl) 4 _ _ rfl (w1.heap.size) 4 (.bool _) rfl rfl rfl _ _ S.cur (by rw [wo_size]; decide) (by kernel_rfl) (fun W' u => ?_); replace S := S.put4 u) | (go_at_fn 77; (with_reducible refine (L1 _ _ S.sp0 S.sp1).mono ?_); rintro e w' ⟨rfl, rfl⟩) | (go_at_fn 77; (with_reducible refine (L3 _ _ S.sp0 S.sp1).mono ?_); rintro e w' ⟨rfl, rfl⟩) | (go_at_fn 77; (with_reducible refine (L2 _ _ S.sp0 S.sp1).mono ?_); rintro e w' ⟨rfl, rfl⟩) | (go_at_fn 77; (with_reducible refine (L10 _ _ S.sp0 S.sp1).mono ?_); rintro e w' ⟨rfl, rfl⟩) | (go_at_fn 77; (with_reducible refine (L8 _ _ S.sp0 S.sp1).mono ?_); rintro e w' ⟨rfl, rfl⟩) | (go_at_fn 77; (with_reducible refine (L13 _ _ S.sp0 S.sp1).mono ?_); rintro e w' ⟨rfl, rfl⟩) | (go_at_fn 77; (with_reducible refine (L12 _ _ S.sp0 S.sp1).mono ?_); rintro e w' ⟨rfl, rfl⟩))
    all_goals (go_meet; refine ⟨by simp [*], by simp [*], by simp [*], ?_⟩; refine S.cast ?_; simp [*])
  case rest =>
  obtain ⟨rfl, rfl, rfl, S⟩ := hcut
  go_upto_region 11 with fail
  go_cut [] (fun  wx => SpW w w.heap.size (w.heap.size + 1) (w.heap.size + 2) (w1.heap.size) 129 x f t ⟨false, false, (!da && pa), da, (da && !wk && !split && !rg), wk, (wk && !fu)⟩ wx)
  case first =>
    obtain ⟨q1, q2, q3, q7, q8, q10, q11, q12, q13, v0, v1, v2, v3, v4, v5, v6⟩ := S.facts
    have s0 := S.sp0
    have s1 := S.sp1
    go_wp2_with (first | (refine wpList_store_fld (by rfl) 4 _ _ rfl (w1.heap.size) 2 (.bool _) rfl rfl rfl _ _ S.cur (by rw [wo_size]; decide) (by kernel_rfl) (fun W' u => ?_); replace S := S.put2 u) | (go_at_fn 77; (with_reducible refine (L1 _ _ S.sp0 S.sp1).mono ?_); rintro e w' ⟨rfl, rfl⟩) | (go_at_fn 77; (with_reducible refine (L3 _ _ S.sp0 S.sp1).mono ?_); rintro e w' ⟨rfl, rfl⟩) | (go_at_fn 77; (with_reducible refine (L2 _ _ S.sp0 S.sp1).mono ?_); rintro e w' ⟨rfl, rfl⟩) | (go_at_fn 77; (with_reducible refine (L10 _ _ S.sp0 S.sp1).mono ?_); rintro e w' ⟨rfl, rfl⟩) | (go_at_fn 77; (with_reducible refine (L8 _ _ S.sp0 S.sp1).mono ?_); rintro e w' ⟨rfl, rfl⟩) | (go_at_fn 77; (with_reducible refine (L13 _ _ S.sp0 S.sp1).mono ?_); rintro e w' ⟨rfl, rfl⟩) | (go_at_fn 77; (with_reducible refine (L12 _ _ S.sp0 S.sp1).mono ?_); rintro e w' ⟨rfl, rfl⟩))
    all_goals (go_meet; refine S.cast ?_; simp [*])
  case rest =>
  have S := hcut; clear hcut
  go_upto_region 12 with fail
  go_cut [3, 4, 14] (fun u3 u4 u14 wx => u3 = .bool half ∧ u4 = .bool split ∧ u14 = .bool rg ∧ SpW w w.heap.size (w.heap.size + 1) (w.heap.size + 2) (w1.heap.size) 129 x f t ⟨(br || (half && se)), false, (!da && pa), da, (da && !wk && !split && !rg), wk, (wk && !fu)⟩ wx)
  case first =>
    obtain ⟨q1, q2, q3, q7, q8, q10, q11, q12, q13, v0, v1, v2, v3, v4, v5, v6⟩ := S.facts
    have s0 := S.sp0
    have s1 := S.sp1
    go_wp2_with (first | (refine wpList_store_fld (by rfl) 4 _ _ rfl (w1.heap.size) 0 (.bool _) rfl rfl rfl _ _ S.cur (by rw [wo_size]; decide) (by kernel_rfl) (fun W' u => ?_); replace S := S.put0 u) | (go_at_fn 77; (with_reducible refine (L1 _ _ S.sp0 S.sp1).mono ?_); rintro e w' ⟨rfl, rfl⟩) | (go_at_fn 77; (with_reducible refine (L3 _ _ S.sp0 S.sp1).mono ?_); rintro e w' ⟨rfl, rfl⟩) | (go_at_fn 77; (with_reducible refine (L2 _ _ S.sp0 S.sp1).mono ?_); rintro e w' ⟨rfl, rfl⟩) | (go_at_fn 77; (with_reducible refine (L10 _ _ S.sp0 S.sp1).mono ?_); rintro e w' ⟨rfl, rfl⟩) | (go_at_fn 77; (with_reducible refine (L8 _ _ S.sp0 S.sp1).mono ?_); rintro e w' ⟨rfl, rfl⟩) | (go_at_fn 77; (with_reducible refine (L13 _ _ S.sp0 S.sp1).mono ?_); rintro e w' ⟨rfl, rfl⟩) | (go_at_fn 77; (with_reducible refine (L12 _ _ S.sp0 S.sp1).mono ?_); rintro e w' ⟨rfl, rfl⟩))
    all_goals (go_meet; refine ⟨by simp [*], by simp [*], by simp [*], ?_⟩; refine S.cast ?_; simp [*])
  case rest =>
  obtain ⟨rfl, rfl, rfl, S⟩ := hcut
  go_upto_region 13 with fail
  go_cut [3, 4, 14] (fun u3 u4 u14 wx => u3 = .bool half ∧ u4 = .bool split ∧ u14 = .bool rg ∧ SpW w w.heap.size (w.heap.size + 1) (w.heap.size + 2) (w1.heap.size) 129 x f t ⟨(br || (half && se)), (!(br || (half && se)) && (half || fi)), (!da && pa), da, (da && !wk && !split && !rg), wk, (wk && !fu)⟩ wx)
  case first =>
    obtain ⟨q1, q2, q3, q7, q8, q10, q11, q12, q13, v0, v1, v2, v3, v4, v5, v6⟩ := S.facts
    have s0 := S.sp0
    have s1 := S.sp1
    go_wp2_with (first | (refine wpList_store_fld (by rfl) 4 _ _ rfl (w1.heap.size) 1 (.bool _) rfl rfl rfl _ _ S.cur (by rw [wo_size]; decide) (by kernel_rfl) (fun W' u => ?_); replace S := S.put1 u) | (go_at_fn 77; (with_reducible refine (L1 _ _ S.sp0 S.sp1).mono ?_); rintro e w' ⟨rfl, rfl⟩) | (go_at_fn 77; (with_reducible refine (L3 _ _ S.sp0 S.sp1).mono ?_); rintro e w' ⟨rfl, rfl⟩) | (go_at_fn 77; (with_reducible refine (L2 _ _ S.sp0 S.sp1).mono ?_); rintro e w' ⟨rfl, rfl⟩) | (go_at_fn 77; (with_reducible refine (L10 _ _ S.sp0 S.sp1).mono ?_); rintro e w' ⟨rfl, rfl⟩) | (go_at_fn 77; (with_reducible refine (L8 _ _ S.sp0 S.sp1).mono ?_); rintro e w' ⟨rfl, rfl⟩) | (go_at_fn 77; (with_reducible refine (L13 _ _ S.sp0 S.sp1).mono ?_); rintro e w' ⟨rfl, rfl⟩) | (go_at_fn 77; (with_reducible refine (L12 _ _ S.sp0 S.sp1).mono ?_); rintro e w' ⟨rfl, rfl⟩))
    all_goals (go_meet; refine ⟨by simp [*], by simp [*], by simp [*], ?_⟩; refine S.cast ?_; simp [*])
  case rest =>
  obtain ⟨rfl, rfl, rfl, S⟩ := hcut
  go_wp2_with (first
    | refine wpList_load_box (by rfl) 129 _ rfl (w1.heap.size) rfl 129 _ _ S.cur Try.underlying129 rfl (by kernel_rfl) ?_
    | refine wpList_store_box rfl 129 _ _ rfl (w.heap.size + 2) _ rfl rfl 129 (wo .zero) S.res (by kernel_rfl) rfl (wo_one _) (fun W' u => ?_))
  refine bodyPost_ret (results_box2 Try.results73 _ _ (w.heap.size + 2) 129 _ _ (.int .i64 0) rfl u.box rfl Try.underlying129 rfl (by kernel_rfl)) rfl ⟨rfl, ?_⟩
  exact S.bel.trans (u.bel _ S.lt.2.2.2.2)

end Go.Proofs.Ytolbihfnogbjaaa
