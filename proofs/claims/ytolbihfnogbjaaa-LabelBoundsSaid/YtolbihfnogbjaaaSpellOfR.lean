/- What the document's Of of layer 12 returns, for a book that may be and a spell that is right. Conditions: none. -/
import Derived.Test.YtolbihfnogbjaaaRows
import Derived.Test.YtolbihfnogbjaaaBase
import Derived.Test.YtolbihfnogbjaaaZ2
import Derived.Test.YtolbihfnogbjaaaBookNum
import Derived.Test.YtolbihfnogbjaaaBookOrd
import Derived.Test.YtolbihfnogbjaaaBookLim
import Derived.Test.YtolbihfnogbjaaaBookMayR
import Derived.Test.YtolbihfnogbjaaaIvalLeaf
import Derived.Test.YtolbihfnogbjaaaZ4
import Derived.Test.YtolbihfnogbjaaaZ5
import Derived.WalkKit
import Derived.WalkSpells
import Derived.WalkSmall
import Derived.Below
import Derived.Lib.Hide
import Derived.Shelf.Abstract
import Derived.BigQuiet
import Derived.OwnWalk
import Derived.Outline
import Derived.Deep.DeepCutAuto
namespace Go.Proofs.Ytolbihfnogbjaaa
open Go.RowKit

theorem SpW.whole {w : World} {g h r c : Nat} {T : TypeId} {x : Nat → Int} {f t : Int} {s s' : Wo} {W W' : World} (S : SpW w g h r c T x f t s W) (u : Upd W c T (wo s') W') : SpW w g h r c T x f t s' W' := by
  obtain ⟨l1, l2, l3, l4, l5⟩ := S.lt
  refine ⟨S.bel.trans (u.bel _ l4), S.lt, ⟨by rw [u.size]; exact S.bk.1, fun i hi => ?_⟩, ?_, ?_, u.bx S.res (by omega), u.box⟩
  · exact (u.cell (p := ⟨g, 0 + i, none⟩) (Nat.ne_of_lt l1)).trans (S.bk.2 i hi)
  · exact (u.cell (p := ⟨h, 0, none⟩) (Nat.ne_of_lt l2)).trans S.sp0
  · exact (u.cell (p := ⟨h, 1, none⟩) (Nat.ne_of_lt l2)).trans S.sp1

theorem lastB_not (l n : Int) : decide (l < n) = !lastB l n := by
  unfold lastB
  by_cases h : l < n
  · rw [decide_eq_true h, decide_eq_false (by omega)]; rfl
  · rw [decide_eq_false h, decide_eq_true (by omega)]; rfl

set_option maxRecDepth 100000 in
set_option maxHeartbeats 8000000 in
theorem refof12_any (x : Nat → Int) (f t dawn : Int) (half split : Bool) (w : World) (hm : May x) (b1 : f < t) (b2 : 0 ≤ f) (b3 : t ≤ 40320) (b4 : 0 ≤ dawn) (b5 : dawn ≤ f) :
    Calls Try.prog 46 #[.agg (bk x), .agg #[.int .i64 f, .int .i64 t], .int .i64 dawn, .bool half, .bool split] w fun e w' => e = .returned (.agg (wo (ofV x f t dawn half split))) ∧ Below w.heap.size w w' := by
  have r7 := may_time hm 7 (by omega)
  have r11 := may_time hm 11 (by omega)
  clear hm
  have D1 : Hid (decide (x 1 ≤ t - f) = lastB (t - f) (x 1)) := Lib.hid rfl
  have D3 : Hid (decide (x 3 ≤ t - f) = lastB (t - f) (x 3)) := Lib.hid rfl
  have D2 : Hid (decide (x 2 ≤ t - f) = lastB (t - f) (x 2)) := Lib.hid rfl
  have D10 : Hid (decide (x 10 ≤ t - f) = lastB (t - f) (x 10)) := Lib.hid rfl
  have D8 : Hid (decide (x 8 ≤ t - f) = lastB (t - f) (x 8)) := Lib.hid rfl
  have D13 : Hid (decide (x 13 ≤ t - f) = lastB (t - f) (x 13)) := Lib.hid rfl
  have D12 : Hid (decide (t - f < x 12) = !lastB (t - f) (x 12)) := Lib.hid (lastB_not _ _)
  obtain ⟨inn, hin⟩ : ∃ inn, min t (dawn + x 11) - f = inn := ⟨_, rfl⟩
  have D7 : Hid (decide (inn < x 7) = !lastB inn (x 7)) := Lib.hid (lastB_not _ _)
  unfold ofV
  rw [hin]
  generalize lastB (t - f) (x 1) = br at D1 ⊢
  generalize lastB (t - f) (x 3) = se at D3 ⊢
  generalize lastB (t - f) (x 2) = fi at D2 ⊢
  generalize lastB (t - f) (x 10) = pa at D10 ⊢
  generalize lastB (t - f) (x 8) = da at D8 ⊢
  generalize lastB (t - f) (x 13) = wk at D13 ⊢
  generalize lastB (t - f) (x 12) = fu at D12 ⊢
  generalize lastB inn (x 7) = rg at D7 ⊢
  have HI := Lib.hid hin
  clear hin
  have hbk : RdI (((w.alloc (.cells (bk x) 23)).alloc (.cells #[.int .i64 f, .int .i64 t] 102)).alloc (.cells (wo .zero) 105)) w.heap.size 0 x := (((RdI.new x 23 rfl).alloc _).alloc _)
  have hsb : Bx (((w.alloc (.cells (bk x) 23)).alloc (.cells #[.int .i64 f, .int .i64 t] 102)).alloc (.cells (wo .zero) 105)) (w.heap.size + 1) 102 #[.int .i64 f, .int .i64 t] := (Bx.new (W := w.alloc (.cells (bk x) 23)) 102 #[.int .i64 f, .int .i64 t] (by simp)).alloc _
  have hrs : Bx (((w.alloc (.cells (bk x) 23)).alloc (.cells #[.int .i64 f, .int .i64 t] 102)).alloc (.cells (wo .zero) 105)) (w.heap.size + 2) 105 (wo .zero) := Bx.new (W := (w.alloc (.cells (bk x) 23)).alloc (.cells #[.int .i64 f, .int .i64 t] 102)) 105 (wo .zero) (by simp)
  have hB : Below w.heap.size w (((w.alloc (.cells (bk x) 23)).alloc (.cells #[.int .i64 f, .int .i64 t] 102)).alloc (.cells (wo .zero) 105)) := b_al (b_al (b_al (Below.refl _ _) (Nat.le_refl _) _) (Nat.le_refl _) _) (Nat.le_refl _) _
  have hz : (((w.alloc (.cells (bk x) 23)).alloc (.cells #[.int .i64 f, .int .i64 t] 102)).alloc (.cells (wo .zero) 105)).heap.size = w.heap.size + 3 := by simp
  have hs0 : (((w.alloc (.cells (bk x) 23)).alloc (.cells #[.int .i64 f, .int .i64 t] 102)).alloc (.cells (wo .zero) 105)).cell? ⟨w.heap.size + 1, 0, none⟩ = some (.int .i64 f) := hsb.cell rfl
  have hs1 : (((w.alloc (.cells (bk x) 23)).alloc (.cells #[.int .i64 f, .int .i64 t] 102)).alloc (.cells (wo .zero) 105)).cell? ⟨w.heap.size + 1, 1, none⟩ = some (.int .i64 t) := hsb.cell rfl
  have q11 : (((w.alloc (.cells (bk x) 23)).alloc (.cells #[.int .i64 f, .int .i64 t] 102)).alloc (.cells (wo .zero) 105)).cell? ⟨w.heap.size, 11, none⟩ = some (.int .i64 (x 11)) := by have := hbk.2 11 (by omega); rwa [Nat.zero_add] at this
  have z11 := bk_at x 11 (by omega)
  go_enter Try.func46, Try.ntmps46
  go_upto_if 26 with fail
  go_cut [12] (fun s wx => s = .int .i64 inn ∧ (((w.alloc (.cells (bk x) 23)).alloc (.cells #[.int .i64 f, .int .i64 t] 102)).alloc (.cells (wo .zero) 105)) = wx)
  case first =>
    go_wp2
    all_goals (go_meet; refine ⟨?_, rfl⟩; refine congrArg (Value.int .i64) ?_; have := HI.out; omega)
  case rest =>
  obtain ⟨rfl, rfl⟩ := hcut
  clear q11 z11
  go_upto_region 6 with (first
    | refine wpList_build_as rfl 105 _ rfl (wo .zero) (by kernel_rfl) ?_
    | refine wpList_store_box rfl 105 _ _ rfl (w.heap.size + 3) (wo .zero) (by first | rfl | (simp; done)) rfl 105 (wo .zero) (Bx.new (W := (((w.alloc (.cells (bk x) 23)).alloc (.cells #[.int .i64 f, .int .i64 t] 102)).alloc (.cells (wo .zero) 105))) 105 (wo .zero) (by simp)) (by kernel_rfl) rfl (wo_one _) (fun W' u => ?_))
  go_frame
  have S : SpW w w.heap.size (w.heap.size + 1) (w.heap.size + 2) (w.heap.size + 3) 105 x f t ⟨false, false, false, false, false, false, false⟩ W' :=
    SpW.whole (s := .zero) ⟨b_al hB (by simp) _, by omega, hbk.alloc _, c_al _ hs0, c_al _ hs1, hrs.alloc _, Bx.new _ _ (by simp)⟩ u
  clear hB hbk hs0 hs1 hrs HI hsb hz u
  go_upto_region 6 with fail
  go_cut [] (fun  wx => SpW w w.heap.size (w.heap.size + 1) (w.heap.size + 2) (w.heap.size + 3) 105 x f t ⟨false, false, false, false, false, wk, false⟩ wx)
  case first =>
    obtain ⟨q1, q2, q3, q7, q8, q10, q11, q12, q13, v0, v1, v2, v3, v4, v5, v6⟩ := S.facts
    have d13 := D13.out
    go_wp2_with (first | (refine wpList_store_fld (by rfl) 4 _ _ rfl (w.heap.size + 3) 5 (.bool _) rfl rfl rfl _ _ S.cur (by rw [wo_size]; decide) (by kernel_rfl) (fun W' u => ?_); replace S := S.put5 u))
    all_goals (go_meet; refine S.cast ?_; simp [*])
  case rest =>
  have S := hcut; clear hcut
  go_upto_region 7 with fail
  go_cut [] (fun  wx => SpW w w.heap.size (w.heap.size + 1) (w.heap.size + 2) (w.heap.size + 3) 105 x f t ⟨false, false, false, false, false, wk, (wk && !fu)⟩ wx)
  case first =>
    obtain ⟨q1, q2, q3, q7, q8, q10, q11, q12, q13, v0, v1, v2, v3, v4, v5, v6⟩ := S.facts
    have d12 := D12.out
    go_wp2_with (first | (refine wpList_store_fld (by rfl) 4 _ _ rfl (w.heap.size + 3) 6 (.bool _) rfl rfl rfl _ _ S.cur (by rw [wo_size]; decide) (by kernel_rfl) (fun W' u => ?_); replace S := S.put6 u))
    all_goals (go_meet; refine S.cast ?_; simp [*])
  case rest =>
  have S := hcut; clear hcut
  go_upto_region 8 with fail
  go_cut [] (fun  wx => SpW w w.heap.size (w.heap.size + 1) (w.heap.size + 2) (w.heap.size + 3) 105 x f t ⟨false, false, false, da, false, wk, (wk && !fu)⟩ wx)
  case first =>
    obtain ⟨q1, q2, q3, q7, q8, q10, q11, q12, q13, v0, v1, v2, v3, v4, v5, v6⟩ := S.facts
    have d8 := D8.out
    go_wp2_with (first | (refine wpList_store_fld (by rfl) 4 _ _ rfl (w.heap.size + 3) 3 (.bool _) rfl rfl rfl _ _ S.cur (by rw [wo_size]; decide) (by kernel_rfl) (fun W' u => ?_); replace S := S.put3 u))
    all_goals (go_meet; refine S.cast ?_; simp [*])
  case rest =>
  have S := hcut; clear hcut
  go_upto_region 9 with fail
  go_cut [3, 4] (fun u3 u4 wx => u3 = .bool half ∧ u4 = .bool split ∧ SpW w w.heap.size (w.heap.size + 1) (w.heap.size + 2) (w.heap.size + 3) 105 x f t ⟨false, false, false, da, (da && !wk && !split && !rg), wk, (wk && !fu)⟩ wx)
  case first =>
    obtain ⟨q1, q2, q3, q7, q8, q10, q11, q12, q13, v0, v1, v2, v3, v4, v5, v6⟩ := S.facts
    have d7 := D7.out
    go_wp2_with (first | (refine wpList_store_fld (by rfl) 4 _ _ rfl (w.heap.size + 3) 4 (.bool _) rfl rfl rfl _ _ S.cur (by rw [wo_size]; decide) (by kernel_rfl) (fun W' u => ?_); replace S := S.put4 u))
    all_goals (go_meet; refine ⟨by simp [*], by simp [*], ?_⟩; refine S.cast ?_; simp [*])
  case rest =>
  obtain ⟨rfl, rfl, S⟩ := hcut
  go_upto_region 10 with fail
  go_cut [] (fun  wx => SpW w w.heap.size (w.heap.size + 1) (w.heap.size + 2) (w.heap.size + 3) 105 x f t ⟨false, false, (!da && pa), da, (da && !wk && !split && !rg), wk, (wk && !fu)⟩ wx)
  case first =>
    obtain ⟨q1, q2, q3, q7, q8, q10, q11, q12, q13, v0, v1, v2, v3, v4, v5, v6⟩ := S.facts
    have d10 := D10.out
    go_wp2_with (first | (refine wpList_store_fld (by rfl) 4 _ _ rfl (w.heap.size + 3) 2 (.bool _) rfl rfl rfl _ _ S.cur (by rw [wo_size]; decide) (by kernel_rfl) (fun W' u => ?_); replace S := S.put2 u))
    all_goals (go_meet; refine S.cast ?_; simp [*])
  case rest =>
  have S := hcut; clear hcut
  go_upto_region 11 with fail
  go_cut [3, 4] (fun u3 u4 wx => u3 = .bool half ∧ u4 = .bool split ∧ SpW w w.heap.size (w.heap.size + 1) (w.heap.size + 2) (w.heap.size + 3) 105 x f t ⟨(br || (half && se)), false, (!da && pa), da, (da && !wk && !split && !rg), wk, (wk && !fu)⟩ wx)
  case first =>
    obtain ⟨q1, q2, q3, q7, q8, q10, q11, q12, q13, v0, v1, v2, v3, v4, v5, v6⟩ := S.facts
    have d1 := D1.out
    have d3 := D3.out
    go_wp2_with (first | (refine wpList_store_fld (by rfl) 4 _ _ rfl (w.heap.size + 3) 0 (.bool _) rfl rfl rfl _ _ S.cur (by rw [wo_size]; decide) (by kernel_rfl) (fun W' u => ?_); replace S := S.put0 u))
    all_goals (go_meet; refine ⟨by simp [*], by simp [*], ?_⟩; refine S.cast ?_; simp [*])
  case rest =>
  obtain ⟨rfl, rfl, S⟩ := hcut
  go_upto_region 12 with fail
  go_cut [3, 4] (fun u3 u4 wx => u3 = .bool half ∧ u4 = .bool split ∧ SpW w w.heap.size (w.heap.size + 1) (w.heap.size + 2) (w.heap.size + 3) 105 x f t ⟨(br || (half && se)), (!(br || (half && se)) && (half || fi)), (!da && pa), da, (da && !wk && !split && !rg), wk, (wk && !fu)⟩ wx)
  case first =>
    obtain ⟨q1, q2, q3, q7, q8, q10, q11, q12, q13, v0, v1, v2, v3, v4, v5, v6⟩ := S.facts
    have d2 := D2.out
    go_wp2_with (first | (refine wpList_store_fld (by rfl) 4 _ _ rfl (w.heap.size + 3) 1 (.bool _) rfl rfl rfl _ _ S.cur (by rw [wo_size]; decide) (by kernel_rfl) (fun W' u => ?_); replace S := S.put1 u))
    all_goals (go_meet; refine ⟨by simp [*], by simp [*], ?_⟩; refine S.cast ?_; simp [*])
  case rest =>
  obtain ⟨rfl, rfl, S⟩ := hcut
  go_wp2_with (first
    | refine wpList_load_box (by rfl) 105 _ rfl (w.heap.size + 3) rfl 105 _ _ S.cur Try.underlying105 rfl (by kernel_rfl) ?_
    | refine wpList_store_box rfl 105 _ _ rfl (w.heap.size + 2) _ rfl rfl 105 (wo .zero) S.res (by kernel_rfl) rfl (wo_one _) (fun W' u => ?_))
  refine bodyPost_ret (results_box1 Try.results46 _ _ (w.heap.size + 2) 105 _ _ rfl u.box Try.underlying105 rfl (by kernel_rfl)) rfl ⟨rfl, ?_⟩
  exact S.bel.trans (u.bel _ S.lt.2.2.2.2)

end Go.Proofs.Ytolbihfnogbjaaa
