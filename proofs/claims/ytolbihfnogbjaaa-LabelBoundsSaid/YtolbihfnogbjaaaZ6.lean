/- Plain facts, several texts in one: MeterMin, MeterRun, MeterStep. Conditions: none beyond each lemma's own premises. -/
import Derived.Test.YtolbihfnogbjaaaRows
import Derived.Test.YtolbihfnogbjaaaBase
import Derived.Test.YtolbihfnogbjaaaZ2
import Derived.Test.YtolbihfnogbjaaaZ4
import Derived.Test.YtolbihfnogbjaaaMeterDrive
import Derived.Test.YtolbihfnogbjaaaMeterRise
import Derived.Test.YtolbihfnogbjaaaMeterUp
import Derived.WalkKit
import Derived.WalkSpells
import Derived.WalkSmall
import Derived.Below
import Derived.Lib.Hide
import Derived.Shelf.Abstract
import Derived.BigQuiet
import Derived.OwnWalk
import Derived.Outline
import Derived.Deep.DeepCutAuto
import Derived.StillTailTactics
import Derived.Maps.RangeWalk
import Derived.Test.YtolbihfnogbjaaaBookLim
import Derived.Test.YtolbihfnogbjaaaZ1
import Derived.Great.BuildSlice
import Derived.Deep.RegionHeld3
import Derived.Deep.MidRow
import Derived.OrdersHeld

/- What minute of layer 13 leaves. Conditions: as the theorem says. -/
namespace Go.Proofs.Ytolbihfnogbjaaa
open Go.RowKit

theorem Chg.drewN {W W1 : World} {g : Nat} {t : TypeId} {cs : Array Value} (c : Chg W g t cs W1) (k : Nat) : Chg W g t cs (W1.drewN k) := ⟨c.size, c.box.drewN, c.other, fun n hn hl => b_dn (c.bel n hn hl)⟩

theorem may_len {x : Nat → Int} (h : May x) : 1 ≤ x 18 ∧ x 18 ≤ 40320 := by
  have := h.1 18 (by omega)
  unfold lim at this
  split at this <;> omega

set_option maxRecDepth 100000 in
set_option maxHeartbeats 4000000 in
theorem minute_any (g : Nat) (x : Nat → Int) (m : Mt) (n : Nat) (k : Int) (w : World) (hb : Cn w g x m n) (hn : n < 1024) (hm : MayM m) (hlt : m.now < 40320) (hx : May x) :
    Calls Try.prog 52 #[.pointer (some ⟨g, 0, none⟩), .int .i64 k] w fun e w' => e = .returned (.tuple #[]) ∧ CnTo w g x (stepM x m k) (n ||| stepC x m k) w' := by
  obtain ⟨h18, h18'⟩ := may_len hx
  have UP := fun W h => up_any g x (wrapM x m) n k W h hn (may_wrap (x := x) hm).1 hx
  have hup := (le_up (x := x) k (may_wrap (x := x) hm).1).2
  have hwn := (may_wrap (x := x) hm).2
  rw [hwn] at hup
  rw [Cl.into_eq] at UP
  unfold stepM stepC
  dsimp only
  generalize (upC x (wrapM x m) k).sum = sm at UP ⊢
  obtain ⟨U, hU⟩ : ∃ U, upM x (wrapM x m) k = U := ⟨_, rfl⟩
  rw [hU] at UP hup
  rw [hU]
  clear hU hx
  have hr := (may_wrap (x := x) hm).1
  have hw : wrapM x m = (if 0 < m.now ∧ m.now % x 18 = 0 then { m with last := m.week, week := 0, labour := 0 } else m) := rfl
  obtain ⟨WR, hWR⟩ : ∃ WR, wrapM x m = WR := ⟨_, rfl⟩
  rw [hWR] at UP hr hwn hw
  rw [hWR]
  clear hWR
  have hn0 := hm.1.1
  clear hm
  obtain ⟨a0, a1, a2, a3, a4, a5, a6, a7, a8, a9, a10, a11, a12, a13⟩ := m
  dsimp only at hup hwn hw hlt hn0
  obtain ⟨t0, t1, t2, t3, t4, t5, t6, t7, t8, t9, t10, t11, t12, t13⟩ := U
  dsimp only at hup
  subst hup
  have C : CnTo w g x ⟨t0, a1, a2, a3, a4, a5, a6, a7, a8, a9, a10, a11, a12, a13⟩ n w := Chg.refl hb
  clear hb
  have f19 : w.cell? ⟨g, 19, none⟩ = some (.int .i64 t0) := C.box.cell rfl
  have f18 : w.cell? ⟨g, 18, none⟩ = some (.int .i64 (x 18)) := C.box.cell rfl
  by_cases hk : k = 0
  case pos =>
    subst hk
    rw [if_pos rfl, if_pos rfl, Nat.or_zero]
    clear UP
    by_cases h0 : 0 < t0
    case neg =>
      rw [if_neg (fun h => h0 h.1)] at hw
      subst hw
      have d0 : decide (0 < t0) = false := decide_eq_false h0
      obtain ⟨_, -, ⟨r3, s3⟩, -⟩ := hr
      dsimp only at r3 s3
      go_enter Try.func52, Try.ntmps52
      go_upto_region 1 with fail
      go_quiet (fail)
      replace C := Chg.drewN C nq
      generalize w.drewN nq = w1 at C ⊢
      have f22 : w1.cell? ⟨g, 22, none⟩ = some (.int .i64 (a3)) := C.box.cell rfl
      go_wp2_with (first
        | (refine wpList_store_fld (by rfl) 3 _ _ rfl g 22 (.int .i64 (a3 + 1)) rfl rfl rfl _ _ C.box (by rw [cnt_size]; decide) (by kernel_rfl) (fun w2 u => ?_); replace C : CnTo w g x ⟨t0, a1, a2, a3 + 1, a4, a5, a6, a7, a8, a9, a10, a11, a12, a13⟩ (n) w2 := C.upd u; clear u; have f19 : w2.cell? ⟨g, 19, none⟩ = some (.int .i64 (t0)) := C.box.cell rfl)
        | (refine wpList_store_fld (by rfl) 3 _ _ rfl g 19 (.int .i64 (t0 + 1)) rfl rfl rfl _ _ C.box (by rw [cnt_size]; decide) (by kernel_rfl) (fun w3 u => ?_); replace C : CnTo w g x ⟨t0 + 1, a1, a2, a3 + 1, a4, a5, a6, a7, a8, a9, a10, a11, a12, a13⟩ (n) w3 := C.upd u; clear u))
      refine bodyPost_end (results_none Try.results52 _ _ _) rfl ⟨rfl, ?_⟩
      exact C
    have d0 : decide (0 < t0) = true := decide_eq_true h0
    by_cases h1 : t0 % x 18 = 0
    case neg =>
      rw [if_neg (fun h => h1 h.2)] at hw
      subst hw
      obtain ⟨_, -, ⟨r3, s3⟩, -⟩ := hr
      dsimp only at r3 s3
      go_enter Try.func52, Try.ntmps52
      go_upto_region 1 with fail
      go_quiet (fail)
      replace C := Chg.drewN C nq
      generalize w.drewN nq = w1 at C ⊢
      have f22 : w1.cell? ⟨g, 22, none⟩ = some (.int .i64 (a3)) := C.box.cell rfl
      go_wp2_with (first
        | (refine wpList_store_fld (by rfl) 3 _ _ rfl g 22 (.int .i64 (a3 + 1)) rfl rfl rfl _ _ C.box (by rw [cnt_size]; decide) (by kernel_rfl) (fun w2 u => ?_); replace C : CnTo w g x ⟨t0, a1, a2, a3 + 1, a4, a5, a6, a7, a8, a9, a10, a11, a12, a13⟩ (n) w2 := C.upd u; clear u; have f19 : w2.cell? ⟨g, 19, none⟩ = some (.int .i64 (t0)) := C.box.cell rfl)
        | (refine wpList_store_fld (by rfl) 3 _ _ rfl g 19 (.int .i64 (t0 + 1)) rfl rfl rfl _ _ C.box (by rw [cnt_size]; decide) (by kernel_rfl) (fun w3 u => ?_); replace C : CnTo w g x ⟨t0 + 1, a1, a2, a3 + 1, a4, a5, a6, a7, a8, a9, a10, a11, a12, a13⟩ (n) w3 := C.upd u; clear u))
      refine bodyPost_end (results_none Try.results52 _ _ _) rfl ⟨rfl, ?_⟩
      exact C
    rw [if_pos ⟨h0, h1⟩] at hw
    subst hw
    obtain ⟨_, -, ⟨r3, s3⟩, -⟩ := hr
    dsimp only at r3 s3
    go_enter Try.func52, Try.ntmps52
    go_upto_region 1 with fail
    go_quiet (fail)
    replace C := Chg.drewN C nq
    generalize w.drewN nq = w1 at C ⊢
    have f30 : w1.cell? ⟨g, 30, none⟩ = some (.int .i64 (a11)) := C.box.cell rfl
    go_wp2_with (first
      | (refine wpList_store_fld (by rfl) 3 _ _ rfl g 31 (.int .i64 (a11)) rfl rfl rfl _ _ C.box (by rw [cnt_size]; decide) (by kernel_rfl) (fun w2 u => ?_); replace C : CnTo w g x ⟨t0, a1, a2, a3, a4, a5, a6, a7, a8, a9, a10, a11, a11, a13⟩ (n) w2 := C.upd u; clear u)
      | (refine wpList_store_fld (by rfl) 3 _ _ rfl g 30 (.int .i64 (0)) rfl rfl rfl _ _ C.box (by rw [cnt_size]; decide) (by kernel_rfl) (fun w3 u => ?_); replace C : CnTo w g x ⟨t0, a1, a2, a3, a4, a5, a6, a7, a8, a9, a10, 0, a11, a13⟩ (n) w3 := C.upd u; clear u)
      | (refine wpList_store_fld (by rfl) 3 _ _ rfl g 32 (.int .i64 (0)) rfl rfl rfl _ _ C.box (by rw [cnt_size]; decide) (by kernel_rfl) (fun w4 u => ?_); replace C : CnTo w g x ⟨t0, a1, a2, a3, a4, a5, a6, a7, a8, a9, a10, 0, a11, 0⟩ (n) w4 := C.upd u; clear u; have f22 : w4.cell? ⟨g, 22, none⟩ = some (.int .i64 (a3)) := C.box.cell rfl)
      | (refine wpList_store_fld (by rfl) 3 _ _ rfl g 22 (.int .i64 (a3 + 1)) rfl rfl rfl _ _ C.box (by rw [cnt_size]; decide) (by kernel_rfl) (fun w5 u => ?_); replace C : CnTo w g x ⟨t0, a1, a2, a3 + 1, a4, a5, a6, a7, a8, a9, a10, 0, a11, 0⟩ (n) w5 := C.upd u; clear u; have f19 : w5.cell? ⟨g, 19, none⟩ = some (.int .i64 (t0)) := C.box.cell rfl)
      | (refine wpList_store_fld (by rfl) 3 _ _ rfl g 19 (.int .i64 (t0 + 1)) rfl rfl rfl _ _ C.box (by rw [cnt_size]; decide) (by kernel_rfl) (fun w6 u => ?_); replace C : CnTo w g x ⟨t0 + 1, a1, a2, a3 + 1, a4, a5, a6, a7, a8, a9, a10, 0, a11, 0⟩ (n) w6 := C.upd u; clear u))
    refine bodyPost_end (results_none Try.results52 _ _ _) rfl ⟨rfl, ?_⟩
    exact C
  rw [if_neg hk, if_neg hk]
  by_cases h0 : 0 < t0
  case neg =>
    rw [if_neg (fun h => h0 h.1)] at hw
    subst hw
    have d0 : decide (0 < t0) = false := decide_eq_false h0
    go_enter Try.func52, Try.ntmps52
    go_upto_region 1 with fail
    go_quiet (fail)
    replace C := Chg.drewN C nq
    generalize w.drewN nq = w1 at C ⊢
    go_wp2_with (first
      | (go_at_call 57; (with_reducible refine (UP _ C.box).mono ?_); rintro e w2 ⟨rfl, c⟩; replace C : CnTo w g x ⟨t0, t1, t2, t3, t4, t5, t6, t7, t8, t9, t10, t11, t12, t13⟩ (n ||| sm) w2 := C.trans c; clear c; have f19 : w2.cell? ⟨g, 19, none⟩ = some (.int .i64 (t0)) := C.box.cell rfl)
      | (refine wpList_store_fld (by rfl) 3 _ _ rfl g 19 (.int .i64 (t0 + 1)) rfl rfl rfl _ _ C.box (by rw [cnt_size]; decide) (by kernel_rfl) (fun w3 u => ?_); replace C : CnTo w g x ⟨t0 + 1, t1, t2, t3, t4, t5, t6, t7, t8, t9, t10, t11, t12, t13⟩ (n ||| sm) w3 := C.upd u; clear u))
    refine bodyPost_end (results_none Try.results52 _ _ _) rfl ⟨rfl, ?_⟩
    exact C
  have d0 : decide (0 < t0) = true := decide_eq_true h0
  by_cases h1 : t0 % x 18 = 0
  case neg =>
    rw [if_neg (fun h => h1 h.2)] at hw
    subst hw
    go_enter Try.func52, Try.ntmps52
    go_upto_region 1 with fail
    go_quiet (fail)
    replace C := Chg.drewN C nq
    generalize w.drewN nq = w1 at C ⊢
    go_wp2_with (first
      | (go_at_call 57; (with_reducible refine (UP _ C.box).mono ?_); rintro e w2 ⟨rfl, c⟩; replace C : CnTo w g x ⟨t0, t1, t2, t3, t4, t5, t6, t7, t8, t9, t10, t11, t12, t13⟩ (n ||| sm) w2 := C.trans c; clear c; have f19 : w2.cell? ⟨g, 19, none⟩ = some (.int .i64 (t0)) := C.box.cell rfl)
      | (refine wpList_store_fld (by rfl) 3 _ _ rfl g 19 (.int .i64 (t0 + 1)) rfl rfl rfl _ _ C.box (by rw [cnt_size]; decide) (by kernel_rfl) (fun w3 u => ?_); replace C : CnTo w g x ⟨t0 + 1, t1, t2, t3, t4, t5, t6, t7, t8, t9, t10, t11, t12, t13⟩ (n ||| sm) w3 := C.upd u; clear u))
    refine bodyPost_end (results_none Try.results52 _ _ _) rfl ⟨rfl, ?_⟩
    exact C
  rw [if_pos ⟨h0, h1⟩] at hw
  subst hw
  go_enter Try.func52, Try.ntmps52
  go_upto_region 1 with fail
  go_quiet (fail)
  replace C := Chg.drewN C nq
  generalize w.drewN nq = w1 at C ⊢
  have f30 : w1.cell? ⟨g, 30, none⟩ = some (.int .i64 (a11)) := C.box.cell rfl
  go_wp2_with (first
    | (refine wpList_store_fld (by rfl) 3 _ _ rfl g 31 (.int .i64 (a11)) rfl rfl rfl _ _ C.box (by rw [cnt_size]; decide) (by kernel_rfl) (fun w2 u => ?_); replace C : CnTo w g x ⟨t0, a1, a2, a3, a4, a5, a6, a7, a8, a9, a10, a11, a11, a13⟩ (n) w2 := C.upd u; clear u)
    | (refine wpList_store_fld (by rfl) 3 _ _ rfl g 30 (.int .i64 (0)) rfl rfl rfl _ _ C.box (by rw [cnt_size]; decide) (by kernel_rfl) (fun w3 u => ?_); replace C : CnTo w g x ⟨t0, a1, a2, a3, a4, a5, a6, a7, a8, a9, a10, 0, a11, a13⟩ (n) w3 := C.upd u; clear u)
    | (refine wpList_store_fld (by rfl) 3 _ _ rfl g 32 (.int .i64 (0)) rfl rfl rfl _ _ C.box (by rw [cnt_size]; decide) (by kernel_rfl) (fun w4 u => ?_); replace C : CnTo w g x ⟨t0, a1, a2, a3, a4, a5, a6, a7, a8, a9, a10, 0, a11, 0⟩ (n) w4 := C.upd u; clear u)
    | (go_at_call 57; (with_reducible refine (UP _ C.box).mono ?_); rintro e w5 ⟨rfl, c⟩; replace C : CnTo w g x ⟨t0, t1, t2, t3, t4, t5, t6, t7, t8, t9, t10, t11, t12, t13⟩ (n ||| sm) w5 := C.trans c; clear c; have f19 : w5.cell? ⟨g, 19, none⟩ = some (.int .i64 (t0)) := C.box.cell rfl)
    | (refine wpList_store_fld (by rfl) 3 _ _ rfl g 19 (.int .i64 (t0 + 1)) rfl rfl rfl _ _ C.box (by rw [cnt_size]; decide) (by kernel_rfl) (fun w6 u => ?_); replace C : CnTo w g x ⟨t0 + 1, t1, t2, t3, t4, t5, t6, t7, t8, t9, t10, t11, t12, t13⟩ (n ||| sm) w6 := C.upd u; clear u))
  refine bodyPost_end (results_none Try.results52 _ _ _) rfl ⟨rfl, ?_⟩
  exact C
end Go.Proofs.Ytolbihfnogbjaaa

/- What Run and Step of layer 13 return. Conditions: as each theorem says. -/
namespace Go.Proofs.Ytolbihfnogbjaaa
open Go.RowKit

open Classical in
/-- The errors of a book and a meter. -/
noncomputable def bmErr (x : Nat → Int) (m : Mt) : Int := if May x then (if MayM m then 0 else 1) else 14
theorem bmErr_ok {x : Nat → Int} {m : Mt} : bmErr x m = 0 ↔ May x ∧ MayM m := by
  unfold bmErr
  constructor
  · intro h
    split at h
    · split at h
      · exact ⟨by assumption, by assumption⟩
      · omega
    · omega
  · intro ⟨h1, h2⟩
    rw [if_pos h1, if_pos h2]
theorem meterV_bad {x : Nat → Int} {m : Mt} (l : List Int) (h : bmErr x m ≠ 0) : meterV x m l = (.zero, 0, bmErr x m) := by
  unfold meterV
  unfold bmErr at h ⊢
  split
  · split
    · rename_i h1 h2; rw [if_pos h1, if_pos h2] at h; exact absurd rfl h
    · rfl
  · rfl
theorem meterV_good {x : Nat → Int} {m : Mt} (l : List Int) (h1 : May x) (h2 : MayM m) : meterV x m l = runV x m 0 l := by
  unfold meterV
  rw [if_pos h1, if_pos h2]

theorem Cn.meter {W : World} {g : Nat} {x : Nat → Int} {m : Mt} {n : Nat} (h : Cn W g x m n) : W.rangeAt g 19 (mt m).toList := fun j v hj => by
  rw [cell_of_row W g (19 + j) _ _ (0, 0) h]
  have hl : j < 14 := by
    have := (List.getElem?_eq_some_iff.1 hj).1
    simpa [mt_size] using this
  rw [Array.getElem?_toList] at hj
  have : j = 0 ∨ j = 1 ∨ j = 2 ∨ j = 3 ∨ j = 4 ∨ j = 5 ∨ j = 6 ∨ j = 7 ∨ j = 8 ∨ j = 9 ∨ j = 10 ∨ j = 11 ∨ j = 12 ∨ j = 13 := by omega
  rcases this with rfl | rfl | rfl | rfl | rfl | rfl | rfl | rfl | rfl | rfl | rfl | rfl | rfl | rfl <;> exact hj

theorem drop_at {l : List Int} {k : Nat} {y : Int} (h : l[k]? = some y) : l.drop k = y :: l.drop (k + 1) := by
  obtain ⟨hk, hy⟩ := List.getElem?_eq_some_iff.1 h
  rw [List.drop_eq_getElem_cons hk, hy]

set_option maxRecDepth 100000 in
set_option maxHeartbeats 4000000 in
theorem run_any (x : Nat → Int) (m : Mt) (A : Option Addr) (c : Nat) (l : List Int) (w : World) (h : RdN w A l) (hl : l.length ≤ 1000000) :
    Calls Try.prog 41 #[.agg (bk x), .agg (mt m), .slice A l.length c] w fun e w' => e = .returned (.tuple #[.agg (mt (meterV x m l).1), .int .i64 ((meterV x m l).2.1 : Nat), .int .i64 (meterV x m l).2.2]) ∧ Below w.heap.size w w' := by
  have C1 := fun W => check13_any x m W
  have RB : RdI (((w.alloc (.cells (bk x) 23)).alloc (.cells (mt m) 26)).alloc (.cells (mt .zero) 26)) w.heap.size 0 x := ((RdI.new x 23 rfl).alloc _).alloc _
  have BM : Bx (((w.alloc (.cells (bk x) 23)).alloc (.cells (mt m) 26)).alloc (.cells (mt .zero) 26)) (w.heap.size + 1) 26 (mt m) := (Bx.new (W := w.alloc (.cells (bk x) 23)) _ _ (by simp)).alloc _
  have BR : Bx (((w.alloc (.cells (bk x) 23)).alloc (.cells (mt m) 26)).alloc (.cells (mt .zero) 26)) (w.heap.size + 2) 26 (mt .zero) := Bx.new (W := (w.alloc (.cells (bk x) 23)).alloc (.cells (mt m) 26)) _ _ (by simp)
  have hB0 : Below w.heap.size w (((w.alloc (.cells (bk x) 23)).alloc (.cells (mt m) 26)).alloc (.cells (mt .zero) 26)) := b_al (b_al (b_al (Below.refl _ _) (Nat.le_refl _) _) (Nat.le_refl _) _) (Nat.le_refl _) _
  have hz0 : (((w.alloc (.cells (bk x) 23)).alloc (.cells (mt m) 26)).alloc (.cells (mt .zero) 26)).heap.size = w.heap.size + 3 := by simp
  by_cases he : bmErr x m = 0
  case neg =>
    rw [meterV_bad l he]
    have C1 : ∀ W, Calls Try.prog 50 #[.agg (bk x), .agg (mt m)] W fun e w' => e = .returned (.int .i64 (bmErr x m)) ∧ Below W.heap.size W w' := C1
    generalize bmErr x m = er at he C1 ⊢
    have ne : (er != 0) = true := by simpa using he
    have ne2 : (er == 0) = false := by simpa using he
    clear he h
    go_enter Try.func41, Try.ntmps41
    go_wp2_with (first | refine wpList_load_bk (by rfl) 23 _ rfl _ _ rfl x _ (RB) Try.underlying23 rfl (by kernel_rfl) ?_ | refine wpList_load_box (by rfl) 26 _ rfl (w.heap.size + 1) rfl 26 _ _ BM Try.underlying26 rfl (by kernel_rfl) ?_ | (go_at_call 50; (with_reducible refine (C1 _).mono ?_); rintro e w1 ⟨rfl, hb1⟩; have BR1 := BR.below hb1) | refine wpList_build_as rfl 26 _ rfl (mt .zero) (by kernel_rfl) ?_ | refine wpList_store_box rfl 26 _ _ rfl (w.heap.size + 2) (mt .zero) rfl rfl 26 (mt .zero) BR1 (by kernel_rfl) rfl (mt_one _) (fun w2 u => ?_))
    refine bodyPost_ret (results_box3 Try.results41 _ _ (w.heap.size + 2) 26 (mt .zero) _ (.int .i64 0) (.int .i64 er) rfl u.box rfl rfl Try.underlying26 rfl (by kernel_rfl)) rfl ⟨rfl, ?_⟩
    exact (b_cl hB0 (Nat.le_refl _) hb1).trans (u.bel _ (by omega))
  obtain ⟨hx, hm⟩ := bmErr_ok.1 he
  rw [meterV_good l hx hm]
  have C1 : ∀ W, Calls Try.prog 50 #[.agg (bk x), .agg (mt m)] W fun e w' => e = .returned (.int .i64 0) ∧ Below W.heap.size W w' := fun W => by
    have := C1 W
    rwa [if_pos hx, if_pos hm] at this
  clear he
  have HM := Lib.hid hm
  have HX := Lib.hid hx
  clear hm hx
  have HR := Lib.hid h
  clear h
  obtain ⟨V, hV⟩ : ∃ V, runV x m 0 l = V := ⟨_, rfl⟩
  rw [hV]
  have HV := Lib.hid hV
  clear hV
  go_enter Try.func41, Try.ntmps41
  go_upto_region 5 with (first
    | refine wpList_load_bk (by rfl) 23 _ rfl _ _ rfl x _ (RB) Try.underlying23 rfl (by kernel_rfl) ?_
    | refine wpList_load_box (by rfl) 26 _ rfl (w.heap.size + 1) rfl 26 _ _ BM Try.underlying26 rfl (by kernel_rfl) ?_
    | (go_at_call 50; (with_reducible refine (C1 _).mono ?_); rintro e w1 ⟨rfl, hb1⟩; have BR1 := BR.below hb1; have RB1 := RB.below hb1; have BM1 := BM.below hb1)
    | refine wpList_load_bk (by rfl) 23 _ rfl _ _ rfl x _ (RB1) Try.underlying23 rfl (by kernel_rfl) ?_
    | refine wpList_load_box (by rfl) 26 _ rfl (w.heap.size + 1) rfl 26 _ _ BM1 Try.underlying26 rfl (by kernel_rfl) ?_
    | refine wpList_build_as rfl 110 _ rfl (cnt x m 0) (by kernel_rfl) ?_
    | refine wpList_store_box rfl 110 _ _ rfl w1.heap.size (cnt x m 0) rfl rfl 110 (cnt (fun _ => 0) .zero 0) (Bx.new (W := w1) 110 (cnt (fun _ => 0) .zero 0) rfl) (by kernel_rfl) rfl (cnt_one _ _ _) (fun w2 u => ?_))
  (try go_frame)
  have RR : Bx w2 (w.heap.size + 2) 26 (mt .zero) := u.bx (BR1.alloc _) (Nat.ne_of_lt BR1.lt)
  have hz1 := hb1.size
  simp only [World.size_alloc] at hz1
  have hB2 : Below w.heap.size w w2 := (b_al (b_cl hB0 (Nat.le_refl _) hb1) (by omega) _).trans (u.bel _ (by omega))
  have hgc : w.heap.size + 3 ≤ w1.heap.size := by omega
  have C0 : Cn w2 w1.heap.size x m 0 := u.box
  generalize w1.heap.size = gc at C0 hgc ⊢
  clear BR1 RB1 BM1 hb1 hz1 u BR BM RB hB0 hz0 C1
  go_wp2
  go_loopw [26] (fun i wr => ∃ (k : Nat) (m' : Mt) (n' : Nat), k ≤ l.length ∧ i = .int .i64 k ∧ Hid (MayM m') ∧ Hid (n' < 1024) ∧ Hid (runV x m' n' (l.drop k) = V) ∧ Hid (CnTo w2 gc x m' n' wr)) (fun i _ => l.length - (intOf i).toNat)
  case atStart => exact ⟨0, m, 0, Nat.zero_le _, rfl, HM, Lib.hid (by decide), Lib.hid HV.out, Lib.hid (Chg.refl C0)⟩
  case round =>
    obtain ⟨k, m', n', hk, rfl, HM', HN', HV', HC⟩ := hrel
    obtain ⟨w3, rfl⟩ : ∃ w3 : World, w3 = wr := ⟨_, rfl⟩
    by_cases hlt : k < l.length
    case neg =>
      obtain rfl : k = l.length := by omega
      have hVe := HV'.out
      rw [List.drop_length] at hVe
      have hC := HC.out
      have hR3 := hC.bx RR (by omega)
      go_upto_region 13 with fail
      refine wp_region_noPanic ?_
      refine wp_region_held_drew (S := fun w' => Cn w' gc x m' n') (by kernel_rfl) ?_ (fun hHeld => ?_)
      · exact hC.box.drew
      refine wpAnyH_take (i := 0) (oi := ⟨some 39, _, _, _, _, _⟩) (v := ?_) rfl (by kernel_rfl) (by kernel_rfl) (by kernel_rfl) (fun _ _ _ h => h) (Or.inl ⟨by rfl, ?_⟩) (by assumption) ?_
      rotate_left
      · (intro w' hSw; clear hSw; go_simp; try (with_reducible rfl))
      (try simp only [Act.put, List.setIfInBounds_toArray, List.set_cons_zero, List.set_cons_succ])
      refine wpAnyH_take (i := 1) (oi := ⟨some 40, _, _, _, _, _⟩) (v := .agg (mt m')) rfl (by kernel_rfl) (by kernel_rfl) (by kernel_rfl) (fun _ _ _ h => h) (yieldsIf_load_mid (by rfl) 26 _ rfl gc 19 rfl (mt m').toList _ (fun w' hSw => Cn.meter hSw) Try.underlying26 rfl (by kernel_rfl)) (by assumption) ?_
      (try simp only [Act.put, List.setIfInBounds_toArray, List.set_cons_zero, List.set_cons_succ])
      refine wpAnyH_take (i := 2) (oi := ⟨some 41, _, _, _, _, _⟩) (v := ?_) rfl (by kernel_rfl) (by kernel_rfl) (by kernel_rfl) (fun _ _ _ h => h) (Or.inl ⟨by rfl, ?_⟩) (by assumption) ?_
      rotate_left
      · (intro w' hSw; clear hSw; go_simp; try (with_reducible rfl))
      (try simp only [Act.put, List.setIfInBounds_toArray, List.set_cons_zero, List.set_cons_succ])
      refine wpAnyH_take (i := 3) (oi := ⟨some 42, _, _, _, _, _⟩) (v := ?_) rfl (by kernel_rfl) (by kernel_rfl) (by kernel_rfl) (fun _ _ _ h => h) (Or.inl ⟨by rfl, ?_⟩) (by assumption) ?_
      rotate_left
      · (intro w' hSw; have q33 : w'.cell? ⟨gc, 33, none⟩ = some (.int .i64 (n' : Int)) := Bx.cell hSw rfl; clear hSw; go_simp; try (with_reducible rfl))
      (try simp only [Act.put, List.setIfInBounds_toArray, List.set_cons_zero, List.set_cons_succ])
      refine wpAnyH_ready (rs := [4]) (by kernel_rfl) (by simp) ?_
      refine AllReadyH.cons (o := ⟨none, _, _, _, _, _⟩) rfl (fun K hK => ?_) AllReadyH.nil
      refine wp_store_any 26 _ _ rfl (w.heap.size + 2) (mt m') rfl rfl 26 (mt .zero) hR3.drew (by kernel_rfl) rfl (mt_one _) (fun w5 u => ?_)
      refine hK.out _ _ (u.bx hC.box.drew (by omega)) (fun hHeld => ?_)
      clear hK K
      (try simp only [Act.put])
      refine wpAnyH_take (i := 5) (oi := ⟨some 7, _, _, _, _, _⟩) (v := ?_) rfl (by kernel_rfl) (by kernel_rfl) (by kernel_rfl) (fun _ _ _ h => h) (Or.inl ⟨by rfl, ?_⟩) (by assumption) ?_
      rotate_left
      · (intro w' hSw; clear hSw; go_simp; try (with_reducible rfl))
      (try simp only [Act.put, List.setIfInBounds_toArray, List.set_cons_zero, List.set_cons_succ])
      refine wpAnyH_take (i := 6) (oi := ⟨some 8, _, _, _, _, _⟩) (v := ?_) rfl (by kernel_rfl) (by kernel_rfl) (by kernel_rfl) (fun _ _ _ h => h) (Or.inl ⟨by rfl, ?_⟩) (by assumption) ?_
      rotate_left
      · (intro w' hSw; clear hSw; go_simp; try (with_reducible rfl))
      (try simp only [Act.put, List.setIfInBounds_toArray, List.set_cons_zero, List.set_cons_succ])
      refine wpAnyH_done (by kernel_rfl) ?_ _
      refine NoPanic.normal ?_
      go_wp2_with fail
      refine bodyPost_ret (results_box3 Try.results41 _ _ (w.heap.size + 2) 26 (mt m') _ (.int .i64 (n' : Int)) (.int .i64 0) rfl u.box rfl rfl Try.underlying26 rfl (by kernel_rfl)) rfl ⟨?_, ?_⟩
      · rw [← hVe]; rfl
      · exact (b_dr (hB2.trans (hC.bel _ (by omega) hB2.size))).trans (u.bel _ (by omega))
    have hC := HC.out
    obtain ⟨b, off, y, rfl, hbb, hc0, hs⟩ := HR.out.at_ hlt
    have hc0 : w3.cell? ⟨b, off + k, none⟩ = some (.int .i64 y) := by
      rw [hC.cell (p := ⟨b, off + k, none⟩) (by show b ≠ gc; omega) (by have := hB2.size; show b < w2.heap.size; omega), hB2.cell (p := ⟨b, off + k, none⟩) hbb]
      exact hc0
    have hVe : runV x m' n' (y :: l.drop (k + 1)) = V := by rw [← drop_at hs.out]; exact HV'.out
    rw [runV_cons] at hVe
    have G1 := fun W h => goesOn_any gc x m' n' y W h
    have hR3 := hC.bx RR (by omega)
    clear hs
    by_cases hy : y < 0 ∨ 3 < y
    case pos =>
      simp only [if_pos hy] at hVe G1
      subst hVe
      clear hy
      go_wp2_with (first
        | (go_at_call 51; (with_reducible refine (G1 _ hC.box).mono ?_); rintro e w4 ⟨rfl, rfl⟩)
        | refine wpList_build_as rfl 26 _ rfl (mt .zero) (by kernel_rfl) ?_
        | refine wpList_store_box rfl 26 _ _ rfl (w.heap.size + 2) (mt .zero) rfl rfl 26 (mt .zero) hR3 (by kernel_rfl) rfl (mt_one _) (fun w5 u => ?_))
      refine bodyPost_ret (results_box3 Try.results41 _ _ (w.heap.size + 2) 26 (mt .zero) _ (.int .i64 0) (.int .i64 2) rfl u.box rfl rfl Try.underlying26 rfl (by kernel_rfl)) rfl ⟨rfl, ?_⟩
      exact (hB2.trans (hC.bel _ (by omega) hB2.size)).trans (u.bel _ (by omega))
    by_cases hf : m'.now = 40320
    case pos =>
      simp only [if_neg hy, if_pos hf] at hVe G1
      subst hVe
      clear hy hf
      go_wp2_with (first
        | (go_at_call 51; (with_reducible refine (G1 _ hC.box).mono ?_); rintro e w4 ⟨rfl, rfl⟩)
        | refine wpList_build_as rfl 26 _ rfl (mt .zero) (by kernel_rfl) ?_
        | refine wpList_store_box rfl 26 _ _ rfl (w.heap.size + 2) (mt .zero) rfl rfl 26 (mt .zero) hR3 (by kernel_rfl) rfl (mt_one _) (fun w5 u => ?_))
      refine bodyPost_ret (results_box3 Try.results41 _ _ (w.heap.size + 2) 26 (mt .zero) _ (.int .i64 0) (.int .i64 4) rfl u.box rfl rfl Try.underlying26 rfl (by kernel_rfl)) rfl ⟨rfl, ?_⟩
      exact (hB2.trans (hC.bel _ (by omega) hB2.size)).trans (u.bel _ (by omega))
    simp only [if_neg hy, if_neg hf] at hVe G1
    have hlt' : m'.now < 40320 := by have := HM'.out.1; omega
    have MI := fun W h => minute_any gc x m' n' y W h HN'.out HM'.out hlt' HX.out
    have HM2 := Lib.hid (may_step (x := x) y HM'.out hlt').1
    have HN2 : Hid (n' ||| stepC x m' y < 1024) := Lib.hid (Nat.or_lt_two_pow (n := 10) HN'.out (stepC_lt x m' y))
    have HV2 := Lib.hid hVe
    clear hVe hy hf hlt' hR3
    generalize stepM x m' y = m4 at MI HM2 HV2
    generalize n' ||| stepC x m' y = n4 at MI HN2 HV2
    go_wp2_with (first
      | (go_at_call 51; (with_reducible refine (G1 _ hC.box).mono ?_); rintro e w4 ⟨rfl, rfl⟩)
      | (go_at_call 52; (with_reducible refine (MI _ hC.box).mono ?_); rintro e w5 ⟨rfl, hC5⟩))
    go_roundw
    case rel => exact ⟨k + 1, m4, n4, by omega, by go_num, HM2, HN2, HV2, Lib.hid (hC.trans hC5)⟩
    case measure => simp [intOf]; omega

end Go.Proofs.Ytolbihfnogbjaaa

/- What Step of layer 13 returns. Conditions: none. -/
namespace Go.Proofs.Ytolbihfnogbjaaa
open Go.RowKit

theorem rdN_one {W : World} {g : Nat} {k : Int} (h : W.cell? ⟨g, 0, none⟩ = some (.int .i64 k)) : RdN W (some ⟨g, 0, none⟩) [k] := fun _ => by
  refine ⟨g, 0, rfl, c_lt h, fun j hj => ?_⟩
  have : j = 0 := by simpa using hj
  subst this
  exact h

set_option maxRecDepth 20000 in
theorem step13_any (x : Nat → Int) (m : Mt) (k : Int) (w : World) :
    Calls Try.prog 29 #[.agg (bk x), .agg (mt m), .int .i64 k] w fun e w' => e = .returned (.tuple #[.agg (mt (meterV x m [k]).1), .int .i64 ((meterV x m [k]).2.1 : Nat), .int .i64 (meterV x m [k]).2.2]) ∧ Below w.heap.size w w' := by
  have RN := fun W g h => run_any x m (some ⟨g, 0, none⟩) 1 [k] W (rdN_one h) (by simp)
  simp only [List.length_singleton] at RN
  generalize meterV x m [k] = V at RN ⊢
  obtain ⟨m', n', e'⟩ := V
  dsimp only at RN ⊢
  have RB : RdI (((w.alloc (.cells (bk x) 23)).alloc (.cells (mt m) 26)).alloc (.cells (mt .zero) 26)) w.heap.size 0 x := ((RdI.new x 23 rfl).alloc _).alloc _
  have BM : Bx (((w.alloc (.cells (bk x) 23)).alloc (.cells (mt m) 26)).alloc (.cells (mt .zero) 26)) (w.heap.size + 1) 26 (mt m) := (Bx.new (W := w.alloc (.cells (bk x) 23)) _ _ (by simp)).alloc _
  have BR : Bx (((w.alloc (.cells (bk x) 23)).alloc (.cells (mt m) 26)).alloc (.cells (mt .zero) 26)) (w.heap.size + 2) 26 (mt .zero) := Bx.new (W := (w.alloc (.cells (bk x) 23)).alloc (.cells (mt m) 26)) _ _ (by simp)
  have hB0 : Below w.heap.size w (((w.alloc (.cells (bk x) 23)).alloc (.cells (mt m) 26)).alloc (.cells (mt .zero) 26)) := b_al (b_al (b_al (Below.refl _ _) (Nat.le_refl _) _) (Nat.le_refl _) _) (Nat.le_refl _) _
  have CK : ((((w.alloc (.cells (bk x) 23)).alloc (.cells (mt m) 26)).alloc (.cells (mt .zero) 26)).alloc (.cells #[.int .i64 k] 3)).cell? ⟨w.heap.size + 1 + 1 + 1, 0, none⟩ = some (.int .i64 k) := (Bx.new (W := (((w.alloc (.cells (bk x) 23)).alloc (.cells (mt m) 26)).alloc (.cells (mt .zero) 26))) 3 #[.int .i64 k] (by simp)).cell rfl
  go_enter Try.func29, Try.ntmps29
  go_wp2_with (first
    | refine wpList_load_bk (by rfl) 23 _ rfl _ _ rfl x _ (RB) Try.underlying23 rfl (by kernel_rfl) ?_
    | refine wpList_load_box (by rfl) 26 _ rfl (w.heap.size + 1) rfl 26 _ _ BM Try.underlying26 rfl (by kernel_rfl) ?_
    | (go_at_call 41; (refine (RN _ _ CK).mono ?_); rintro e w1 ⟨rfl, hb1⟩; have BR1 := (BR.alloc _).below hb1)
    | refine wpList_store_box rfl 26 _ _ rfl (w.heap.size + 2) (mt m') rfl rfl 26 (mt .zero) BR1 (by kernel_rfl) rfl (mt_one _) (fun w2 u => ?_))
  refine bodyPost_ret (results_box3 Try.results29 _ _ (w.heap.size + 2) 26 (mt m') _ (.int .i64 (n' : Int)) (.int .i64 e') rfl u.box rfl rfl Try.underlying26 rfl (by kernel_rfl)) rfl ⟨rfl, ?_⟩
  exact (b_cl (b_al hB0 (by simp) _) (Nat.le_refl _) hb1).trans (u.bel _ (by omega))

end Go.Proofs.Ytolbihfnogbjaaa
