/- What minute of layer 13 leaves. Conditions: as the theorem says. -/
import Derived.Test.YtojdaigilagppaaRows
import Derived.Test.YtojdaigilagppaaBase
import Derived.Test.YtojdaigilagppaaBookRow
import Derived.Test.YtojdaigilagppaaBox
import Derived.Test.YtojdaigilagppaaSpellMath
import Derived.Test.YtojdaigilagppaaMeterMath
import Derived.Test.YtojdaigilagppaaMeterSt
import Derived.Test.YtojdaigilagppaaMeterLeaf
import Derived.Test.YtojdaigilagppaaMeterDrive
import Derived.Test.YtojdaigilagppaaMeterRise
import Derived.Test.YtojdaigilagppaaMeterUp
import Derived.WalkKit
import Derived.WalkSpells
import Derived.WalkSmall
import Derived.Below
import Derived.Lib.Hide
import Derived.Shelf.Abstract
import Derived.BigQuiet
import Derived.OwnWalk
import Derived.Outline
import Derived.Deep.DeepCutAuto
import Derived.StillTailTactics
import Derived.Maps.RangeWalk
namespace Go.Proofs.Ytojdaigilagppaa
open Go.RowKit

theorem Chg.drewN {W W1 : World} {g : Nat} {t : TypeId} {cs : Array Value} (c : Chg W g t cs W1) (k : Nat) : Chg W g t cs (W1.drewN k) := ⟨c.size, c.box.drewN, c.other, fun n hn hl => b_dn (c.bel n hn hl)⟩

theorem may_len {x : Nat → Int} (h : May x) : 1 ≤ x 18 ∧ x 18 ≤ 40320 := by
  have := h.1 18 (by omega)
  unfold lim at this
  split at this <;> omega

set_option maxRecDepth 100000 in
set_option maxHeartbeats 4000000 in
theorem minute_any (g : Nat) (x : Nat → Int) (m : Mt) (n : Nat) (k : Int) (w : World) (hb : Cn w g x m n) (hn : n < 1024) (hm : MayM m) (hlt : m.now < 40320) (hx : May x) :
    Calls Try.prog 24 #[.pointer (some ⟨g, 0, none⟩), .int .i64 k] w fun e w' => e = .returned (.tuple #[]) ∧ CnTo w g x (stepM x m k) (n ||| stepC x m k) w' := by
  obtain ⟨h18, h18'⟩ := may_len hx
  have UP := fun W h => up_any g x (wrapM x m) n k W h hn (may_wrap (x := x) hm).1 hx
  have hup := (le_up (x := x) k (may_wrap (x := x) hm).1).2
  have hwn := (may_wrap (x := x) hm).2
  rw [hwn] at hup
  rw [Cl.into_eq] at UP
  unfold stepM stepC
  dsimp only
  generalize (upC x (wrapM x m) k).sum = sm at UP ⊢
  obtain ⟨U, hU⟩ : ∃ U, upM x (wrapM x m) k = U := ⟨_, rfl⟩
  rw [hU] at UP hup
  rw [hU]
  clear hU hx
  have hr := (may_wrap (x := x) hm).1
  have hw : wrapM x m = (if 0 < m.now ∧ m.now % x 18 = 0 then { m with last := m.week, week := 0, labour := 0 } else m) := rfl
  obtain ⟨WR, hWR⟩ : ∃ WR, wrapM x m = WR := ⟨_, rfl⟩
  rw [hWR] at UP hr hwn hw
  rw [hWR]
  clear hWR
  have hn0 := hm.1.1
  clear hm
  obtain ⟨a0, a1, a2, a3, a4, a5, a6, a7, a8, a9, a10, a11, a12, a13⟩ := m
  dsimp only at hup hwn hw hlt hn0
  obtain ⟨t0, t1, t2, t3, t4, t5, t6, t7, t8, t9, t10, t11, t12, t13⟩ := U
  dsimp only at hup
  subst hup
  have C : CnTo w g x ⟨t0, a1, a2, a3, a4, a5, a6, a7, a8, a9, a10, a11, a12, a13⟩ n w := Chg.refl hb
  clear hb
  have f19 : w.cell? ⟨g, 19, none⟩ = some (.int .i64 t0) := C.box.cell rfl
  have f18 : w.cell? ⟨g, 18, none⟩ = some (.int .i64 (x 18)) := C.box.cell rfl
  by_cases hk : k = 0
  case pos =>
    subst hk
    rw [if_pos rfl, if_pos rfl, Nat.or_zero]
    clear UP
    by_cases h0 : 0 < t0
    case neg =>
      rw [if_neg (fun h => h0 h.1)] at hw
      subst hw
      have d0 : decide (0 < t0) = false := decide_eq_false h0
      obtain ⟨_, -, ⟨r3, s3⟩, -⟩ := hr
      dsimp only at r3 s3
      go_enter Try.func24, Try.ntmps24
      go_upto_region 1 with fail
      go_quiet (fail)
      replace C := Chg.drewN C nq
      generalize w.drewN nq = w1 at C ⊢
      have f22 : w1.cell? ⟨g, 22, none⟩ = some (.int .i64 (a3)) := C.box.cell rfl
      go_wp2_with (first
        | (refine wpList_store_fld (by rfl) 3 _ _ rfl g 22 (.int .i64 (a3 + 1)) rfl rfl rfl _ _ C.box (by rw [cnt_size]; decide) (by kernel_rfl) (fun w2 u => ?_); replace C : CnTo w g x ⟨t0, a1, a2, a3 + 1, a4, a5, a6, a7, a8, a9, a10, a11, a12, a13⟩ (n) w2 := C.upd u; clear u; have f19 : w2.cell? ⟨g, 19, none⟩ = some (.int .i64 (t0)) := C.box.cell rfl)
        | (refine wpList_store_fld (by rfl) 3 _ _ rfl g 19 (.int .i64 (t0 + 1)) rfl rfl rfl _ _ C.box (by rw [cnt_size]; decide) (by kernel_rfl) (fun w3 u => ?_); replace C : CnTo w g x ⟨t0 + 1, a1, a2, a3 + 1, a4, a5, a6, a7, a8, a9, a10, a11, a12, a13⟩ (n) w3 := C.upd u; clear u))
      refine bodyPost_end (results_none Try.results24 _ _ _) rfl ⟨rfl, ?_⟩
      exact C
    have d0 : decide (0 < t0) = true := decide_eq_true h0
    by_cases h1 : t0 % x 18 = 0
    case neg =>
      rw [if_neg (fun h => h1 h.2)] at hw
      subst hw
      obtain ⟨_, -, ⟨r3, s3⟩, -⟩ := hr
      dsimp only at r3 s3
      go_enter Try.func24, Try.ntmps24
      go_upto_region 1 with fail
      go_quiet (fail)
      replace C := Chg.drewN C nq
      generalize w.drewN nq = w1 at C ⊢
      have f22 : w1.cell? ⟨g, 22, none⟩ = some (.int .i64 (a3)) := C.box.cell rfl
      go_wp2_with (first
        | (refine wpList_store_fld (by rfl) 3 _ _ rfl g 22 (.int .i64 (a3 + 1)) rfl rfl rfl _ _ C.box (by rw [cnt_size]; decide) (by kernel_rfl) (fun w2 u => ?_); replace C : CnTo w g x ⟨t0, a1, a2, a3 + 1, a4, a5, a6, a7, a8, a9, a10, a11, a12, a13⟩ (n) w2 := C.upd u; clear u; have f19 : w2.cell? ⟨g, 19, none⟩ = some (.int .i64 (t0)) := C.box.cell rfl)
        | (refine wpList_store_fld (by rfl) 3 _ _ rfl g 19 (.int .i64 (t0 + 1)) rfl rfl rfl _ _ C.box (by rw [cnt_size]; decide) (by kernel_rfl) (fun w3 u => ?_); replace C : CnTo w g x ⟨t0 + 1, a1, a2, a3 + 1, a4, a5, a6, a7, a8, a9, a10, a11, a12, a13⟩ (n) w3 := C.upd u; clear u))
      refine bodyPost_end (results_none Try.results24 _ _ _) rfl ⟨rfl, ?_⟩
      exact C
    rw [if_pos ⟨h0, h1⟩] at hw
    subst hw
    obtain ⟨_, -, ⟨r3, s3⟩, -⟩ := hr
    dsimp only at r3 s3
    go_enter Try.func24, Try.ntmps24
    go_upto_region 1 with fail
    go_quiet (fail)
    replace C := Chg.drewN C nq
    generalize w.drewN nq = w1 at C ⊢
    have f30 : w1.cell? ⟨g, 30, none⟩ = some (.int .i64 (a11)) := C.box.cell rfl
    go_wp2_with (first
      | (refine wpList_store_fld (by rfl) 3 _ _ rfl g 31 (.int .i64 (a11)) rfl rfl rfl _ _ C.box (by rw [cnt_size]; decide) (by kernel_rfl) (fun w2 u => ?_); replace C : CnTo w g x ⟨t0, a1, a2, a3, a4, a5, a6, a7, a8, a9, a10, a11, a11, a13⟩ (n) w2 := C.upd u; clear u)
      | (refine wpList_store_fld (by rfl) 3 _ _ rfl g 30 (.int .i64 (0)) rfl rfl rfl _ _ C.box (by rw [cnt_size]; decide) (by kernel_rfl) (fun w3 u => ?_); replace C : CnTo w g x ⟨t0, a1, a2, a3, a4, a5, a6, a7, a8, a9, a10, 0, a11, a13⟩ (n) w3 := C.upd u; clear u)
      | (refine wpList_store_fld (by rfl) 3 _ _ rfl g 32 (.int .i64 (0)) rfl rfl rfl _ _ C.box (by rw [cnt_size]; decide) (by kernel_rfl) (fun w4 u => ?_); replace C : CnTo w g x ⟨t0, a1, a2, a3, a4, a5, a6, a7, a8, a9, a10, 0, a11, 0⟩ (n) w4 := C.upd u; clear u; have f22 : w4.cell? ⟨g, 22, none⟩ = some (.int .i64 (a3)) := C.box.cell rfl)
      | (refine wpList_store_fld (by rfl) 3 _ _ rfl g 22 (.int .i64 (a3 + 1)) rfl rfl rfl _ _ C.box (by rw [cnt_size]; decide) (by kernel_rfl) (fun w5 u => ?_); replace C : CnTo w g x ⟨t0, a1, a2, a3 + 1, a4, a5, a6, a7, a8, a9, a10, 0, a11, 0⟩ (n) w5 := C.upd u; clear u; have f19 : w5.cell? ⟨g, 19, none⟩ = some (.int .i64 (t0)) := C.box.cell rfl)
      | (refine wpList_store_fld (by rfl) 3 _ _ rfl g 19 (.int .i64 (t0 + 1)) rfl rfl rfl _ _ C.box (by rw [cnt_size]; decide) (by kernel_rfl) (fun w6 u => ?_); replace C : CnTo w g x ⟨t0 + 1, a1, a2, a3 + 1, a4, a5, a6, a7, a8, a9, a10, 0, a11, 0⟩ (n) w6 := C.upd u; clear u))
    refine bodyPost_end (results_none Try.results24 _ _ _) rfl ⟨rfl, ?_⟩
    exact C
  rw [if_neg hk, if_neg hk]
  by_cases h0 : 0 < t0
  case neg =>
    rw [if_neg (fun h => h0 h.1)] at hw
    subst hw
    have d0 : decide (0 < t0) = false := decide_eq_false h0
    go_enter Try.func24, Try.ntmps24
    go_upto_region 1 with fail
    go_quiet (fail)
    replace C := Chg.drewN C nq
    generalize w.drewN nq = w1 at C ⊢
    go_wp2_with (first
      | (go_at_call 28; (with_reducible refine (UP _ C.box).mono ?_); rintro e w2 ⟨rfl, c⟩; replace C : CnTo w g x ⟨t0, t1, t2, t3, t4, t5, t6, t7, t8, t9, t10, t11, t12, t13⟩ (n ||| sm) w2 := C.trans c; clear c; have f19 : w2.cell? ⟨g, 19, none⟩ = some (.int .i64 (t0)) := C.box.cell rfl)
      | (refine wpList_store_fld (by rfl) 3 _ _ rfl g 19 (.int .i64 (t0 + 1)) rfl rfl rfl _ _ C.box (by rw [cnt_size]; decide) (by kernel_rfl) (fun w3 u => ?_); replace C : CnTo w g x ⟨t0 + 1, t1, t2, t3, t4, t5, t6, t7, t8, t9, t10, t11, t12, t13⟩ (n ||| sm) w3 := C.upd u; clear u))
    refine bodyPost_end (results_none Try.results24 _ _ _) rfl ⟨rfl, ?_⟩
    exact C
  have d0 : decide (0 < t0) = true := decide_eq_true h0
  by_cases h1 : t0 % x 18 = 0
  case neg =>
    rw [if_neg (fun h => h1 h.2)] at hw
    subst hw
    go_enter Try.func24, Try.ntmps24
    go_upto_region 1 with fail
    go_quiet (fail)
    replace C := Chg.drewN C nq
    generalize w.drewN nq = w1 at C ⊢
    go_wp2_with (first
      | (go_at_call 28; (with_reducible refine (UP _ C.box).mono ?_); rintro e w2 ⟨rfl, c⟩; replace C : CnTo w g x ⟨t0, t1, t2, t3, t4, t5, t6, t7, t8, t9, t10, t11, t12, t13⟩ (n ||| sm) w2 := C.trans c; clear c; have f19 : w2.cell? ⟨g, 19, none⟩ = some (.int .i64 (t0)) := C.box.cell rfl)
      | (refine wpList_store_fld (by rfl) 3 _ _ rfl g 19 (.int .i64 (t0 + 1)) rfl rfl rfl _ _ C.box (by rw [cnt_size]; decide) (by kernel_rfl) (fun w3 u => ?_); replace C : CnTo w g x ⟨t0 + 1, t1, t2, t3, t4, t5, t6, t7, t8, t9, t10, t11, t12, t13⟩ (n ||| sm) w3 := C.upd u; clear u))
    refine bodyPost_end (results_none Try.results24 _ _ _) rfl ⟨rfl, ?_⟩
    exact C
  rw [if_pos ⟨h0, h1⟩] at hw
  subst hw
  go_enter Try.func24, Try.ntmps24
  go_upto_region 1 with fail
  go_quiet (fail)
  replace C := Chg.drewN C nq
  generalize w.drewN nq = w1 at C ⊢
  have f30 : w1.cell? ⟨g, 30, none⟩ = some (.int .i64 (a11)) := C.box.cell rfl
  go_wp2_with (first
    | (refine wpList_store_fld (by rfl) 3 _ _ rfl g 31 (.int .i64 (a11)) rfl rfl rfl _ _ C.box (by rw [cnt_size]; decide) (by kernel_rfl) (fun w2 u => ?_); replace C : CnTo w g x ⟨t0, a1, a2, a3, a4, a5, a6, a7, a8, a9, a10, a11, a11, a13⟩ (n) w2 := C.upd u; clear u)
    | (refine wpList_store_fld (by rfl) 3 _ _ rfl g 30 (.int .i64 (0)) rfl rfl rfl _ _ C.box (by rw [cnt_size]; decide) (by kernel_rfl) (fun w3 u => ?_); replace C : CnTo w g x ⟨t0, a1, a2, a3, a4, a5, a6, a7, a8, a9, a10, 0, a11, a13⟩ (n) w3 := C.upd u; clear u)
    | (refine wpList_store_fld (by rfl) 3 _ _ rfl g 32 (.int .i64 (0)) rfl rfl rfl _ _ C.box (by rw [cnt_size]; decide) (by kernel_rfl) (fun w4 u => ?_); replace C : CnTo w g x ⟨t0, a1, a2, a3, a4, a5, a6, a7, a8, a9, a10, 0, a11, 0⟩ (n) w4 := C.upd u; clear u)
    | (go_at_call 28; (with_reducible refine (UP _ C.box).mono ?_); rintro e w5 ⟨rfl, c⟩; replace C : CnTo w g x ⟨t0, t1, t2, t3, t4, t5, t6, t7, t8, t9, t10, t11, t12, t13⟩ (n ||| sm) w5 := C.trans c; clear c; have f19 : w5.cell? ⟨g, 19, none⟩ = some (.int .i64 (t0)) := C.box.cell rfl)
    | (refine wpList_store_fld (by rfl) 3 _ _ rfl g 19 (.int .i64 (t0 + 1)) rfl rfl rfl _ _ C.box (by rw [cnt_size]; decide) (by kernel_rfl) (fun w6 u => ?_); replace C : CnTo w g x ⟨t0 + 1, t1, t2, t3, t4, t5, t6, t7, t8, t9, t10, t11, t12, t13⟩ (n ||| sm) w6 := C.upd u; clear u))
  refine bodyPost_end (results_none Try.results24 _ _ _) rfl ⟨rfl, ?_⟩
  exact C
end Go.Proofs.Ytojdaigilagppaa
