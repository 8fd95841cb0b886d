/- Plain facts, several texts in one: LabelStep, LabelPlayC, LabelWaysC, LabelAlive, LabelBoundsA, LabelWaysA. Conditions: none beyond each lemma's own premises. -/
import Derived.Test.YtolbihfnogbjaaaRows
import Derived.Test.YtolbihfnogbjaaaBase
import Derived.Test.YtolbihfnogbjaaaZ2
import Derived.Test.YtolbihfnogbjaaaBookLim
import Derived.Test.YtolbihfnogbjaaaZ1
import Derived.Test.YtolbihfnogbjaaaZ4
import Derived.Test.YtolbihfnogbjaaaZ6
import Derived.Test.YtolbihfnogbjaaaZ3
import Derived.Test.YtolbihfnogbjaaaErrandChk
import Derived.Test.YtolbihfnogbjaaaZ7
import Derived.Test.YtolbihfnogbjaaaErrandSpot
import Derived.Test.YtolbihfnogbjaaaZ8
import Derived.Test.YtolbihfnogbjaaaZ9
import Derived.Test.YtolbihfnogbjaaaLabelTurn
import Derived.WalkKit
import Derived.WalkSpells
import Derived.WalkSmall
import Derived.Below
import Derived.Lib.Hide
import Derived.BigQuiet
import Derived.OwnWalk
import Derived.Outline
import Derived.Maps.RangeWalk
import Derived.Deep.DeepCutAuto
import Derived.OrdersHeld
import Derived.Deep.RegionHeld3
import Derived.Test.YtolbihfnogbjaaaBookMayR
import Derived.Test.YtolbihfnogbjaaaLabelRPlay
import Derived.Test.YtolbihfnogbjaaaLabelRef
import Derived.Test.YtolbihfnogbjaaaErrandFits
import Derived.Test.YtolbihfnogbjaaaErrandRStep

/- What step of layer 25 returns: the label behind a minute, and whether it may follow. Conditions: the book and the tasks may be and can be read, the label is right. -/
namespace Go.Proofs.Ytolbihfnogbjaaa
open Go.RowKit

set_option linter.unusedVariables false

/-- What layer 13's Step says of one minute. -/
theorem meter_one {x : Nat → Int} {m : Mt} (k : Int) (hx : May x) (hm : MayM m) : meterV x m [k] = if k < 0 ∨ 3 < k then (.zero, 0, 2) else if m.now = 40320 then (.zero, 0, 4) else (stepM x m k, stepC x m k, 0) := by
  rw [meterV_good _ hx hm]
  unfold runV runV
  simp

set_option maxRecDepth 100000 in
set_option maxHeartbeats 4000000 in
theorem step_err (x : Nat → Int) (A : Option Addr) (n c : Nat) (l : List Tk) (hn : l.length = n) (a : Lb) (k : Int) (w : World) (h : RdK w A l) (few : Few l) (hcn : n ≤ c) (ck : checkT l = 0) (hr : RightL l a) (e0 : Int) (hv : meterV x a.1 [k] = (.zero, 0, e0)) (h0 : e0 ≠ 0) :
    Calls Try.prog 19 #[.agg (rl x A n c), .agg (lb a), .int .i64 k] w fun e w' => e = .returned (.tuple #[.agg (lb lz), .bool false]) ∧ Below w.heap.size w w' := by
  have XR : Bx (((w.alloc (.cells (rl x A n c) 63)).alloc (.cells (lb a) 33)).alloc (.cells (#[.int .i64 0, .int .i64 0, .bool false, .int .i64 0, .int .i64 0, .int .i64 0, .int .i64 0, .bool false, .int .i64 0, .int .i64 0, .bool false, .int .i64 0, .int .i64 0, .int .i64 0, .int .i64 0, .int .i64 0, .int .i64 0]) 33)) (w.heap.size) 63 (rl x A n c) := ((Bx.new (W := w) _ _ (by simp)).alloc _).alloc _
  have XL : Bx (((w.alloc (.cells (rl x A n c) 63)).alloc (.cells (lb a) 33)).alloc (.cells (#[.int .i64 0, .int .i64 0, .bool false, .int .i64 0, .int .i64 0, .int .i64 0, .int .i64 0, .bool false, .int .i64 0, .int .i64 0, .bool false, .int .i64 0, .int .i64 0, .int .i64 0, .int .i64 0, .int .i64 0, .int .i64 0]) 33)) (w.heap.size + 1) 33 (lb a) := (Bx.new (W := (w.alloc (.cells (rl x A n c) 63))) _ _ (by simp)).alloc _
  have XP : Bx (((w.alloc (.cells (rl x A n c) 63)).alloc (.cells (lb a) 33)).alloc (.cells (#[.int .i64 0, .int .i64 0, .bool false, .int .i64 0, .int .i64 0, .int .i64 0, .int .i64 0, .bool false, .int .i64 0, .int .i64 0, .bool false, .int .i64 0, .int .i64 0, .int .i64 0, .int .i64 0, .int .i64 0, .int .i64 0]) 33)) (w.heap.size + 1 + 1) 33 (#[.int .i64 0, .int .i64 0, .bool false, .int .i64 0, .int .i64 0, .int .i64 0, .int .i64 0, .bool false, .int .i64 0, .int .i64 0, .bool false, .int .i64 0, .int .i64 0, .int .i64 0, .int .i64 0, .int .i64 0, .int .i64 0]) := (Bx.new (W := ((w.alloc (.cells (rl x A n c) 63)).alloc (.cells (lb a) 33))) _ _ (by simp))
  have B0 : Below w.heap.size w (((w.alloc (.cells (rl x A n c) 63)).alloc (.cells (lb a) 33)).alloc (.cells (#[.int .i64 0, .int .i64 0, .bool false, .int .i64 0, .int .i64 0, .int .i64 0, .int .i64 0, .bool false, .int .i64 0, .int .i64 0, .bool false, .int .i64 0, .int .i64 0, .int .i64 0, .int .i64 0, .int .i64 0, .int .i64 0]) 33)) := b_al (b_al (b_al (Below.refl _ _) (Nat.le_refl _) _) (Nat.le_refl _) _) (Nat.le_refl _) _
  have HK := Lib.hid (h.below B0)
  have CM := fun W => step13_any x a.1 k W
  rw [hv] at CM
  have g1 : (e0 != 0) = true := by simp [h0]
  have q0 : (((w.alloc (.cells (rl x A n c) 63)).alloc (.cells (lb a) 33)).alloc (.cells (#[.int .i64 0, .int .i64 0, .bool false, .int .i64 0, .int .i64 0, .int .i64 0, .int .i64 0, .bool false, .int .i64 0, .int .i64 0, .bool false, .int .i64 0, .int .i64 0, .int .i64 0, .int .i64 0, .int .i64 0, .int .i64 0]) 33)).cell? ⟨w.heap.size + 1, 0, none⟩ = some (.int .i64 a.1.now) := XL.lbN
  clear h few hcn ck hr hv hn
  clear h0
  go_enter Try.func19, Try.ntmps19
  go_wp2_with (first
    | go_skip
    | refine wpList_loadG (by rfl) 23 _ rfl (w.heap.size) (0) rfl (bk x) _ XR.rlB Try.underlying23 rfl (by kernel_rfl) ?_
    | refine wpList_loadG (by rfl) 26 _ rfl (w.heap.size + 1) (0) rfl (mt a.1) _ XL.lbM Try.underlying26 rfl (by kernel_rfl) ?_
    | (go_at_call 29; (with_reducible refine (CM _).mono ?_); rintro e w1 ⟨rfl, hb1⟩; have XR1 := XR.below hb1; have XL1 := XL.below hb1; have XP1 := XP.below hb1; have HB1 := Lib.hid (b_cl B0 (Nat.le_refl _) hb1); have hl1 := XP1.lt; clear q0)
    | (refine wpList_store_box rfl 26 _ _ rfl w1.heap.size (mt .zero) rfl rfl 26 (mt .zero) (Bx.new (W := w1) 26 (mt .zero) rfl) (by kernel_rfl) rfl (mt_one _) (fun w2 u2 => ?_); have XM2 := u2.box; have b2 := ((b_al (Below.refl w1.heap.size w1) (Nat.le_refl _) _).trans (u2.bel _ (Nat.le_refl _))); have XR2 := XR1.below b2; have XL2 := XL1.below b2; have XP2 := XP1.below b2; have HB2 := Lib.hid (b_cl HB1.out (Nat.le_refl _) b2); have q2 : w2.cell? ⟨w.heap.size + 1, 0, none⟩ = some (.int .i64 a.1.now) := XL2.lbN; clear b2)
    | refine wpList_build_as rfl 33 _ rfl (lb lz) (by kernel_rfl) ?_
    | (refine wpList_store_box rfl 33 _ _ rfl (w.heap.size + 1 + 1) (lb lz) rfl rfl 33 (lb lz) (XP2) (by kernel_rfl) rfl (lb_one _) (fun w9 u9 => ?_); have XP9 := u9.box; have HB9 := Lib.hid (HB2.out.trans (u9.bel _ (by omega)))))
  refine bodyPost_ret (v := .tuple #[.agg (lb lz), .bool false]) (results_box2 Try.results19 _ _ (w.heap.size + 1 + 1) 33 (lb lz) _ _ rfl XP9 rfl Try.underlying33 rfl (by kernel_rfl)) rfl ⟨rfl, ?_⟩
  exact HB9.out

set_option maxRecDepth 100000 in
set_option maxHeartbeats 4000000 in
theorem step_set (x : Nat → Int) (A : Option Addr) (n c : Nat) (l : List Tk) (hn : l.length = n) (a : Lb) (k : Int) (w : World) (h : RdK w A l) (few : Few l) (hcn : n ≤ c) (ck : checkT l = 0) (hr : RightL l a) (m1 : Mt) (b1 : Nat) (hv : meterV x a.1 [k] = (m1, b1, 0)) (h0 : b1 ≠ 0) :
    Calls Try.prog 19 #[.agg (rl x A n c), .agg (lb a), .int .i64 k] w fun e w' => e = .returned (.tuple #[.agg (lb lz), .bool false]) ∧ Below w.heap.size w w' := by
  have XR : Bx (((w.alloc (.cells (rl x A n c) 63)).alloc (.cells (lb a) 33)).alloc (.cells (#[.int .i64 0, .int .i64 0, .bool false, .int .i64 0, .int .i64 0, .int .i64 0, .int .i64 0, .bool false, .int .i64 0, .int .i64 0, .bool false, .int .i64 0, .int .i64 0, .int .i64 0, .int .i64 0, .int .i64 0, .int .i64 0]) 33)) (w.heap.size) 63 (rl x A n c) := ((Bx.new (W := w) _ _ (by simp)).alloc _).alloc _
  have XL : Bx (((w.alloc (.cells (rl x A n c) 63)).alloc (.cells (lb a) 33)).alloc (.cells (#[.int .i64 0, .int .i64 0, .bool false, .int .i64 0, .int .i64 0, .int .i64 0, .int .i64 0, .bool false, .int .i64 0, .int .i64 0, .bool false, .int .i64 0, .int .i64 0, .int .i64 0, .int .i64 0, .int .i64 0, .int .i64 0]) 33)) (w.heap.size + 1) 33 (lb a) := (Bx.new (W := (w.alloc (.cells (rl x A n c) 63))) _ _ (by simp)).alloc _
  have XP : Bx (((w.alloc (.cells (rl x A n c) 63)).alloc (.cells (lb a) 33)).alloc (.cells (#[.int .i64 0, .int .i64 0, .bool false, .int .i64 0, .int .i64 0, .int .i64 0, .int .i64 0, .bool false, .int .i64 0, .int .i64 0, .bool false, .int .i64 0, .int .i64 0, .int .i64 0, .int .i64 0, .int .i64 0, .int .i64 0]) 33)) (w.heap.size + 1 + 1) 33 (#[.int .i64 0, .int .i64 0, .bool false, .int .i64 0, .int .i64 0, .int .i64 0, .int .i64 0, .bool false, .int .i64 0, .int .i64 0, .bool false, .int .i64 0, .int .i64 0, .int .i64 0, .int .i64 0, .int .i64 0, .int .i64 0]) := (Bx.new (W := ((w.alloc (.cells (rl x A n c) 63)).alloc (.cells (lb a) 33))) _ _ (by simp))
  have B0 : Below w.heap.size w (((w.alloc (.cells (rl x A n c) 63)).alloc (.cells (lb a) 33)).alloc (.cells (#[.int .i64 0, .int .i64 0, .bool false, .int .i64 0, .int .i64 0, .int .i64 0, .int .i64 0, .bool false, .int .i64 0, .int .i64 0, .bool false, .int .i64 0, .int .i64 0, .int .i64 0, .int .i64 0, .int .i64 0, .int .i64 0]) 33)) := b_al (b_al (b_al (Below.refl _ _) (Nat.le_refl _) _) (Nat.le_refl _) _) (Nat.le_refl _) _
  have HK := Lib.hid (h.below B0)
  have CM := fun W => step13_any x a.1 k W
  rw [hv] at CM
  have g1 : ((b1 : Int) != 0) = true := by simp; omega
  have q0 : (((w.alloc (.cells (rl x A n c) 63)).alloc (.cells (lb a) 33)).alloc (.cells (#[.int .i64 0, .int .i64 0, .bool false, .int .i64 0, .int .i64 0, .int .i64 0, .int .i64 0, .bool false, .int .i64 0, .int .i64 0, .bool false, .int .i64 0, .int .i64 0, .int .i64 0, .int .i64 0, .int .i64 0, .int .i64 0]) 33)).cell? ⟨w.heap.size + 1, 0, none⟩ = some (.int .i64 a.1.now) := XL.lbN
  clear h few hcn ck hr hv hn
  clear h0
  go_enter Try.func19, Try.ntmps19
  go_wp2_with (first
    | go_skip
    | refine wpList_loadG (by rfl) 23 _ rfl (w.heap.size) (0) rfl (bk x) _ XR.rlB Try.underlying23 rfl (by kernel_rfl) ?_
    | refine wpList_loadG (by rfl) 26 _ rfl (w.heap.size + 1) (0) rfl (mt a.1) _ XL.lbM Try.underlying26 rfl (by kernel_rfl) ?_
    | (go_at_call 29; (with_reducible refine (CM _).mono ?_); rintro e w1 ⟨rfl, hb1⟩; have XR1 := XR.below hb1; have XL1 := XL.below hb1; have XP1 := XP.below hb1; have HB1 := Lib.hid (b_cl B0 (Nat.le_refl _) hb1); have hl1 := XP1.lt; clear q0)
    | (refine wpList_store_box rfl 26 _ _ rfl w1.heap.size (mt m1) rfl rfl 26 (mt .zero) (Bx.new (W := w1) 26 (mt .zero) rfl) (by kernel_rfl) rfl (mt_one _) (fun w2 u2 => ?_); have XM2 := u2.box; have b2 := ((b_al (Below.refl w1.heap.size w1) (Nat.le_refl _) _).trans (u2.bel _ (Nat.le_refl _))); have XR2 := XR1.below b2; have XL2 := XL1.below b2; have XP2 := XP1.below b2; have HB2 := Lib.hid (b_cl HB1.out (Nat.le_refl _) b2); have q2 : w2.cell? ⟨w.heap.size + 1, 0, none⟩ = some (.int .i64 a.1.now) := XL2.lbN; clear b2)
    | refine wpList_build_as rfl 33 _ rfl (lb lz) (by kernel_rfl) ?_
    | (refine wpList_store_box rfl 33 _ _ rfl (w.heap.size + 1 + 1) (lb lz) rfl rfl 33 (lb lz) (XP2) (by kernel_rfl) rfl (lb_one _) (fun w9 u9 => ?_); have XP9 := u9.box; have HB9 := Lib.hid (HB2.out.trans (u9.bel _ (by omega)))))
  refine bodyPost_ret (v := .tuple #[.agg (lb lz), .bool false]) (results_box2 Try.results19 _ _ (w.heap.size + 1 + 1) 33 (lb lz) _ _ rfl XP9 rfl Try.underlying33 rfl (by kernel_rfl)) rfl ⟨rfl, ?_⟩
  exact HB9.out

set_option maxRecDepth 100000 in
set_option maxHeartbeats 4000000 in
theorem step_turn (x : Nat → Int) (A : Option Addr) (n c : Nat) (l : List Tk) (hn : l.length = n) (a : Lb) (k : Int) (w : World) (h : RdK w A l) (few : Few l) (hcn : n ≤ c) (ck : checkT l = 0) (hr : RightL l a) (m1 : Mt) (hv : meterV x a.1 [k] = (m1, 0, 0)) (hk : 0 ≤ k ∧ k ≤ 3) (hN : a.1.now ≠ 40320) (hf : freeT l a.2 a.1.now k = false) :
    Calls Try.prog 19 #[.agg (rl x A n c), .agg (lb a), .int .i64 k] w fun e w' => e = .returned (.tuple #[.agg (lb lz), .bool false]) ∧ Below w.heap.size w w' := by
  have XR : Bx (((w.alloc (.cells (rl x A n c) 63)).alloc (.cells (lb a) 33)).alloc (.cells (#[.int .i64 0, .int .i64 0, .bool false, .int .i64 0, .int .i64 0, .int .i64 0, .int .i64 0, .bool false, .int .i64 0, .int .i64 0, .bool false, .int .i64 0, .int .i64 0, .int .i64 0, .int .i64 0, .int .i64 0, .int .i64 0]) 33)) (w.heap.size) 63 (rl x A n c) := ((Bx.new (W := w) _ _ (by simp)).alloc _).alloc _
  have XL : Bx (((w.alloc (.cells (rl x A n c) 63)).alloc (.cells (lb a) 33)).alloc (.cells (#[.int .i64 0, .int .i64 0, .bool false, .int .i64 0, .int .i64 0, .int .i64 0, .int .i64 0, .bool false, .int .i64 0, .int .i64 0, .bool false, .int .i64 0, .int .i64 0, .int .i64 0, .int .i64 0, .int .i64 0, .int .i64 0]) 33)) (w.heap.size + 1) 33 (lb a) := (Bx.new (W := (w.alloc (.cells (rl x A n c) 63))) _ _ (by simp)).alloc _
  have XP : Bx (((w.alloc (.cells (rl x A n c) 63)).alloc (.cells (lb a) 33)).alloc (.cells (#[.int .i64 0, .int .i64 0, .bool false, .int .i64 0, .int .i64 0, .int .i64 0, .int .i64 0, .bool false, .int .i64 0, .int .i64 0, .bool false, .int .i64 0, .int .i64 0, .int .i64 0, .int .i64 0, .int .i64 0, .int .i64 0]) 33)) (w.heap.size + 1 + 1) 33 (#[.int .i64 0, .int .i64 0, .bool false, .int .i64 0, .int .i64 0, .int .i64 0, .int .i64 0, .bool false, .int .i64 0, .int .i64 0, .bool false, .int .i64 0, .int .i64 0, .int .i64 0, .int .i64 0, .int .i64 0, .int .i64 0]) := (Bx.new (W := ((w.alloc (.cells (rl x A n c) 63)).alloc (.cells (lb a) 33))) _ _ (by simp))
  have B0 : Below w.heap.size w (((w.alloc (.cells (rl x A n c) 63)).alloc (.cells (lb a) 33)).alloc (.cells (#[.int .i64 0, .int .i64 0, .bool false, .int .i64 0, .int .i64 0, .int .i64 0, .int .i64 0, .bool false, .int .i64 0, .int .i64 0, .bool false, .int .i64 0, .int .i64 0, .int .i64 0, .int .i64 0, .int .i64 0, .int .i64 0]) 33)) := b_al (b_al (b_al (Below.refl _ _) (Nat.le_refl _) _) (Nat.le_refl _) _) (Nat.le_refl _) _
  have HK := Lib.hid (h.below B0)
  have CM := fun W => step13_any x a.1 k W
  rw [hv] at CM
  have CT := fun W (h : RdK W A l) => turn25_any x A n c l hn a.2 a.1.now k W h few hcn ck hr.2 (by have := hr.1.1; omega) hk
  rw [turnV_no hf] at CT
  have q0 : (((w.alloc (.cells (rl x A n c) 63)).alloc (.cells (lb a) 33)).alloc (.cells (#[.int .i64 0, .int .i64 0, .bool false, .int .i64 0, .int .i64 0, .int .i64 0, .int .i64 0, .bool false, .int .i64 0, .int .i64 0, .bool false, .int .i64 0, .int .i64 0, .int .i64 0, .int .i64 0, .int .i64 0, .int .i64 0]) 33)).cell? ⟨w.heap.size + 1, 0, none⟩ = some (.int .i64 a.1.now) := XL.lbN
  clear h few hcn ck hr hv hn
  clear hk hN hf
  go_enter Try.func19, Try.ntmps19
  go_wp2_with (first
    | go_skip
    | refine wpList_loadG (by rfl) 23 _ rfl (w.heap.size) (0) rfl (bk x) _ XR.rlB Try.underlying23 rfl (by kernel_rfl) ?_
    | refine wpList_loadG (by rfl) 26 _ rfl (w.heap.size + 1) (0) rfl (mt a.1) _ XL.lbM Try.underlying26 rfl (by kernel_rfl) ?_
    | (go_at_call 29; (with_reducible refine (CM _).mono ?_); rintro e w1 ⟨rfl, hb1⟩; have XR1 := XR.below hb1; have XL1 := XL.below hb1; have XP1 := XP.below hb1; have HB1 := Lib.hid (b_cl B0 (Nat.le_refl _) hb1); have hl1 := XP1.lt; have HK1 := Lib.hid (HK.out.below hb1); clear q0)
    | (refine wpList_store_box rfl 26 _ _ rfl w1.heap.size (mt m1) rfl rfl 26 (mt .zero) (Bx.new (W := w1) 26 (mt .zero) rfl) (by kernel_rfl) rfl (mt_one _) (fun w2 u2 => ?_); have XM2 := u2.box; have b2 := ((b_al (Below.refl w1.heap.size w1) (Nat.le_refl _) _).trans (u2.bel _ (Nat.le_refl _))); have XR2 := XR1.below b2; have XL2 := XL1.below b2; have XP2 := XP1.below b2; have HB2 := Lib.hid (b_cl HB1.out (Nat.le_refl _) b2); have q2 : w2.cell? ⟨w.heap.size + 1, 0, none⟩ = some (.int .i64 a.1.now) := XL2.lbN; have HK2 := Lib.hid (HK1.out.below b2); clear b2)
    | refine wpList_load_box (by rfl) 63 _ rfl (w.heap.size) rfl 63 (rl x A n c) _ XR2 Try.underlying63 rfl (by kernel_rfl) ?_
    | refine wpList_loadG (by rfl) 28 _ rfl (w.heap.size + 1) (14) rfl (sp3 a.2) _ XL2.lbS Try.underlying28 rfl (by kernel_rfl) ?_
    | (go_at_call 30; (with_reducible refine (CT _ (HK2.out)).mono ?_); rintro e w3 ⟨rfl, hb3⟩; have XM3 := XM2.below hb3; have XP3 := XP2.below hb3; have HB3 := Lib.hid (b_cl HB2.out (Nat.le_refl _) hb3))
    | (refine wpList_store_box rfl 28 _ _ rfl w3.heap.size (sp3 (0, 0, 0)) rfl rfl 28 (sp3 (0, 0, 0)) (Bx.new (W := w3) 28 (sp3 (0, 0, 0)) rfl) (by kernel_rfl) rfl (one3 _ _ _) (fun w4 u4 => ?_); have XS4 := u4.box; have b4 := ((b_al (Below.refl w3.heap.size w3) (Nat.le_refl _) _).trans (u4.bel _ (Nat.le_refl _))); have XM4 := XM3.below b4; have XP4 := XP3.below b4; have HB4 := Lib.hid (b_cl HB3.out (Nat.le_refl _) b4); clear b4)
    | refine wpList_build_as rfl 33 _ rfl (lb lz) (by kernel_rfl) ?_
    | (refine wpList_store_box rfl 33 _ _ rfl (w.heap.size + 1 + 1) (lb lz) rfl rfl 33 (lb lz) (XP4) (by kernel_rfl) rfl (lb_one _) (fun w9 u9 => ?_); have XP9 := u9.box; have HB9 := Lib.hid (HB4.out.trans (u9.bel _ (by omega)))))
  refine bodyPost_ret (v := .tuple #[.agg (lb lz), .bool false]) (results_box2 Try.results19 _ _ (w.heap.size + 1 + 1) 33 (lb lz) _ _ rfl XP9 rfl Try.underlying33 rfl (by kernel_rfl)) rfl ⟨rfl, ?_⟩
  exact HB9.out

set_option maxRecDepth 100000 in
set_option maxHeartbeats 4000000 in
theorem step_go (x : Nat → Int) (A : Option Addr) (n c : Nat) (l : List Tk) (hn : l.length = n) (a : Lb) (k : Int) (w : World) (h : RdK w A l) (few : Few l) (hcn : n ≤ c) (ck : checkT l = 0) (hr : RightL l a) (m1 : Mt) (hv : meterV x a.1 [k] = (m1, 0, 0)) (hk : 0 ≤ k ∧ k ≤ 3) (hN : a.1.now ≠ 40320) (s1 : Pt) (hf : turnV l a.2 a.1.now k = (s1, true)) :
    Calls Try.prog 19 #[.agg (rl x A n c), .agg (lb a), .int .i64 k] w fun e w' => e = .returned (.tuple #[.agg (lb (m1, s1)), .bool true]) ∧ Below w.heap.size w w' := by
  have XR : Bx (((w.alloc (.cells (rl x A n c) 63)).alloc (.cells (lb a) 33)).alloc (.cells (#[.int .i64 0, .int .i64 0, .bool false, .int .i64 0, .int .i64 0, .int .i64 0, .int .i64 0, .bool false, .int .i64 0, .int .i64 0, .bool false, .int .i64 0, .int .i64 0, .int .i64 0, .int .i64 0, .int .i64 0, .int .i64 0]) 33)) (w.heap.size) 63 (rl x A n c) := ((Bx.new (W := w) _ _ (by simp)).alloc _).alloc _
  have XL : Bx (((w.alloc (.cells (rl x A n c) 63)).alloc (.cells (lb a) 33)).alloc (.cells (#[.int .i64 0, .int .i64 0, .bool false, .int .i64 0, .int .i64 0, .int .i64 0, .int .i64 0, .bool false, .int .i64 0, .int .i64 0, .bool false, .int .i64 0, .int .i64 0, .int .i64 0, .int .i64 0, .int .i64 0, .int .i64 0]) 33)) (w.heap.size + 1) 33 (lb a) := (Bx.new (W := (w.alloc (.cells (rl x A n c) 63))) _ _ (by simp)).alloc _
  have XP : Bx (((w.alloc (.cells (rl x A n c) 63)).alloc (.cells (lb a) 33)).alloc (.cells (#[.int .i64 0, .int .i64 0, .bool false, .int .i64 0, .int .i64 0, .int .i64 0, .int .i64 0, .bool false, .int .i64 0, .int .i64 0, .bool false, .int .i64 0, .int .i64 0, .int .i64 0, .int .i64 0, .int .i64 0, .int .i64 0]) 33)) (w.heap.size + 1 + 1) 33 (#[.int .i64 0, .int .i64 0, .bool false, .int .i64 0, .int .i64 0, .int .i64 0, .int .i64 0, .bool false, .int .i64 0, .int .i64 0, .bool false, .int .i64 0, .int .i64 0, .int .i64 0, .int .i64 0, .int .i64 0, .int .i64 0]) := (Bx.new (W := ((w.alloc (.cells (rl x A n c) 63)).alloc (.cells (lb a) 33))) _ _ (by simp))
  have B0 : Below w.heap.size w (((w.alloc (.cells (rl x A n c) 63)).alloc (.cells (lb a) 33)).alloc (.cells (#[.int .i64 0, .int .i64 0, .bool false, .int .i64 0, .int .i64 0, .int .i64 0, .int .i64 0, .bool false, .int .i64 0, .int .i64 0, .bool false, .int .i64 0, .int .i64 0, .int .i64 0, .int .i64 0, .int .i64 0, .int .i64 0]) 33)) := b_al (b_al (b_al (Below.refl _ _) (Nat.le_refl _) _) (Nat.le_refl _) _) (Nat.le_refl _) _
  have HK := Lib.hid (h.below B0)
  have CM := fun W => step13_any x a.1 k W
  rw [hv] at CM
  have CT := fun W (h : RdK W A l) => turn25_any x A n c l hn a.2 a.1.now k W h few hcn ck hr.2 (by have := hr.1.1; omega) hk
  rw [hf] at CT
  have q0 : (((w.alloc (.cells (rl x A n c) 63)).alloc (.cells (lb a) 33)).alloc (.cells (#[.int .i64 0, .int .i64 0, .bool false, .int .i64 0, .int .i64 0, .int .i64 0, .int .i64 0, .bool false, .int .i64 0, .int .i64 0, .bool false, .int .i64 0, .int .i64 0, .int .i64 0, .int .i64 0, .int .i64 0, .int .i64 0]) 33)).cell? ⟨w.heap.size + 1, 0, none⟩ = some (.int .i64 a.1.now) := XL.lbN
  clear h few hcn ck hr hv hn
  clear hk hN hf
  go_enter Try.func19, Try.ntmps19
  go_wp2_with (first
    | go_skip
    | refine wpList_loadG (by rfl) 23 _ rfl (w.heap.size) (0) rfl (bk x) _ XR.rlB Try.underlying23 rfl (by kernel_rfl) ?_
    | refine wpList_loadG (by rfl) 26 _ rfl (w.heap.size + 1) (0) rfl (mt a.1) _ XL.lbM Try.underlying26 rfl (by kernel_rfl) ?_
    | (go_at_call 29; (with_reducible refine (CM _).mono ?_); rintro e w1 ⟨rfl, hb1⟩; have XR1 := XR.below hb1; have XL1 := XL.below hb1; have XP1 := XP.below hb1; have HB1 := Lib.hid (b_cl B0 (Nat.le_refl _) hb1); have hl1 := XP1.lt; have HK1 := Lib.hid (HK.out.below hb1); clear q0)
    | (refine wpList_store_box rfl 26 _ _ rfl w1.heap.size (mt m1) rfl rfl 26 (mt .zero) (Bx.new (W := w1) 26 (mt .zero) rfl) (by kernel_rfl) rfl (mt_one _) (fun w2 u2 => ?_); have XM2 := u2.box; have b2 := ((b_al (Below.refl w1.heap.size w1) (Nat.le_refl _) _).trans (u2.bel _ (Nat.le_refl _))); have XR2 := XR1.below b2; have XL2 := XL1.below b2; have XP2 := XP1.below b2; have HB2 := Lib.hid (b_cl HB1.out (Nat.le_refl _) b2); have q2 : w2.cell? ⟨w.heap.size + 1, 0, none⟩ = some (.int .i64 a.1.now) := XL2.lbN; have HK2 := Lib.hid (HK1.out.below b2); clear b2)
    | refine wpList_load_box (by rfl) 63 _ rfl (w.heap.size) rfl 63 (rl x A n c) _ XR2 Try.underlying63 rfl (by kernel_rfl) ?_
    | refine wpList_loadG (by rfl) 28 _ rfl (w.heap.size + 1) (14) rfl (sp3 a.2) _ XL2.lbS Try.underlying28 rfl (by kernel_rfl) ?_
    | (go_at_call 30; (with_reducible refine (CT _ (HK2.out)).mono ?_); rintro e w3 ⟨rfl, hb3⟩; have XM3 := XM2.below hb3; have XP3 := XP2.below hb3; have HB3 := Lib.hid (b_cl HB2.out (Nat.le_refl _) hb3))
    | (refine wpList_store_box rfl 28 _ _ rfl w3.heap.size (sp3 s1) rfl rfl 28 (sp3 (0, 0, 0)) (Bx.new (W := w3) 28 (sp3 (0, 0, 0)) rfl) (by kernel_rfl) rfl (one3 _ _ _) (fun w4 u4 => ?_); have XS4 := u4.box; have b4 := ((b_al (Below.refl w3.heap.size w3) (Nat.le_refl _) _).trans (u4.bel _ (Nat.le_refl _))); have XM4 := XM3.below b4; have XP4 := XP3.below b4; have HB4 := Lib.hid (b_cl HB3.out (Nat.le_refl _) b4); clear b4)
    | refine wpList_load_box (by rfl) 26 _ rfl (w1.heap.size) rfl 26 (mt m1) _ XM4 Try.underlying26 rfl (by kernel_rfl) ?_
    | refine wpList_load_box (by rfl) 28 _ rfl (w3.heap.size) rfl 28 (sp3 s1) _ XS4 Try.underlying28 rfl (by kernel_rfl) ?_
    | refine wpList_build_as rfl 33 _ rfl (lb (m1, s1)) (by kernel_rfl) ?_
    | (refine wpList_store_box rfl 33 _ _ rfl (w.heap.size + 1 + 1) (lb (m1, s1)) rfl rfl 33 (lb lz) (XP4) (by kernel_rfl) rfl (lb_one _) (fun w9 u9 => ?_); have XP9 := u9.box; have HB9 := Lib.hid (HB4.out.trans (u9.bel _ (by omega)))))
  refine bodyPost_ret (v := .tuple #[.agg (lb (m1, s1)), .bool true]) (results_box2 Try.results19 _ _ (w.heap.size + 1 + 1) 33 (lb (m1, s1)) _ _ rfl XP9 rfl Try.underlying33 rfl (by kernel_rfl)) rfl ⟨rfl, ?_⟩
  exact HB9.out

theorem step25_any (x : Nat → Int) (A : Option Addr) (n c : Nat) (l : List Tk) (hn : l.length = n) (hx : May x) (a : Lb) (k : Int) (w : World) (h : RdK w A l) (few : Few l) (hcn : n ≤ c) (ck : checkT l = 0) (hr : RightL l a) :
    Calls Try.prog 19 #[.agg (rl x A n c), .agg (lb a), .int .i64 k] w fun e w' => e = .returned (.tuple #[.agg (lb (stepV25 x l a k).1), .bool (stepV25 x l a k).2]) ∧ Below w.heap.size w w' := by
  have hv := meter_one k hx hr.1
  by_cases hk : k < 0 ∨ 3 < k
  · rw [if_pos hk] at hv
    rw [stepV25_no (fun g => by have := g.1; omega)]
    exact step_err x A n c l hn a k w h few hcn ck hr 2 hv (by decide)
  rw [if_neg hk] at hv
  by_cases hN : a.1.now = 40320
  · rw [if_pos hN] at hv
    rw [stepV25_no (fun g => g.2.1 hN)]
    exact step_err x A n c l hn a k w h few hcn ck hr 4 hv (by decide)
  rw [if_neg hN] at hv
  by_cases hs : stepC x a.1 k = 0
  · rw [hs] at hv
    cases hf : freeT l a.2 a.1.now k with
    | false =>
      rw [stepV25_no (fun g => by have := g.2.2.2; rw [hf] at this; cases this)]
      exact step_turn x A n c l hn a k w h few hcn ck hr _ hv (by omega) hN hf
    | true =>
      rw [stepV25_yes ⟨by omega, hN, hs, hf⟩]
      exact step_go x A n c l hn a k w h few hcn ck hr _ hv (by omega) hN _ (turnV_yes hf)
  · rw [stepV25_no (fun g => hs g.2.2.1)]
    exact step_set x A n c l hn a k w h few hcn ck hr _ _ hv hs

end Go.Proofs.Ytolbihfnogbjaaa

/- What Play of layer 25 returns: the label behind minutes one behind the other. Conditions: the tasks and the kinds can be read. -/
namespace Go.Proofs.Ytolbihfnogbjaaa
open Go.RowKit

set_option linter.unusedVariables false

set_option maxRecDepth 100000 in
set_option maxHeartbeats 4000000 in
theorem play25_bad (x : Nat → Int) (A : Option Addr) (n c : Nat) (l : List Tk) (hn : l.length = n) (a : Lb) (A2 : Option Addr) (n2 c2 : Nat) (ks : List Int) (hn2 : ks.length = n2) (hb2 : n2 ≤ 1000000)  (w : World) (h : RdK w A l) (few : Few l) (hcn : n ≤ c) (hz : A = none → c = 0) (hy : -9223372036854775808 ≤ a.2.2.1 ∧ a.2.2.1 ≤ 9223372036854775807) (hs : -9223372036854775808 ≤ a.2.2.2 ∧ a.2.2.2 ≤ 9223372036854775807) (e0 : Int) (hc : chk25 x l a = e0) (h0 : e0 ≠ 0) :
    Calls Try.prog 12 #[.agg (bk x), .slice A n c, .agg (lb a), .slice A2 n2 c2] w fun e w' => e = .returned (.tuple #[.agg (lb (lz)), .bool (false), .int .i64 (e0)]) ∧ Below w.heap.size w w' := by
  have XB : Bx (((w.alloc (.cells (bk x) 23)).alloc (.cells (lb a) 33)).alloc (.cells (#[.int .i64 0, .int .i64 0, .bool false, .int .i64 0, .int .i64 0, .int .i64 0, .int .i64 0, .bool false, .int .i64 0, .int .i64 0, .bool false, .int .i64 0, .int .i64 0, .int .i64 0, .int .i64 0, .int .i64 0, .int .i64 0]) 33)) (w.heap.size) 23 (bk x) := ((Bx.new (W := w) _ _ (by simp)).alloc _).alloc _
  have XL : Bx (((w.alloc (.cells (bk x) 23)).alloc (.cells (lb a) 33)).alloc (.cells (#[.int .i64 0, .int .i64 0, .bool false, .int .i64 0, .int .i64 0, .int .i64 0, .int .i64 0, .bool false, .int .i64 0, .int .i64 0, .bool false, .int .i64 0, .int .i64 0, .int .i64 0, .int .i64 0, .int .i64 0, .int .i64 0]) 33)) (w.heap.size + 1) 33 (lb a) := (Bx.new (W := (w.alloc (.cells (bk x) 23))) _ _ (by simp)).alloc _
  have XP : Bx (((w.alloc (.cells (bk x) 23)).alloc (.cells (lb a) 33)).alloc (.cells (#[.int .i64 0, .int .i64 0, .bool false, .int .i64 0, .int .i64 0, .int .i64 0, .int .i64 0, .bool false, .int .i64 0, .int .i64 0, .bool false, .int .i64 0, .int .i64 0, .int .i64 0, .int .i64 0, .int .i64 0, .int .i64 0]) 33)) (w.heap.size + 1 + 1) 33 (#[.int .i64 0, .int .i64 0, .bool false, .int .i64 0, .int .i64 0, .int .i64 0, .int .i64 0, .bool false, .int .i64 0, .int .i64 0, .bool false, .int .i64 0, .int .i64 0, .int .i64 0, .int .i64 0, .int .i64 0, .int .i64 0]) := (Bx.new (W := ((w.alloc (.cells (bk x) 23)).alloc (.cells (lb a) 33))) _ _ (by simp))
  have B0 : Below w.heap.size w (((w.alloc (.cells (bk x) 23)).alloc (.cells (lb a) 33)).alloc (.cells (#[.int .i64 0, .int .i64 0, .bool false, .int .i64 0, .int .i64 0, .int .i64 0, .int .i64 0, .bool false, .int .i64 0, .int .i64 0, .bool false, .int .i64 0, .int .i64 0, .int .i64 0, .int .i64 0, .int .i64 0, .int .i64 0]) 33)) := b_al (b_al (b_al (Below.refl _ _) (Nat.le_refl _) _) (Nat.le_refl _) _) (Nat.le_refl _) _
  have HK := Lib.hid (h.below B0)
  have CC := fun W (h : RdK W A l) => check25_any x A n c l hn a W h few hcn hz hy hs
  rw [hc] at CC
  have hne : (e0 != 0) = true := by simp [h0]
  clear h few hcn hz hy hs hc h0 hn hn2
  go_enter Try.func12, Try.ntmps12
  go_wp2_with (first
    | go_skip
    | refine wpList_load_box (by rfl) 23 _ rfl (w.heap.size) rfl 23 (bk x) _ XB Try.underlying23 rfl (by kernel_rfl) ?_
    | refine wpList_load_box (by rfl) 33 _ rfl (w.heap.size + 1) rfl 33 (lb a) _ XL Try.underlying33 rfl (by kernel_rfl) ?_
    | (go_at_call 10; (with_reducible refine (CC _ HK.out).mono ?_); rintro e w1 ⟨rfl, hb1⟩; have HB1 := Lib.hid (b_cl B0 (Nat.le_refl _) hb1); have XP1 := XP.below hb1; have hl1 := XP1.lt)
    | refine wpList_build_as rfl 33 _ rfl (lb lz) (by kernel_rfl) ?_
    | (refine wpList_store_box rfl 33 _ _ rfl (w.heap.size + 1 + 1) (lb lz) rfl rfl 33 (lb lz) (XP1) (by kernel_rfl) rfl (lb_one _) (fun w9 u9 => ?_); have XP9 := u9.box; have HB9 := Lib.hid (HB1.out.trans (u9.bel _ (by omega)))))
  refine bodyPost_ret (v := .tuple #[.agg (lb lz), .bool false, .int .i64 e0]) (results_box3 Try.results12 _ _ (w.heap.size + 1 + 1) 33 (lb lz) _ _ _ rfl XP9 rfl rfl Try.underlying33 rfl (by kernel_rfl)) rfl ⟨rfl, ?_⟩
  exact HB9.out

set_option maxRecDepth 100000 in
set_option maxHeartbeats 4000000 in
theorem play25_ok (x : Nat → Int) (A : Option Addr) (n c : Nat) (l : List Tk) (hn : l.length = n) (a : Lb) (A2 : Option Addr) (n2 c2 : Nat) (ks : List Int) (hn2 : ks.length = n2) (hb2 : n2 ≤ 1000000)  (w : World) (r2 : RdN w A2 ks) (h : RdK w A l) (few : Few l) (hcn : n ≤ c) (hz : A = none → c = 0) (hy : -9223372036854775808 ≤ a.2.2.1 ∧ a.2.2.1 ≤ 9223372036854775807) (hs : -9223372036854775808 ≤ a.2.2.2 ∧ a.2.2.2 ≤ 9223372036854775807) (hc : chk25 x l a = 0) :
    Calls Try.prog 12 #[.agg (bk x), .slice A n c, .agg (lb a), .slice A2 n2 c2] w fun e w' => e = .returned (.tuple #[.agg (lb ((playL x l a ks).1)), .bool ((playL x l a ks).2), .int .i64 (0)]) ∧ Below w.heap.size w w' := by
  have XB : Bx (((w.alloc (.cells (bk x) 23)).alloc (.cells (lb a) 33)).alloc (.cells (#[.int .i64 0, .int .i64 0, .bool false, .int .i64 0, .int .i64 0, .int .i64 0, .int .i64 0, .bool false, .int .i64 0, .int .i64 0, .bool false, .int .i64 0, .int .i64 0, .int .i64 0, .int .i64 0, .int .i64 0, .int .i64 0]) 33)) (w.heap.size) 23 (bk x) := ((Bx.new (W := w) _ _ (by simp)).alloc _).alloc _
  have XL : Bx (((w.alloc (.cells (bk x) 23)).alloc (.cells (lb a) 33)).alloc (.cells (#[.int .i64 0, .int .i64 0, .bool false, .int .i64 0, .int .i64 0, .int .i64 0, .int .i64 0, .bool false, .int .i64 0, .int .i64 0, .bool false, .int .i64 0, .int .i64 0, .int .i64 0, .int .i64 0, .int .i64 0, .int .i64 0]) 33)) (w.heap.size + 1) 33 (lb a) := (Bx.new (W := (w.alloc (.cells (bk x) 23))) _ _ (by simp)).alloc _
  have XP : Bx (((w.alloc (.cells (bk x) 23)).alloc (.cells (lb a) 33)).alloc (.cells (#[.int .i64 0, .int .i64 0, .bool false, .int .i64 0, .int .i64 0, .int .i64 0, .int .i64 0, .bool false, .int .i64 0, .int .i64 0, .bool false, .int .i64 0, .int .i64 0, .int .i64 0, .int .i64 0, .int .i64 0, .int .i64 0]) 33)) (w.heap.size + 1 + 1) 33 (#[.int .i64 0, .int .i64 0, .bool false, .int .i64 0, .int .i64 0, .int .i64 0, .int .i64 0, .bool false, .int .i64 0, .int .i64 0, .bool false, .int .i64 0, .int .i64 0, .int .i64 0, .int .i64 0, .int .i64 0, .int .i64 0]) := (Bx.new (W := ((w.alloc (.cells (bk x) 23)).alloc (.cells (lb a) 33))) _ _ (by simp))
  have B0 : Below w.heap.size w (((w.alloc (.cells (bk x) 23)).alloc (.cells (lb a) 33)).alloc (.cells (#[.int .i64 0, .int .i64 0, .bool false, .int .i64 0, .int .i64 0, .int .i64 0, .int .i64 0, .bool false, .int .i64 0, .int .i64 0, .bool false, .int .i64 0, .int .i64 0, .int .i64 0, .int .i64 0, .int .i64 0, .int .i64 0]) 33)) := b_al (b_al (b_al (Below.refl _ _) (Nat.le_refl _) _) (Nat.le_refl _) _) (Nat.le_refl _) _
  have HK := Lib.hid h
  have HR2 := Lib.hid r2
  have HN2 := Lib.hid hn2
  have CC := fun W (h : RdK W A l) => check25_any x A n c l hn a W h few hcn hz hy hs
  rw [hc] at CC
  obtain ⟨hx, ck, hr⟩ := chk25_zero hc
  have ok := (checkt_zero ck).1
  have HX := Lib.hid (show ∀ b k W, RightL l b → RdK W A l → Calls Try.prog 19 #[.agg (rl x A n c), .agg (lb b), .int .i64 k] W fun e w' => e = .returned (.tuple #[.agg (lb (stepV25 x l b k).1), .bool (stepV25 x l b k).2]) ∧ Below W.heap.size W w' from fun b k W hb h => step25_any x A n c l hn hx b k W h few hcn ck hb)
  have HG := Lib.hid (show ∀ b k, RightL l b → goes x l b k → RightL l (nextB x l b k) from fun b k hb g => (goes_on ok hb g).1)
  have HR := Lib.hid hr
  obtain ⟨V, hV⟩ : ∃ V, playL x l a ks = V := ⟨_, rfl⟩
  have HV := Lib.hid hV
  rw [hV]
  clear h few hcn hz hy hs hc hx ck hr ok r2 hn2 hV hn
  go_enter Try.func12, Try.ntmps12
  go_wp2_with (first
    | go_skip
    | refine wpList_load_box (by rfl) 23 _ rfl (w.heap.size) rfl 23 (bk x) _ XB Try.underlying23 rfl (by kernel_rfl) ?_
    | refine wpList_load_box (by rfl) 33 _ rfl (w.heap.size + 1) rfl 33 (lb a) _ XL Try.underlying33 rfl (by kernel_rfl) ?_
    | (go_at_call 10; (with_reducible refine (CC _ (HK.out.below B0)).mono ?_); rintro e w1 ⟨rfl, hb1⟩; have HB1 := Lib.hid (b_cl B0 (Nat.le_refl _) hb1); have XB1 := XB.below hb1; have XL1 := XL.below hb1; have XP1 := XP.below hb1; have hl1 := XP1.lt; clear hb1)
    | refine wpList_load_box (by rfl) 23 _ rfl (w.heap.size) rfl 23 (bk x) _ XB1 Try.underlying23 rfl (by kernel_rfl) ?_
    | refine wpList_build_as rfl 63 _ rfl (rl x A n c) (by kernel_rfl) ?_
    | (refine wpList_store_box rfl 63 _ _ rfl w1.heap.size (rl x A n c) rfl rfl 63 (rl (fun _ => 0) none 0 0) (Bx.new (W := w1) 63 (rl (fun _ => 0) none 0 0) rfl) (by kernel_rfl) rfl (rl_one _ _ _ _) (fun w2 u2 => ?_); have XR2 := u2.box; have b2 := ((b_al (Below.refl w1.heap.size w1) (Nat.le_refl _) _).trans (u2.bel _ (Nat.le_refl _))); have XL2 := XL1.below b2; have XP2 := XP1.below b2; have HB2 := Lib.hid (b_cl HB1.out (Nat.le_refl _) b2); clear b2))
  (try go_frame)
  clear XB1 XL1 XP1 HB1
  obtain ⟨N1, hN1⟩ : ∃ N1, w1.heap.size = N1 := ⟨_, rfl⟩
  have hNw : w.heap.size + 1 + 1 < N1 := by omega
  rw [hN1] at XR2 ⊢
  have hl2 := XR2.lt
  clear hN1
  go_loopw [30] (fun i wr => ∃ (k : Nat) (b : Lb), k ≤ n2 ∧ i = .int .i64 k ∧ Hid (RightL l b) ∧ Hid (playL x l b (ks.drop k) = V) ∧ Bx wr (w.heap.size + 1) 33 (lb b) ∧ Hid (Below w.heap.size w wr ∧ Bx wr (w.heap.size + 1 + 1) 33 (lb lz) ∧ Bx wr N1 63 (rl x A n c))) (fun i _ => n2 - (intOf i).toNat)
  case atStart => exact ⟨0, a, Nat.zero_le _, rfl, HR, Lib.hid (by rw [List.drop_zero]; exact HV.out), XL2, Lib.hid ⟨HB2.out, XP2, XR2⟩⟩
  case round =>
    obtain ⟨k, b, hk, rfl, HRb, HVb, XLb, HW⟩ := hrel
    obtain ⟨bel, XPr, XRr⟩ := HW.out
    have lt1 := XPr.lt
    have HKr := Lib.hid (HK.out.below bel)
    have rn := HR2.out.below bel
    by_cases hlt : k < n2
    · have gk : (k : Int) < (n2 : Int) := by omega
      obtain ⟨b2, o2, d, rfl, hb2, c2', hd⟩ := rn.at_ (k := k) (by rw [HN2.out]; exact hlt)
      have HD := Lib.hid (show ks.drop k = d :: ks.drop (k + 1) from drop_at hd.out)
      have CS := fun W (h : RdK W A l) => HX.out b d W HRb.out h
      clear rn
      by_cases g : goes x l b d
      · rw [stepV25_yes g] at CS
        have HGb := Lib.hid (HG.out b d HRb.out g)
        have HVn : Hid (playL x l (nextB x l b d) (ks.drop (k + 1)) = V) := Lib.hid (by have := HVb.out; rw [HD.out, playL_yes g] at this; exact this)
        generalize nextB x l b d = nb at CS HGb HVn
        clear g
        go_wp2_with (first
          | go_skip
          | refine wpList_load_box (by rfl) 63 _ rfl (N1) rfl 63 (rl x A n c) _ XRr Try.underlying63 rfl (by kernel_rfl) ?_
          | refine wpList_load_box (by rfl) 33 _ rfl (w.heap.size + 1) rfl 33 (lb b) _ XLb Try.underlying33 rfl (by kernel_rfl) ?_
          | (go_at_call 19; (with_reducible refine (CS _ HKr.out).mono ?_); rintro e w3 ⟨rfl, hb3⟩; have XL3 := XLb.below hb3; have XP3 := XPr.below hb3; have XR3 := XRr.below hb3; have bel3 := Lib.hid (b_cl bel (Nat.le_refl _) hb3); have sz3 := hb3.size; clear hb3)
          | (refine wpList_store_box rfl 33 _ _ rfl w3.heap.size (lb nb) rfl rfl 33 (lb lz) (Bx.new (W := w3) 33 (lb lz) rfl) (by kernel_rfl) rfl (lb_one _) (fun w4 u4 => ?_); have XT4 := u4.box; have b4 := ((b_al (Below.refl w3.heap.size w3) (Nat.le_refl _) _).trans (u4.bel _ (Nat.le_refl _))); have XL4 := XL3.below b4; have XP4 := XP3.below b4; have XR4 := XR3.below b4; have bel4 := Lib.hid (b_cl bel3.out (Nat.le_refl _) b4); clear b4)
          | refine wpList_load_box (by rfl) 33 _ rfl (w3.heap.size) rfl 33 (lb nb) _ XT4 Try.underlying33 rfl (by kernel_rfl) ?_
          | (refine wpList_store_box rfl 33 _ _ rfl (w.heap.size + 1) (lb nb) rfl rfl 33 (lb b) XL4 (by kernel_rfl) rfl (lb_one _) (fun w5 u5 => ?_); have XL5 := u5.box; have XP5 := u5.bx XP4 (by omega); have XR5 := u5.bx XR4 (by omega)))
        go_roundw
        case rel => exact ⟨k + 1, nb, by omega, by go_num, HGb, HVn, XL5, Lib.hid ⟨bel4.out.trans (u5.bel _ (by omega)), XP5, XR5⟩⟩
        case measure => simp [intOf]; omega
      · rw [stepV25_no g] at CS
        have HVn : Hid ((lz, false) = V) := Lib.hid (by have := HVb.out; rw [HD.out, playL_no g] at this; exact this)
        obtain ⟨v1, v2⟩ := V
        clear g
        go_wp2_with (first
          | go_skip
          | refine wpList_load_box (by rfl) 63 _ rfl (N1) rfl 63 (rl x A n c) _ XRr Try.underlying63 rfl (by kernel_rfl) ?_
          | refine wpList_load_box (by rfl) 33 _ rfl (w.heap.size + 1) rfl 33 (lb b) _ XLb Try.underlying33 rfl (by kernel_rfl) ?_
          | (go_at_call 19; (with_reducible refine (CS _ HKr.out).mono ?_); rintro e w3 ⟨rfl, hb3⟩; have XP3 := XPr.below hb3; have bel3 := Lib.hid (b_cl bel (Nat.le_refl _) hb3); have sz3 := hb3.size; clear hb3)
          | (refine wpList_store_box rfl 33 _ _ rfl w3.heap.size (lb lz) rfl rfl 33 (lb lz) (Bx.new (W := w3) 33 (lb lz) rfl) (by kernel_rfl) rfl (lb_one _) (fun w4 u4 => ?_); have XT4 := u4.box; have b4 := ((b_al (Below.refl w3.heap.size w3) (Nat.le_refl _) _).trans (u4.bel _ (Nat.le_refl _))); have XP4 := XP3.below b4; have bel4 := Lib.hid (b_cl bel3.out (Nat.le_refl _) b4); clear b4)
          | refine wpList_build_as rfl 33 _ rfl (lb lz) (by kernel_rfl) ?_
          | (refine wpList_store_box rfl 33 _ _ rfl (w.heap.size + 1 + 1) (lb lz) rfl rfl 33 (lb lz) (XP4) (by kernel_rfl) rfl (lb_one _) (fun w9 u9 => ?_); have XP9 := u9.box; have HB9 := Lib.hid (bel4.out.trans (u9.bel _ (by omega)))))
        refine bodyPost_ret (v := .tuple #[.agg (lb lz), .bool false, .int .i64 0]) (results_box3 Try.results12 _ _ (w.heap.size + 1 + 1) 33 (lb lz) _ _ _ rfl XP9 rfl rfl Try.underlying33 rfl (by kernel_rfl)) rfl ⟨?_, HB9.out⟩
        have e := HVn.out
        injection e with e1 e2
        rw [← e1, ← e2]
    · have gk : ¬ (k : Int) < (n2 : Int) := by omega
      have HVn : Hid ((b, true) = V) := Lib.hid (by have := HVb.out; rw [List.drop_of_length_le (by rw [HN2.out]; omega)] at this; exact this)
      obtain ⟨v1, v2⟩ := V
      have bel4 := Lib.hid bel
      clear rn
      go_wp2_with (first
        | go_skip
        | refine wpList_load_box (by rfl) 33 _ rfl (w.heap.size + 1) rfl 33 (lb b) _ XLb Try.underlying33 rfl (by kernel_rfl) ?_
        | (refine wpList_store_box rfl 33 _ _ rfl (w.heap.size + 1 + 1) (lb b) rfl rfl 33 (lb lz) (XPr) (by kernel_rfl) rfl (lb_one _) (fun w9 u9 => ?_); have XP9 := u9.box; have HB9 := Lib.hid (bel4.out.trans (u9.bel _ (by omega)))))
      refine bodyPost_ret (v := .tuple #[.agg (lb b), .bool true, .int .i64 0]) (results_box3 Try.results12 _ _ (w.heap.size + 1 + 1) 33 (lb b) _ _ _ rfl XP9 rfl rfl Try.underlying33 rfl (by kernel_rfl)) rfl ⟨?_, HB9.out⟩
      have e := HVn.out
      injection e with e1 e2
      rw [← e1, ← e2]

end Go.Proofs.Ytolbihfnogbjaaa

/- What tryAll and Ways of layer 25 return: the kinds of which a minute may follow, and the labels behind them. Conditions: the tasks can be read. -/
namespace Go.Proofs.Ytolbihfnogbjaaa
open Go.RowKit

set_option linter.unusedVariables false

theorem info_nx : (Try.prog.info? 44).map (fun i => (i.zero, i.size, i.bytes)) = some (some (.agg (nx (0, lz))), 18, 144) := by kernel_rfl
theorem fill_nx (p : Int × Lb) : Instr.fill (fun i => some (i * nxW.n, nxW.n)) ((Array.range (1 * nxW.n)).map ((Value.agg (nx (0, lz))).cells[· % (Value.agg (nx (0, lz))).cells.size]!)) [(0, .agg (nxW.enc p).toArray)] = some (nxW.enc p).toArray := by kernel_rfl
theorem kinds_at : ∀ j : Nat, j < 4 → ∃ k, kinds4[j]? = some k ∧ (0 ≤ k ∧ k ≤ 3) ∧ ∀ W : World, (Instr.index 79 (.agg #[.int .i64 3, .int .i64 2, .int .i64 0, .int .i64 1]) (.int .i64 (j : Nat))).run Try.prog W = .ok (.int .i64 k) W := by
  intro j hj
  have : j = 0 ∨ j = 1 ∨ j = 2 ∨ j = 3 := by omega
  rcases this with rfl | rfl | rfl | rfl
  · exact ⟨3, rfl, by decide, fun W => by kernel_rfl⟩
  · exact ⟨2, rfl, by decide, fun W => by kernel_rfl⟩
  · exact ⟨0, rfl, by decide, fun W => by kernel_rfl⟩
  · exact ⟨1, rfl, by decide, fun W => by kernel_rfl⟩

set_option maxRecDepth 100000 in
set_option maxHeartbeats 4000000 in
theorem tryAll25_any (x : Nat → Int) (A : Option Addr) (n c : Nat) (l : List Tk) (hn : l.length = n) (hx : May x) (a : Lb) (w : World) (h : RdK w A l) (few : Few l) (hcn : n ≤ c) (ck : checkT l = 0) (hr : RightL l a) :
    Calls Try.prog 18 #[.agg (lb a), (.func (.func 19) #[.agg (rl x A n c)] #[])] w fun e w' => ∃ v, e = .returned v ∧ OwnG nxW w.heap.size w' v (waysL x l a) ∧ Below w.heap.size w w' := by
  have XL : Bx (w.alloc (.cells (lb a) 33)) (w.heap.size) 33 (lb a) := (Bx.new (W := w) _ _ (by simp))
  have B0 : Below w.heap.size w (w.alloc (.cells (lb a) 33)) := b_al (Below.refl _ _) (Nat.le_refl _) _
  have HK := Lib.hid (h.below B0)
  have HX := Lib.hid (show ∀ k W, RdK W A l → Calls Try.prog 19 #[.agg (rl x A n c), .agg (lb a), .int .i64 k] W fun e w' => e = .returned (.tuple #[.agg (lb (stepV25 x l a k).1), .bool (stepV25 x l a k).2]) ∧ Below W.heap.size W w' from fun k W h => step25_any x A n c l hn hx a k W h few hcn ck hr)
  clear h few hcn ck hr hx hn
  have eg : ∀ args w, (callFunc 19 args).run Try.prog w = .ok (.enter 19 args) w := enters_of Try.func19 (by kernel_rfl) rfl
  go_enter Try.func18, Try.ntmps18
  go_wp2
  generalize (w.alloc (.cells (lb a) 33)) = w0 at *
  go_loopw [5, 11] (fun v i wr => ∃ j : Nat, j ≤ 4 ∧ i = .int .i64 j ∧ Hid (OwnG nxW w0.heap.size wr v (waysTo x l a j)) ∧ Hid (Below w0.heap.size w0 wr)) (fun _ i _ => 4 - (intOf i).toNat)
  case atStart => exact ⟨0, Nat.zero_le _, rfl, Lib.hid (OwnG.nil _ _ _), Lib.hid (Below.refl _ _)⟩
  case round =>
    obtain ⟨j, hj, rfl, HO, HB⟩ := hrel
    by_cases hlt : j < 4
    · have gj : (j : Int) < 4 := by omega
      obtain ⟨k, hk, hk4, hix⟩ := kinds_at j hlt
      have CS := fun W (h : RdK W A l) => HX.out k W h
      have XL1 := XL.below HB.out
      have hle : (waysTo x l a j).length + 1 ≤ 100000000000 := by have := waysTo_len x l a j; omega
      by_cases g : goes x l a k
      · rw [stepV25_yes g] at CS
        have HT := Lib.hid (waysTo_yes hk g)
        generalize nextB x l a k = nb at CS HT
        clear hk g hlt
        go_wp2_with (first
          | go_skip
          | refine wpList_load_box (by rfl) 33 _ rfl (w.heap.size) rfl 33 (lb a) _ XL1 Try.underlying33 rfl (by kernel_rfl) ?_
          | (go_at_fn 19; (with_reducible refine (CS _ (HK.out.below HB.out)).mono ?_); rintro e w1 ⟨rfl, hb1⟩; have HB1 := Lib.hid (b_cl HB.out (Nat.le_refl _) hb1); have HO1 := Lib.hid (HO.out.below hb1))
          | (refine wpList_store_box rfl 33 _ _ rfl w1.heap.size (lb (nb)) rfl rfl 33 (lb lz) (Bx.new (W := w1) 33 (lb lz) rfl) (by kernel_rfl) rfl (lb_one _) (fun w2 u2 => ?_); have XN2 := u2.box; have b2 := ((b_al (Below.refl w1.heap.size w1) (Nat.le_refl _) _).trans (u2.bel _ (Nat.le_refl _))); have HB2 := Lib.hid (b_cl HB1.out (Nat.le_refl _) b2); have HO2 := Lib.hid (HO1.out.below b2); clear b2)
          | refine wpList_load_box (by rfl) 33 _ rfl (w1.heap.size) rfl 33 (lb nb) _ XN2 Try.underlying33 rfl (by kernel_rfl) ?_
          | refine wpList_build_as rfl 44 _ rfl (nx (k, nb)) (by kernel_rfl) ?_
          | (refine wpList_one (k := nxW) (by rfl) 34 Try.underlying34 info_nx (by decide) (k, nb) (fill_nx (k, nb)) _ rfl rfl ?_; have XN : Bx (w2.alloc (.cells (nxW.enc (k, nb)).toArray nxW.T)) w2.heap.size nxW.T (nxW.enc (k, nb)).toArray := Bx.new _ _ rfl)
          | (at_builtin; refine wpList_appG (k := nxW) rfl 34 Try.underlying34 info_nx rfl (by decide) _ _ rfl w0.heap.size _ (waysTo x l a j) rfl (OwnG.alloc HO2.out _) (some ⟨w2.heap.size, 0, none⟩) 1 1 [(k, nb)] rfl rfl (RdG.one XN) (fun e => by cases e) (fun e => by cases e) hle (by have := HB2.out.size; simp; omega) ?_; intro v7 w7 o7 g7 _ _; have O7 := Lib.hid o7; have B7 : Hid (Below w0.heap.size w0 w7) := Lib.hid ((b_al HB2.out (Nat.le_refl _) _).grown g7 (by have := HB2.out.size; simp; omega) (fun q e => (HO2.out.lt e).1)); clear o7 g7))
        go_roundw
        case rel => exact ⟨j + 1, by omega, by go_num, Lib.hid (by rw [HT.out]; exact O7.out), B7⟩
        case measure => simp [intOf]; omega
      · rw [stepV25_no g] at CS
        have HT := Lib.hid (waysTo_no hk g)
        clear hk g hlt
        go_wp2_with (first
          | go_skip
          | refine wpList_load_box (by rfl) 33 _ rfl (w.heap.size) rfl 33 (lb a) _ XL1 Try.underlying33 rfl (by kernel_rfl) ?_
          | (go_at_fn 19; (with_reducible refine (CS _ (HK.out.below HB.out)).mono ?_); rintro e w1 ⟨rfl, hb1⟩; have HB1 := Lib.hid (b_cl HB.out (Nat.le_refl _) hb1); have HO1 := Lib.hid (HO.out.below hb1))
          | (refine wpList_store_box rfl 33 _ _ rfl w1.heap.size (lb (lz)) rfl rfl 33 (lb lz) (Bx.new (W := w1) 33 (lb lz) rfl) (by kernel_rfl) rfl (lb_one _) (fun w2 u2 => ?_); have XN2 := u2.box; have b2 := ((b_al (Below.refl w1.heap.size w1) (Nat.le_refl _) _).trans (u2.bel _ (Nat.le_refl _))); have HB2 := Lib.hid (b_cl HB1.out (Nat.le_refl _) b2); have HO2 := Lib.hid (HO1.out.below b2); clear b2))
        go_roundw
        case rel => exact ⟨j + 1, by omega, by go_num, Lib.hid (by rw [HT.out]; exact HO2.out), HB2⟩
        case measure => simp [intOf]; omega
    · obtain rfl : j = 4 := by omega
      go_wp2
      go_ret
      exact ⟨_, rfl, HO.out.more B0.size, b_cl B0 (Nat.le_refl _) HB.out⟩

set_option maxRecDepth 100000 in
set_option maxHeartbeats 4000000 in
theorem ways25_ok (x : Nat → Int) (A : Option Addr) (n c : Nat) (l : List Tk) (hn : l.length = n) (a : Lb) (w : World) (h : RdK w A l) (few : Few l) (hcn : n ≤ c) (hz : A = none → c = 0) (hy : -9223372036854775808 ≤ a.2.2.1 ∧ a.2.2.1 ≤ 9223372036854775807) (hs : -9223372036854775808 ≤ a.2.2.2 ∧ a.2.2.2 ≤ 9223372036854775807) (hc : chk25 x l a = 0) :
    Calls Try.prog 8 #[.agg (bk x), .slice A n c, .agg (lb a)] w fun e w' => ∃ v, e = .returned (.tuple #[v, .int .i64 0]) ∧ OwnG nxW w.heap.size w' v (waysL x l a) ∧ Below w.heap.size w w' := by
  have XB : Bx ((w.alloc (.cells (bk x) 23)).alloc (.cells (lb a) 33)) (w.heap.size) 23 (bk x) := (Bx.new (W := w) _ _ (by simp)).alloc _
  have XL : Bx ((w.alloc (.cells (bk x) 23)).alloc (.cells (lb a) 33)) (w.heap.size + 1) 33 (lb a) := (Bx.new (W := (w.alloc (.cells (bk x) 23))) _ _ (by simp))
  have B0 : Below w.heap.size w ((w.alloc (.cells (bk x) 23)).alloc (.cells (lb a) 33)) := b_al (b_al (Below.refl _ _) (Nat.le_refl _) _) (Nat.le_refl _) _
  have HK := Lib.hid (h.below B0)
  have CC := fun W (h : RdK W A l) => check25_any x A n c l hn a W h few hcn hz hy hs
  rw [hc] at CC
  obtain ⟨hx, ck, hr⟩ := chk25_zero hc
  have CT := fun W (h : RdK W A l) => tryAll25_any x A n c l hn hx a W h few hcn ck hr
  clear h few hcn hz hy hs hc hx ck hr hn
  go_enter Try.func8, Try.ntmps8
  go_wp2_with (first
    | go_skip
    | refine wpList_load_box (by rfl) 23 _ rfl (w.heap.size) rfl 23 (bk x) _ XB Try.underlying23 rfl (by kernel_rfl) ?_
    | refine wpList_load_box (by rfl) 33 _ rfl (w.heap.size + 1) rfl 33 (lb a) _ XL Try.underlying33 rfl (by kernel_rfl) ?_
    | (go_at_call 10; (with_reducible refine (CC _ HK.out).mono ?_); rintro e w1 ⟨rfl, hb1⟩; have HB1 := Lib.hid (b_cl B0 (Nat.le_refl _) hb1); have XB1 := XB.below hb1; have XL1 := XL.below hb1; have HK1 := Lib.hid (HK.out.below hb1); clear hb1)
    | refine wpList_load_box (by rfl) 23 _ rfl (w.heap.size) rfl 23 (bk x) _ XB1 Try.underlying23 rfl (by kernel_rfl) ?_
    | refine wpList_load_box (by rfl) 33 _ rfl (w.heap.size + 1) rfl 33 (lb a) _ XL1 Try.underlying33 rfl (by kernel_rfl) ?_
    | refine wpList_build_as rfl 63 _ rfl (rl x A n c) (by kernel_rfl) ?_
    | (go_at_call 18; (with_reducible refine (CT _ HK1.out).mono ?_); rintro e w2 ⟨v, rfl, ho2, hb2⟩; have HO2 := Lib.hid (ho2.more HB1.out.size); have HB2 := Lib.hid (b_cl HB1.out (Nat.le_refl _) hb2); clear ho2 hb2))
  go_ret2
  exact ⟨_, rfl, HO2.out, HB2.out⟩

set_option maxRecDepth 100000 in
set_option maxHeartbeats 4000000 in
theorem ways25_bad (x : Nat → Int) (A : Option Addr) (n c : Nat) (l : List Tk) (hn : l.length = n) (a : Lb) (w : World) (h : RdK w A l) (few : Few l) (hcn : n ≤ c) (hz : A = none → c = 0) (hy : -9223372036854775808 ≤ a.2.2.1 ∧ a.2.2.1 ≤ 9223372036854775807) (hs : -9223372036854775808 ≤ a.2.2.2 ∧ a.2.2.2 ≤ 9223372036854775807) (e0 : Int) (hc : chk25 x l a = e0) (h0 : e0 ≠ 0) :
    Calls Try.prog 8 #[.agg (bk x), .slice A n c, .agg (lb a)] w fun e w' => e = .returned (.tuple #[.slice none 0 0, .int .i64 e0]) ∧ Below w.heap.size w w' := by
  have XB : Bx ((w.alloc (.cells (bk x) 23)).alloc (.cells (lb a) 33)) (w.heap.size) 23 (bk x) := (Bx.new (W := w) _ _ (by simp)).alloc _
  have XL : Bx ((w.alloc (.cells (bk x) 23)).alloc (.cells (lb a) 33)) (w.heap.size + 1) 33 (lb a) := (Bx.new (W := (w.alloc (.cells (bk x) 23))) _ _ (by simp))
  have B0 : Below w.heap.size w ((w.alloc (.cells (bk x) 23)).alloc (.cells (lb a) 33)) := b_al (b_al (Below.refl _ _) (Nat.le_refl _) _) (Nat.le_refl _) _
  have HK := Lib.hid (h.below B0)
  have CC := fun W (h : RdK W A l) => check25_any x A n c l hn a W h few hcn hz hy hs
  rw [hc] at CC
  have hne : (e0 != 0) = true := by simp [h0]
  clear h few hcn hz hy hs hc h0 hn
  go_enter Try.func8, Try.ntmps8
  go_wp2_with (first
    | go_skip
    | refine wpList_load_box (by rfl) 23 _ rfl (w.heap.size) rfl 23 (bk x) _ XB Try.underlying23 rfl (by kernel_rfl) ?_
    | refine wpList_load_box (by rfl) 33 _ rfl (w.heap.size + 1) rfl 33 (lb a) _ XL Try.underlying33 rfl (by kernel_rfl) ?_
    | (go_at_call 10; (with_reducible refine (CC _ HK.out).mono ?_); rintro e w1 ⟨rfl, hb1⟩; have HB1 := Lib.hid (b_cl B0 (Nat.le_refl _) hb1)))
  go_ret2
  exact ⟨rfl, HB1.out⟩

end Go.Proofs.Ytolbihfnogbjaaa

/- The statements' own example of layer 25: behind 270 minutes of driving, with driving left, rest and waiting may follow. Conditions: none. -/
namespace Go.Proofs.Ytolbihfnogbjaaa
open Go.RowKit

set_option linter.unusedVariables false

/-- The example: 270 minutes of driving behind, 130 ahead. -/
def exM25 : Mt := ⟨270, 270, false, 0, 0, 270, 0, false, 0, 0, false, 270, 0, 270⟩
def exA25 : Lb := (exM25, (0, 270, 0))
def exK25 : List Tk := [(400, 0, [])]
theorem ex25_few : Few exK25 := by intro t ht; simp [exK25] at ht; subst ht; simp
theorem ex25_check : checkT exK25 = 0 := by decide +kernel
theorem ex25_right : RightL exK25 exA25 := ⟨by unfold MayM; decide, by decide⟩
theorem ex25_chk : chk25 euV exK25 exA25 = 0 := by rw [chk25_may may_eu, bnd_yes ex25_check ex25_right]
theorem ex25_kinds : (waysL euV exK25 exA25).map Prod.fst = [0, 1] := by decide +kernel
theorem two_ways (l : List (Int × Lb)) (h : l.map Prod.fst = [0, 1]) : ∃ p q, l = [(0, p), (1, q)] := by
  cases l with
  | nil => simp at h
  | cons x l => cases l with
    | nil => simp at h
    | cons y l => cases l with
      | cons z l => simp at h
      | nil =>
        obtain ⟨a, p⟩ := x
        obtain ⟨b, q⟩ := y
        simp only [List.map_cons, List.map_nil, List.cons.injEq, and_true] at h
        obtain ⟨h1, h2⟩ := h
        exact ⟨p, q, by rw [← h1, ← h2]⟩
theorem ex25_ways : ∃ p q, waysL euV exK25 exA25 = [(0, p), (1, q)] := two_ways _ ex25_kinds

/-- Tasks of which each has no windows, as elements. -/
def tkW : Wd (Int × Int) where
  T := 59
  n := 3
  enc p := [.int .i64 p.1, .int .i64 p.2, .slice none 0 0]
  len _ := rfl
  one p v hv := by
    simp at hv
    rcases hv with rfl | rfl | rfl <;> rfl
  pos := by decide
theorem info_tk : (Try.prog.info? 59).map (fun i => (i.zero, i.size, i.bytes)) = some (some (.agg (tkW.enc (0, 0)).toArray), 3, 40) := by kernel_rfl
theorem fill_tk (p : Int × Int) : Instr.fill (fun i => some (i * tkW.n, tkW.n)) ((Array.range (1 * tkW.n)).map ((Value.agg (tkW.enc (0, 0)).toArray).cells[· % (Value.agg (tkW.enc (0, 0)).toArray).cells.size]!)) [(0, .agg (tkW.enc p).toArray)] = some (tkW.enc p).toArray := by kernel_rfl
theorem ex25_read {W : World} {g : Nat} {t : TypeId} (h : Bx W g t (tkW.enc (400, 0)).toArray) : RdK W (some ⟨g, 0, none⟩) exK25 := fun _ => ⟨g, 0, rfl, h.lt, fun k hk => by
  have hk : k < 1 := hk
  obtain rfl : k = 0 := by omega
  exact ⟨none, 0, h.cell rfl, h.cell rfl, h.cell rfl, fun e => absurd rfl e⟩⟩

set_option maxRecDepth 100000 in
set_option maxHeartbeats 4000000 in
theorem alive25_any (w : World) : Calls Try.prog 7 #[] w fun e w' => e = .returned (.bool true) ∧ Below w.heap.size w w' := by
  go_enter Try.func7, Try.ntmps7
  go_upto_region 2 with (first
    | go_skip
    | refine wpList_build_as rfl 26 _ rfl (mt exM25) (by kernel_rfl) ?_
    | refine wpList_build_as rfl 28 _ rfl (sp3 (0, 270, 0)) (by kernel_rfl) ?_
    | refine wpList_build_as rfl 33 _ rfl (lb exA25) (by kernel_rfl) ?_
    | (refine wpList_store_box rfl 33 _ _ rfl w.heap.size (lb exA25) rfl rfl 33 (lb lz) (Bx.new (W := w) 33 (lb lz) rfl) (by kernel_rfl) rfl (lb_one _) (fun wa ua => ?_); have xa := ua.box; have Ba : Below w.heap.size w wa := (b_al (Below.refl _ _) (Nat.le_refl _) _).trans (ua.bel _ (Nat.le_refl _))))
  (try go_frame)
  refine wp_region_noPanic ?_
  refine wp_region_held_drew (S := fun w' => Below wa.heap.size wa w') (by kernel_rfl) ?_ (fun hHeld => ?_)
  · exact b_dr (Below.refl _ _)
  refine wpAnyH_take (i := 1) (oi := ⟨some 9, _, _, _, _, _⟩) (v := .agg (tkW.enc (400, 0)).toArray) rfl (by kernel_rfl) (by kernel_rfl) (by kernel_rfl) (fun _ _ _ h => h) (Or.inl ⟨by rfl, fun w' hSw => exec_build (tkW.enc (400, 0)).toArray w' rfl (by kernel_rfl)⟩) (by assumption) ?_
  (try simp only [Act.put, List.setIfInBounds_toArray, List.set_cons_zero, List.set_cons_succ])
  refine wpAnyH_take (i := 3) (oi := ⟨some 11, _, _, _, _, _⟩) (v := .agg (lb exA25)) rfl (by kernel_rfl) (by kernel_rfl) (by kernel_rfl) (fun _ _ _ h => h) (Or.inl ⟨by rfl, fun w' hSw => exec_load_box w.heap.size 33 (lb exA25) _ w' rfl rfl (xa.keep hSw xa.lt) Try.underlying33 rfl (by kernel_rfl)⟩) (by assumption) ?_
  (try simp only [Act.put, List.setIfInBounds_toArray, List.set_cons_zero, List.set_cons_succ])
  refine wpAnyH_ready (rs := [0, 2]) (by kernel_rfl) (by simp) ?_
  refine AllReadyH.cons (o := ⟨some 8, _, _, _, _, _⟩) rfl (fun K hK => ?_) (AllReadyH.cons (o := ⟨some 10, _, _, _, _, _⟩) rfl (fun K hK => ?_) AllReadyH.nil)
  ·
    go_simp
    (go_at_call 14; (with_reducible refine (refeurope_any _).mono ?_); rintro e w1 ⟨rfl, hb1⟩)
    go_wp2_with fail
    refine hK.out _ _ (b_cl hHeld (Nat.le_refl _) hb1) (fun hHeld => ?_)
    clear hK K
    (try simp only [Act.put, List.setIfInBounds_toArray, List.set_cons_zero, List.set_cons_succ])
    refine wpAnyH_ready (rs := [2]) (by kernel_rfl) (by simp) ?_
    refine AllReadyH.cons (o := ⟨some 10, _, _, _, _, _⟩) rfl (fun K hK => ?_) AllReadyH.nil
    refine wp_one (k := tkW) 24 Try.underlying24 info_tk (by decide) (400, 0) (fill_tk (400, 0)) _ rfl rfl ?_
    have RK := ex25_read (Bx.new (W := w1) tkW.T (tkW.enc (400, 0)).toArray rfl)
    refine hK.out _ _ (b_al hHeld (Nat.le_refl _) _) (fun hHeld => ?_)
    clear hK K
    (try simp only [Act.put, List.setIfInBounds_toArray, List.set_cons_zero, List.set_cons_succ])
    refine wpAnyH_ready (rs := [4]) (by kernel_rfl) (by simp) ?_
    refine AllReadyH.cons (o := ⟨some 12, _, _, _, _, _⟩) rfl (fun K hK => ?_) AllReadyH.nil
    go_simp
    have CW := ways25_ok euV (some ⟨w1.heap.size, 0, none⟩) 1 1 exK25 rfl exA25 _ (RK) ex25_few (Nat.le_refl _) (fun e => by cases e) (by decide) (by decide) ex25_chk
    (go_at_call 8; refine CW.mono ?_; rintro e w4 ⟨v4, rfl, o4, hb4⟩)
    obtain ⟨p, q, hpq⟩ := ex25_ways
    rw [hpq] at o4
    go_wp2_with fail
    refine hK.out _ _ (b_cl hHeld (Nat.le_refl _) hb4) (fun hHeld => ?_)
    clear hK K
    (try simp only [Act.put, List.setIfInBounds_toArray, List.set_cons_zero, List.set_cons_succ])
    refine wpAnyH_take (i := 5) (oi := ⟨some 7, _, _, _, _, _⟩) (v := ?_) rfl (by kernel_rfl) (by kernel_rfl) (by kernel_rfl) (fun _ _ _ h => h) (Or.inl ⟨by rfl, ?_⟩) (by assumption) ?_
    rotate_left
    · (intro w' hSw; clear hSw; go_simp; try (with_reducible rfl))
    (try simp only [Act.put, List.setIfInBounds_toArray, List.set_cons_zero, List.set_cons_succ])
    refine wpAnyH_take (i := 6) (oi := ⟨some 13, _, _, _, _, _⟩) (v := ?_) rfl (by kernel_rfl) (by kernel_rfl) (by kernel_rfl) (fun _ _ _ h => h) (Or.inl ⟨by rfl, ?_⟩) (by assumption) ?_
    rotate_left
    · (intro w' hSw; clear hSw; go_simp; try (with_reducible rfl))
    (try simp only [Act.put, List.setIfInBounds_toArray, List.set_cons_zero, List.set_cons_succ])
    refine wpAnyH_take (i := 7) (oi := ⟨some 14, _, _, _, _, _⟩) (v := ?_) rfl (by kernel_rfl) (by kernel_rfl) (by kernel_rfl) (fun _ _ _ h => h) (Or.inl ⟨by rfl, ?_⟩) (by assumption) ?_
    rotate_left
    · (intro w' hSw; clear hSw; go_simp; try (with_reducible rfl))
    (try simp only [Act.put, List.setIfInBounds_toArray, List.set_cons_zero, List.set_cons_succ])
    refine wpAnyH_take (i := 8) (oi := ⟨some 2, _, _, _, _, _⟩) (v := ?_) rfl (by kernel_rfl) (by kernel_rfl) (by kernel_rfl) (fun _ _ _ h => h) (Or.inl ⟨by rfl, ?_⟩) (by assumption) ?_
    rotate_left
    · (intro w' hSw; clear hSw; go_simp; try (with_reducible rfl))
    (try simp only [Act.put, List.setIfInBounds_toArray, List.set_cons_zero, List.set_cons_succ])
    refine wpAnyH_take (i := 9) (oi := ⟨some 3, _, _, _, _, _⟩) (v := ?_) rfl (by kernel_rfl) (by kernel_rfl) (by kernel_rfl) (fun _ _ _ h => h) (Or.inl ⟨by rfl, ?_⟩) (by assumption) ?_
    rotate_left
    · (intro w' hSw; clear hSw; go_simp; try (with_reducible rfl))
    (try simp only [Act.put, List.setIfInBounds_toArray, List.set_cons_zero, List.set_cons_succ])
    refine wpAnyH_done (by kernel_rfl) ?_ _
    refine NoPanic.normal ?_
    obtain ⟨b4, c4, hv4⟩ : ∃ b4 c4, v4 = .slice (some ⟨b4, 0, none⟩) 2 c4 := by
      rcases o4.form with ⟨h1, _⟩ | ⟨b4, c4, h1⟩
      · cases h1
      · exact ⟨b4, c4, h1⟩
    subst hv4
    have k0 : w4.cell? ⟨b4, 0, none⟩ = some (.int .i64 0) := nx_kind (o4.range (j := 0) rfl)
    have k1 : w4.cell? ⟨b4, 18, none⟩ = some (.int .i64 1) := nx_kind (o4.range (j := 1) rfl)
    go_wp2_with (first
      | go_skip)
    go_ret
    exact ⟨rfl, b_cl Ba (Nat.le_refl _) hHeld⟩
  ·
    refine wp_one (k := tkW) 24 Try.underlying24 info_tk (by decide) (400, 0) (fill_tk (400, 0)) _ rfl rfl ?_
    have RK := ex25_read (Bx.new (W := wa.drew) tkW.T (tkW.enc (400, 0)).toArray rfl)
    refine hK.out _ _ (b_al hHeld (Nat.le_refl _) _) (fun hHeld => ?_)
    clear hK K
    (try simp only [Act.put, List.setIfInBounds_toArray, List.set_cons_zero, List.set_cons_succ])
    refine wpAnyH_ready (rs := [0]) (by kernel_rfl) (by simp) ?_
    refine AllReadyH.cons (o := ⟨some 8, _, _, _, _, _⟩) rfl (fun K hK => ?_) AllReadyH.nil
    go_simp
    (go_at_call 14; (with_reducible refine (refeurope_any _).mono ?_); rintro e w1 ⟨rfl, hb1⟩)
    have RK1 := RK.below hb1
    go_wp2_with fail
    refine hK.out _ _ (b_cl hHeld (Nat.le_refl _) hb1) (fun hHeld => ?_)
    clear hK K
    (try simp only [Act.put, List.setIfInBounds_toArray, List.set_cons_zero, List.set_cons_succ])
    refine wpAnyH_ready (rs := [4]) (by kernel_rfl) (by simp) ?_
    refine AllReadyH.cons (o := ⟨some 12, _, _, _, _, _⟩) rfl (fun K hK => ?_) AllReadyH.nil
    go_simp
    have CW := ways25_ok euV (some ⟨wa.heap.size, 0, none⟩) 1 1 exK25 rfl exA25 _ (RK1) ex25_few (Nat.le_refl _) (fun e => by cases e) (by decide) (by decide) ex25_chk
    (go_at_call 8; refine CW.mono ?_; rintro e w4 ⟨v4, rfl, o4, hb4⟩)
    obtain ⟨p, q, hpq⟩ := ex25_ways
    rw [hpq] at o4
    go_wp2_with fail
    refine hK.out _ _ (b_cl hHeld (Nat.le_refl _) hb4) (fun hHeld => ?_)
    clear hK K
    (try simp only [Act.put, List.setIfInBounds_toArray, List.set_cons_zero, List.set_cons_succ])
    refine wpAnyH_take (i := 5) (oi := ⟨some 7, _, _, _, _, _⟩) (v := ?_) rfl (by kernel_rfl) (by kernel_rfl) (by kernel_rfl) (fun _ _ _ h => h) (Or.inl ⟨by rfl, ?_⟩) (by assumption) ?_
    rotate_left
    · (intro w' hSw; clear hSw; go_simp; try (with_reducible rfl))
    (try simp only [Act.put, List.setIfInBounds_toArray, List.set_cons_zero, List.set_cons_succ])
    refine wpAnyH_take (i := 6) (oi := ⟨some 13, _, _, _, _, _⟩) (v := ?_) rfl (by kernel_rfl) (by kernel_rfl) (by kernel_rfl) (fun _ _ _ h => h) (Or.inl ⟨by rfl, ?_⟩) (by assumption) ?_
    rotate_left
    · (intro w' hSw; clear hSw; go_simp; try (with_reducible rfl))
    (try simp only [Act.put, List.setIfInBounds_toArray, List.set_cons_zero, List.set_cons_succ])
    refine wpAnyH_take (i := 7) (oi := ⟨some 14, _, _, _, _, _⟩) (v := ?_) rfl (by kernel_rfl) (by kernel_rfl) (by kernel_rfl) (fun _ _ _ h => h) (Or.inl ⟨by rfl, ?_⟩) (by assumption) ?_
    rotate_left
    · (intro w' hSw; clear hSw; go_simp; try (with_reducible rfl))
    (try simp only [Act.put, List.setIfInBounds_toArray, List.set_cons_zero, List.set_cons_succ])
    refine wpAnyH_take (i := 8) (oi := ⟨some 2, _, _, _, _, _⟩) (v := ?_) rfl (by kernel_rfl) (by kernel_rfl) (by kernel_rfl) (fun _ _ _ h => h) (Or.inl ⟨by rfl, ?_⟩) (by assumption) ?_
    rotate_left
    · (intro w' hSw; clear hSw; go_simp; try (with_reducible rfl))
    (try simp only [Act.put, List.setIfInBounds_toArray, List.set_cons_zero, List.set_cons_succ])
    refine wpAnyH_take (i := 9) (oi := ⟨some 3, _, _, _, _, _⟩) (v := ?_) rfl (by kernel_rfl) (by kernel_rfl) (by kernel_rfl) (fun _ _ _ h => h) (Or.inl ⟨by rfl, ?_⟩) (by assumption) ?_
    rotate_left
    · (intro w' hSw; clear hSw; go_simp; try (with_reducible rfl))
    (try simp only [Act.put, List.setIfInBounds_toArray, List.set_cons_zero, List.set_cons_succ])
    refine wpAnyH_done (by kernel_rfl) ?_ _
    refine NoPanic.normal ?_
    obtain ⟨b4, c4, hv4⟩ : ∃ b4 c4, v4 = .slice (some ⟨b4, 0, none⟩) 2 c4 := by
      rcases o4.form with ⟨h1, _⟩ | ⟨b4, c4, h1⟩
      · cases h1
      · exact ⟨b4, c4, h1⟩
    subst hv4
    have k0 : w4.cell? ⟨b4, 0, none⟩ = some (.int .i64 0) := nx_kind (o4.range (j := 0) rfl)
    have k1 : w4.cell? ⟨b4, 18, none⟩ = some (.int .i64 1) := nx_kind (o4.range (j := 1) rfl)
    go_wp2_with (first
      | go_skip)
    go_ret
    exact ⟨rfl, b_cl Ba (Nat.le_refl _) hHeld⟩

end Go.Proofs.Ytolbihfnogbjaaa

/- The law LabelBounds where there is too much, or something may not be. Conditions: as the theorems say. -/
namespace Go.Proofs.Ytolbihfnogbjaaa
open Go.RowKit

set_option linter.unusedVariables false

open Classical in
set_option maxRecDepth 100000 in
set_option maxHeartbeats 8000000 in
theorem bounds_heavy (w : World) (x : Nat → Int) (A : Option Addr) (n c : Nat) (l : List Tk) (hn : l.length = n) (h : RdK w A l) (hcn : n ≤ c) (hz : A = none → c = 0) (a : Lb) (hi : In64 a) (A2 : Option Addr) (n2 c2 : Nat) (ks : List Int) (hn2 : ks.length = n2) (r2 : RdN w A2 ks) (hli : ¬ LightK l) :
    Calls Try.prog 5 #[.agg (bk x), .agg (sr A n c a), .slice A2 n2 c2] w fun e w' => e = .returned (.bool true) ∧ Below w.heap.size w w' := by
  have XB : Bx ((w.alloc (.cells (bk x) 23)).alloc (.cells (sr A n c a) 47)) (w.heap.size) 23 (bk x) := (Bx.new (W := w) _ _ (by simp)).alloc _
  have XS : Bx ((w.alloc (.cells (bk x) 23)).alloc (.cells (sr A n c a) 47)) (w.heap.size + 1) 47 (sr A n c a) := (Bx.new (W := (w.alloc (.cells (bk x) 23))) _ _ (by simp))
  have B0 : Below w.heap.size w ((w.alloc (.cells (bk x) 23)).alloc (.cells (sr A n c a) 47)) := b_al (b_al (Below.refl _ _) (Nat.le_refl _) _) (Nat.le_refl _) _
  have HB0 := Lib.hid B0
  have HK := Lib.hid h
  have HN := Lib.hid r2
  have t0 : ((w.alloc (.cells (bk x) 23)).alloc (.cells (sr A n c a) 47)).cell? ⟨w.heap.size + 1, 0, none⟩ = some (.slice A n c) := XS.srT
  have CL := fun W (h : RdK W A l) => light19_any A n c l hn W h
  rw [decide_eq_false hli] at CL
  clear h hn hcn hz hi hli r2 hn2
  go_enter Try.func5, Try.ntmps5
  go_wp2_with (first
    | go_skip
    | (go_at_call 6; (with_reducible refine (CL _ (HK.out.below HB0.out)).mono ?_); rintro e w1 ⟨rfl, hb1⟩; have HB1 := Lib.hid (b_cl HB0.out (Nat.le_refl _) hb1); have XB_1 := XB.below hb1; have XS_1 := XS.below hb1; have t1 : w1.cell? ⟨w.heap.size + 1, 0, none⟩ = some (.slice A n c) := XS_1.srT)
    | (go_at_call 7; (with_reducible refine (alive25_any _).mono ?_); rintro e w2 ⟨rfl, hb2⟩; have HB2 := Lib.hid (b_cl HB1.out (Nat.le_refl _) hb2); have XB_2 := XB_1.below hb2; have XS_2 := XS_1.below hb2))
  go_ret
  exact ⟨rfl, HB2.out⟩

open Classical in
set_option maxRecDepth 100000 in
set_option maxHeartbeats 8000000 in
theorem bounds_long (w : World) (x : Nat → Int) (A : Option Addr) (n c : Nat) (l : List Tk) (hn : l.length = n) (h : RdK w A l) (hcn : n ≤ c) (hz : A = none → c = 0) (a : Lb) (hi : In64 a) (A2 : Option Addr) (n2 c2 : Nat) (ks : List Int) (hn2 : ks.length = n2) (r2 : RdN w A2 ks) (hli : LightK l) (hlong : 300 < n2) :
    Calls Try.prog 5 #[.agg (bk x), .agg (sr A n c a), .slice A2 n2 c2] w fun e w' => e = .returned (.bool true) ∧ Below w.heap.size w w' := by
  have XB : Bx ((w.alloc (.cells (bk x) 23)).alloc (.cells (sr A n c a) 47)) (w.heap.size) 23 (bk x) := (Bx.new (W := w) _ _ (by simp)).alloc _
  have XS : Bx ((w.alloc (.cells (bk x) 23)).alloc (.cells (sr A n c a) 47)) (w.heap.size + 1) 47 (sr A n c a) := (Bx.new (W := (w.alloc (.cells (bk x) 23))) _ _ (by simp))
  have B0 : Below w.heap.size w ((w.alloc (.cells (bk x) 23)).alloc (.cells (sr A n c a) 47)) := b_al (b_al (Below.refl _ _) (Nat.le_refl _) _) (Nat.le_refl _) _
  have HB0 := Lib.hid B0
  have HK := Lib.hid h
  have HN := Lib.hid r2
  have t0 : ((w.alloc (.cells (bk x) 23)).alloc (.cells (sr A n c a) 47)).cell? ⟨w.heap.size + 1, 0, none⟩ = some (.slice A n c) := XS.srT
  have CL := fun W (h : RdK W A l) => light19_any A n c l hn W h
  rw [decide_eq_true hli] at CL
  have gl : (300 : Int) < (n2 : Int) := by omega
  clear h hn hcn hz hi hli r2 hn2 hlong
  go_enter Try.func5, Try.ntmps5
  go_wp2_with (first
    | go_skip
    | (go_at_call 6; (with_reducible refine (CL _ (HK.out.below HB0.out)).mono ?_); rintro e w1 ⟨rfl, hb1⟩; have HB1 := Lib.hid (b_cl HB0.out (Nat.le_refl _) hb1); have XB_1 := XB.below hb1; have XS_1 := XS.below hb1; have t1 : w1.cell? ⟨w.heap.size + 1, 0, none⟩ = some (.slice A n c) := XS_1.srT)
    | (go_at_call 7; (with_reducible refine (alive25_any _).mono ?_); rintro e w2 ⟨rfl, hb2⟩; have HB2 := Lib.hid (b_cl HB1.out (Nat.le_refl _) hb2); have XB_2 := XB_1.below hb2; have XS_2 := XS_1.below hb2))
  go_ret
  exact ⟨rfl, HB2.out⟩

open Classical in
set_option maxRecDepth 100000 in
set_option maxHeartbeats 8000000 in
theorem bounds_bad (w : World) (x : Nat → Int) (A : Option Addr) (n c : Nat) (l : List Tk) (hn : l.length = n) (h : RdK w A l) (hcn : n ≤ c) (hz : A = none → c = 0) (a : Lb) (hi : In64 a) (A2 : Option Addr) (n2 c2 : Nat) (ks : List Int) (hn2 : ks.length = n2) (r2 : RdN w A2 ks) (hli : LightK l) (hlong : n2 ≤ 300) (e0 : Int) (he : chk25 x l a = e0) (h0 : e0 ≠ 0) :
    Calls Try.prog 5 #[.agg (bk x), .agg (sr A n c a), .slice A2 n2 c2] w fun e w' => e = .returned (.bool true) ∧ Below w.heap.size w w' := by
  have XB : Bx ((w.alloc (.cells (bk x) 23)).alloc (.cells (sr A n c a) 47)) (w.heap.size) 23 (bk x) := (Bx.new (W := w) _ _ (by simp)).alloc _
  have XS : Bx ((w.alloc (.cells (bk x) 23)).alloc (.cells (sr A n c a) 47)) (w.heap.size + 1) 47 (sr A n c a) := (Bx.new (W := (w.alloc (.cells (bk x) 23))) _ _ (by simp))
  have B0 : Below w.heap.size w ((w.alloc (.cells (bk x) 23)).alloc (.cells (sr A n c a) 47)) := b_al (b_al (Below.refl _ _) (Nat.le_refl _) _) (Nat.le_refl _) _
  have HB0 := Lib.hid B0
  have HK := Lib.hid h
  have HN := Lib.hid r2
  have t0 : ((w.alloc (.cells (bk x) 23)).alloc (.cells (sr A n c a) 47)).cell? ⟨w.heap.size + 1, 0, none⟩ = some (.slice A n c) := XS.srT
  have CL := fun W (h : RdK W A l) => light19_any A n c l hn W h
  rw [decide_eq_true hli] at CL
  have few := hli.few
  have gl : ¬ (300 : Int) < (n2 : Int) := by omega
  have C1 := fun W (h : RdK W A l) => ways25_bad x A n c l hn a W h few hcn hz hi.1 hi.2 e0 he h0
  have g2 : (e0 != 0) = true := by simp [h0]
  clear h hn hcn hz hi hli few he h0 r2 hn2 hlong
  go_enter Try.func5, Try.ntmps5
  go_wp2_with (first
    | go_skip
    | (go_at_call 6; (with_reducible refine (CL _ (HK.out.below HB0.out)).mono ?_); rintro e w1 ⟨rfl, hb1⟩; have HB1 := Lib.hid (b_cl HB0.out (Nat.le_refl _) hb1); have XB_1 := XB.below hb1; have XS_1 := XS.below hb1; have t1 : w1.cell? ⟨w.heap.size + 1, 0, none⟩ = some (.slice A n c) := XS_1.srT)
    | refine wpList_loadG (by rfl) 30 _ rfl (w.heap.size + 1) (1) rfl (lb a) _ XS_1.srL Try.underlying30 rfl (by kernel_rfl) ?_
    | (refine wpList_store_box rfl 33 _ _ rfl w1.heap.size (lb a) rfl rfl 33 (lb lz) (Bx.new (W := w1) 33 (lb lz) rfl) (by kernel_rfl) rfl (lb_one _) (fun w2 u2 => ?_); have hn2 := u2.box; have b2 := ((b_al (Below.refl w1.heap.size w1) (Nat.le_refl _) _).trans (u2.bel _ (Nat.le_refl _))); have HB2 := Lib.hid (b_cl HB1.out (Nat.le_refl _) b2); have XB_2 := XB_1.below b2; have XS_2 := XS_1.below b2; have t2 : w2.cell? ⟨w.heap.size + 1, 0, none⟩ = some (.slice A n c) := XS_2.srT; clear b2)
    | refine wpList_load_box (by rfl) 23 _ rfl (w.heap.size) rfl 23 (bk x) _ XB_2 Try.underlying23 rfl (by kernel_rfl) ?_
    | refine wpList_load_box (by rfl) 33 _ rfl (w1.heap.size) rfl 33 (lb a) _ hn2 Try.underlying33 rfl (by kernel_rfl) ?_
    | (go_at_call 8; (with_reducible refine (C1 _ (HK.out.below HB2.out)).mono ?_); rintro e w3 ⟨rfl, hb3⟩; have HB3 := Lib.hid (b_cl HB2.out (Nat.le_refl _) hb3); have XB_3 := XB_2.below hb3; have XS_3 := XS_2.below hb3; have XO_3 := hn2.below hb3)
    | (go_at_call 7; (with_reducible refine (alive25_any _).mono ?_); rintro e w4 ⟨rfl, hb4⟩; have HB4 := Lib.hid (b_cl HB3.out (Nat.le_refl _) hb4); have XB_4 := XB_3.below hb4; have XS_4 := XS_3.below hb4; have XO_4 := XO_3.below hb4))
  go_ret
  exact ⟨rfl, HB4.out⟩

end Go.Proofs.Ytolbihfnogbjaaa

/- The law LabelWays where the tasks are too many, or something may not be. Conditions: as the theorems say. -/
namespace Go.Proofs.Ytolbihfnogbjaaa
open Go.RowKit

set_option linter.unusedVariables false

open Classical in
set_option maxRecDepth 100000 in
set_option maxHeartbeats 8000000 in
theorem ways_heavy (w : World) (x : Nat → Int) (A : Option Addr) (n c : Nat) (l : List Tk) (hn : l.length = n) (h : RdK w A l) (hcn : n ≤ c) (hz : A = none → c = 0) (a : Lb) (hi : In64 a) (hli : ¬ LightK l) :
    Calls Try.prog 3 #[.agg (bk x), .slice A n c, .agg (lb a)] w fun e w' => e = .returned (.bool true) ∧ Below w.heap.size w w' := by
  have XB : Bx ((w.alloc (.cells (bk x) 23)).alloc (.cells (lb a) 30)) (w.heap.size) 23 (bk x) := (Bx.new (W := w) _ _ (by simp)).alloc _
  have XL : Bx ((w.alloc (.cells (bk x) 23)).alloc (.cells (lb a) 30)) (w.heap.size + 1) 30 (lb a) := (Bx.new (W := (w.alloc (.cells (bk x) 23))) _ _ (by simp))
  have B0 : Below w.heap.size w ((w.alloc (.cells (bk x) 23)).alloc (.cells (lb a) 30)) := b_al (b_al (Below.refl _ _) (Nat.le_refl _) _) (Nat.le_refl _) _
  have HB0 := Lib.hid B0
  have HK := Lib.hid h
  have CL := fun W (h : RdK W A l) => light19_any A n c l hn W h
  rw [decide_eq_false hli] at CL
  clear h hn hcn hz hi hli
  go_enter Try.func3, Try.ntmps3
  go_wp2_with (first
    | go_skip
    | (go_at_call 6; (with_reducible refine (CL _ (HK.out.below HB0.out)).mono ?_); rintro e w1 ⟨rfl, hb1⟩; have HB1 := Lib.hid (b_cl HB0.out (Nat.le_refl _) hb1); have XB_1 := XB.below hb1; have XL_1 := XL.below hb1)
    | (go_at_call 7; (with_reducible refine (alive25_any _).mono ?_); rintro e w2 ⟨rfl, hb2⟩; have HB2 := Lib.hid (b_cl HB1.out (Nat.le_refl _) hb2); have XB_2 := XB_1.below hb2; have XL_2 := XL_1.below hb2))
  go_ret
  exact ⟨rfl, HB2.out⟩

open Classical in
set_option maxRecDepth 100000 in
set_option maxHeartbeats 8000000 in
theorem ways_bad (w : World) (x : Nat → Int) (A : Option Addr) (n c : Nat) (l : List Tk) (hn : l.length = n) (h : RdK w A l) (hcn : n ≤ c) (hz : A = none → c = 0) (a : Lb) (hi : In64 a) (hli : LightK l) (e0 : Int) (he : chk25 x l a = e0) (h0 : e0 ≠ 0) :
    Calls Try.prog 3 #[.agg (bk x), .slice A n c, .agg (lb a)] w fun e w' => e = .returned (.bool true) ∧ Below w.heap.size w w' := by
  have XB : Bx ((w.alloc (.cells (bk x) 23)).alloc (.cells (lb a) 30)) (w.heap.size) 23 (bk x) := (Bx.new (W := w) _ _ (by simp)).alloc _
  have XL : Bx ((w.alloc (.cells (bk x) 23)).alloc (.cells (lb a) 30)) (w.heap.size + 1) 30 (lb a) := (Bx.new (W := (w.alloc (.cells (bk x) 23))) _ _ (by simp))
  have B0 : Below w.heap.size w ((w.alloc (.cells (bk x) 23)).alloc (.cells (lb a) 30)) := b_al (b_al (Below.refl _ _) (Nat.le_refl _) _) (Nat.le_refl _) _
  have HB0 := Lib.hid B0
  have HK := Lib.hid h
  have CL := fun W (h : RdK W A l) => light19_any A n c l hn W h
  rw [decide_eq_true hli] at CL
  have few := hli.few
  have C1 := fun W (h : RdK W A l) => ways25_bad x A n c l hn a W h few hcn hz hi.1 hi.2 e0 he h0
  have C2 := fun W (h : RdK W A l) => refcheck25_any x A n c l hn a W h few
  have C3 := fun W (h : RdK W A l) => check25_any x A n c l hn a W h few hcn hz hi.1 hi.2
  rw [he] at C2 C3
  have g1 : (e0 != e0) = false := by simp
  have g2 : (e0 != 0) = true := by simp [h0]
  clear h hn hcn hz hi hli few he h0
  go_enter Try.func3, Try.ntmps3
  go_wp2_with (first
    | go_skip
    | (go_at_call 6; (with_reducible refine (CL _ (HK.out.below HB0.out)).mono ?_); rintro e w1 ⟨rfl, hb1⟩; have HB1 := Lib.hid (b_cl HB0.out (Nat.le_refl _) hb1); have XB_1 := XB.below hb1; have XL_1 := XL.below hb1)
    | refine wpList_load_box (by rfl) 30 _ rfl (w.heap.size + 1) rfl 30 (lb a) _ XL_1 Try.underlying30 rfl (by kernel_rfl) ?_
    | (refine wpList_store_box rfl 33 _ _ rfl w1.heap.size (lb a) rfl rfl 33 (lb lz) (Bx.new (W := w1) 33 (lb lz) rfl) (by kernel_rfl) rfl (lb_one _) (fun w2 u2 => ?_); have hn2 := u2.box; have b2 := ((b_al (Below.refl w1.heap.size w1) (Nat.le_refl _) _).trans (u2.bel _ (Nat.le_refl _))); have HB2 := Lib.hid (b_cl HB1.out (Nat.le_refl _) b2); have XB_2 := XB_1.below b2; have XL_2 := XL_1.below b2; clear b2)
    | refine wpList_load_box (by rfl) 23 _ rfl (w.heap.size) rfl 23 (bk x) _ XB_2 Try.underlying23 rfl (by kernel_rfl) ?_
    | refine wpList_load_box (by rfl) 33 _ rfl (w1.heap.size) rfl 33 (lb a) _ hn2 Try.underlying33 rfl (by kernel_rfl) ?_
    | (go_at_call 8; (with_reducible refine (C1 _ (HK.out.below HB2.out)).mono ?_); rintro e w3 ⟨rfl, hb3⟩; have HB3 := Lib.hid (b_cl HB2.out (Nat.le_refl _) hb3); have XB_3 := XB_2.below hb3; have XL_3 := XL_2.below hb3; have XO_3 := hn2.below hb3)
    | refine wpList_load_box (by rfl) 23 _ rfl (w.heap.size) rfl 23 (bk x) _ XB_3 Try.underlying23 rfl (by kernel_rfl) ?_
    | refine wpList_load_box (by rfl) 30 _ rfl (w.heap.size + 1) rfl 30 (lb a) _ XL_3 Try.underlying30 rfl (by kernel_rfl) ?_
    | (go_at_call 9; (with_reducible refine (C2 _ (HK.out.below HB3.out)).mono ?_); rintro e w4 ⟨rfl, hb4⟩; have HB4 := Lib.hid (b_cl HB3.out (Nat.le_refl _) hb4); have XB_4 := XB_3.below hb4; have XL_4 := XL_3.below hb4; have XO_4 := XO_3.below hb4)
    | refine wpList_load_box (by rfl) 23 _ rfl (w.heap.size) rfl 23 (bk x) _ XB_4 Try.underlying23 rfl (by kernel_rfl) ?_
    | refine wpList_load_box (by rfl) 33 _ rfl (w1.heap.size) rfl 33 (lb a) _ XO_4 Try.underlying33 rfl (by kernel_rfl) ?_
    | (go_at_call 10; (with_reducible refine (C3 _ (HK.out.below HB4.out)).mono ?_); rintro e w5 ⟨rfl, hb5⟩; have HB5 := Lib.hid (b_cl HB4.out (Nat.le_refl _) hb5); have XB_5 := XB_4.below hb5; have XL_5 := XL_4.below hb5; have XO_5 := XO_4.below hb5)
    | (go_at_call 7; (with_reducible refine (alive25_any _).mono ?_); rintro e w6 ⟨rfl, hb6⟩; have HB6 := Lib.hid (b_cl HB5.out (Nat.le_refl _) hb6); have XB_6 := XB_5.below hb6; have XL_6 := XL_5.below hb6; have XO_6 := XO_5.below hb6))
  go_ret
  exact ⟨rfl, HB6.out⟩

end Go.Proofs.Ytolbihfnogbjaaa
