/- The examples of layer 7 hold in every world. Conditions: none. The example of layer 14 holds in every world. Conditions: none. What the document's Far of layer 14 returns. Conditions: none. -/
import Derived.Test.YtndhagflfbblaaaRows
import Derived.Test.YtndhagflfbblaaaBase
import Derived.Test.YtndhagflfbblaaaBookRow
import Derived.Test.YtndhagflfbblaaaBookLeaf
import Derived.Test.YtndhagflfbblaaaBookNum
import Derived.Test.YtndhagflfbblaaaBookBel
import Derived.Test.YtndhagflfbblaaaBookOrd
import Derived.Test.YtndhagflfbblaaaBookLim
import Derived.Test.YtndhagflfbblaaaBookLaws
import Derived.Test.YtndhagflfbblaaaBox
import Derived.Test.YtndhagflfbblaaaSpellMath
import Derived.Test.YtndhagflfbblaaaMeterMath
import Derived.Test.YtndhagflfbblaaaStretchMath
import Derived.Test.YtndhagflfbblaaaStretchFarM
import Derived.Test.YtndhagflfbblaaaStretchChk
import Derived.Test.YtndhagflfbblaaaStretchOverC
import Derived.Test.YtndhagflfbblaaaStretchFarC
import Derived.Test.YtndhagflfbblaaaBookMayR
import Derived.Test.YtndhagflfbblaaaMeterSt
import Derived.Test.YtndhagflfbblaaaMeterChk
import Derived.Test.YtndhagflfbblaaaMeterMayR
import Derived.Test.YtndhagflfbblaaaMeterRStep
import Derived.Test.YtndhagflfbblaaaStretchOn
import Derived.Test.YtndhagflfbblaaaStretchSt
import Derived.Test.YtndhagflfbblaaaStretchOnC
import Derived.Test.YtndhagflfbblaaaStretchFirst
import Derived.Test.YtndhagflfbblaaaStretchLeast
import Derived.Test.YtndhagflfbblaaaStretchStR
import Derived.Test.YtndhagflfbblaaaStretchOverR
import Derived.WalkKit
import Derived.WalkSpells
import Derived.WalkSmall
import Derived.Below
import Derived.Lib.Hide
import Derived.Outline
import Derived.Great.BuildSlice
import Derived.BigQuiet
import Derived.Deep.QuietTactic
import Derived.OwnWalk
import Derived.Maps.RangeWalk
import Derived.Shelf.Abstract
import Derived.Deep.DeepCutAuto
import Derived.StillTailTactics
import Derived.OrdersHeld
namespace Go.Proofs.Ytndhagflfbblaaa
open Go.RowKit

theorem may_eu : May euV := by
  refine ⟨fun i hi => ?_, by unfold Ord; decide⟩
  have : i = 0 ∨ i = 1 ∨ i = 2 ∨ i = 3 ∨ i = 4 ∨ i = 5 ∨ i = 6 ∨ i = 7 ∨ i = 8 ∨ i = 9 ∨ i = 10 ∨ i = 11 ∨ i = 12 ∨ i = 13 ∨ i = 14 ∨ i = 15 ∨ i = 16 ∨ i = 17 ∨ i = 18 := by omega
  rcases this with rfl | rfl | rfl | rfl | rfl | rfl | rfl | rfl | rfl | rfl | rfl | rfl | rfl | rfl | rfl | rfl | rfl | rfl | rfl <;> (unfold lim; decide)

end Go.Proofs.Ytndhagflfbblaaa

namespace Go.Proofs.Ytndhagflfbblaaa
open Go.RowKit

/-- A fresh driver's meter behind j minutes of driving. -/
def frM (j : Nat) : Mt := ⟨j, j, false, 0, 0, j, 0, false, 0, 0, false, j, 0, j⟩
theorem Mt.eq_of {s u : Mt} (h : s.eqB u = true) : s = u := by
  obtain ⟨a0, a1, a2, a3, a4, a5, a6, a7, a8, a9, a10, a11, a12, a13⟩ := s
  obtain ⟨b0, b1, b2, b3, b4, b5, b6, b7, b8, b9, b10, b11, b12, b13⟩ := u
  simp only [Mt.eqB, Bool.and_eq_true, beq_iff_eq] at h
  obtain ⟨rfl, rfl, rfl, rfl, rfl, rfl, rfl, rfl, rfl, rfl, rfl, rfl, rfl, rfl⟩ := h
  rfl
set_option maxRecDepth 100000 in
theorem eu_free : ∀ j : Fin 270, stepC euV (frM j.1) 3 = 0 ∧ (stepM euV (frM j.1) 3).eqB (frM (j.1 + 1)) = true := by decide +kernel
theorem eu_last : ¬ stepC euV (frM 270) 3 = 0 := by decide +kernel
theorem eu_far : ∀ (d f : Nat), d ≤ 270 → d < f → farR euV 3 f (frM (270 - d)) = d
  | 0, 0, _, h => by omega
  | 0, f + 1, _, _ => by
    unfold farR
    rw [if_neg (by exact eu_last)]
  | d + 1, 0, _, h => by omega
  | d + 1, f + 1, h1, h2 => by
    obtain ⟨e1, e2⟩ := eu_free ⟨270 - (d + 1), by omega⟩
    dsimp only at e1 e2
    unfold farR
    rw [if_pos e1, Mt.eq_of e2, show 270 - (d + 1) + 1 = 270 - d by omega, eu_far d f (by omega) (by omega)]
theorem eu_farV : farV euV .zero 3 = (270, 0) := by
  unfold farV
  rw [if_pos (err14_ok.2 ⟨may_eu, by unfold MayM; decide, by decide⟩)]
  have h := eu_far 270 40320 (by omega) (by omega)
  have e : farR euV 3 (40320 - Mt.zero.now).toNat .zero = 270 := h
  rw [e]
  rfl

set_option maxRecDepth 100000 in
set_option maxHeartbeats 4000000 in
theorem alive14_any (w : World) :
    Calls Try.prog 9 #[] w fun e w' => e = .returned (.bool true) ∧ Below w.heap.size w w' := by
  have FA := fun W => far14_any euV .zero 3 W
  rw [eu_farV] at FA
  dsimp only at FA
  go_enter Try.func9, Try.ntmps9
  go_wp2_with (first
    | go_skip
    | (go_at_call 21; (with_reducible refine (refeurope_any _).mono ?_); rintro e w1 ⟨rfl, hb1⟩)
    | refine wpList_build_as rfl 25 _ rfl (mt .zero) (by kernel_rfl) ?_
    | (go_at_call 10; (with_reducible refine (FA _).mono ?_); rintro e w2 ⟨rfl, hb2⟩))
  go_ret
  exact ⟨rfl, b_cl hb1 (Nat.le_refl _) hb2⟩

end Go.Proofs.Ytndhagflfbblaaa

namespace Go.Proofs.Ytndhagflfbblaaa
open Go.RowKit

/-- The book and the meter lie in the call's own two blocks. -/
structure FrS (w : World) (x : Nat → Int) (m : Mt) (W : World) : Prop where
  bel : Below w.heap.size w W
  rd : RdI W w.heap.size 0 x
  cur : Bx W (w.heap.size + 1) 25 (mt m)
theorem FrS.below {w : World} {x : Nat → Int} {m : Mt} {W W' : World} (C : FrS w x m W) (hb : Below W.heap.size W W') : FrS w x m W' := ⟨b_cl C.bel (Nat.le_refl _) hb, C.rd.below hb, C.cur.below hb⟩
theorem FrS.alloc {w : World} {x : Nat → Int} {m : Mt} {W : World} (C : FrS w x m W) (o : Obj) : FrS w x m (W.alloc o) := C.below ((Below.refl _ _).alloc (Nat.le_refl _) o)
theorem FrS.updm {w : World} {x : Nat → Int} {m m' : Mt} {W W' : World} (C : FrS w x m W) (u : Upd W (w.heap.size + 1) 25 (mt m') W') : FrS w x m' W' := ⟨C.bel.trans (u.bel _ (by omega)), RfS.rdo C.rd u (by omega), u.box⟩
theorem FrS.other {w : World} {x : Nat → Int} {m : Mt} {W W' : World} {g : Nat} {t : TypeId} {cs : Array Value} (C : FrS w x m W) (u : Upd W g t cs W') (hg : w.heap.size + 1 < g) : FrS w x m W' := ⟨C.bel.trans (u.bel _ (by omega)), RfS.rdo C.rd u (by omega), u.bx C.cur (by omega)⟩
theorem FrS.new (w : World) (x : Nat → Int) (m : Mt) : FrS w x m ((w.alloc (.cells (bk x) 23)).alloc (.cells (mt m) 25)) :=
  ⟨b_al (b_al (Below.refl _ _) (Nat.le_refl _) _) (Nat.le_refl _) _, (RdI.new x 23 rfl).alloc _, Bx.new (W := w.alloc (.cells (bk x) 23)) _ _ (by simp)⟩

set_option maxRecDepth 100000 in
set_option maxHeartbeats 8000000 in
theorem reffar14_any (x : Nat → Int) (m : Mt) (k : Int) (w : World) :
    Calls Try.prog 11 #[.agg (bk x), .agg (mt m), .int .i64 k] w fun e w' => e = .returned (.tuple #[.int .i64 (farV x m k).1, .int .i64 (farV x m k).2]) ∧ Below w.heap.size w w' := by
  have OV := fun W => refover14_any x m k 0 W
  have C := FrS.new w x m
  by_cases he : err14 x m k = 0
  case neg =>
    have hv : farV x m k = (0, err14 x m k) := by unfold farV; rw [if_neg he]
    rw [hv]
    rw [over_bad _ he] at OV
    clear hv
    generalize err14 x m k = er at he OV ⊢
    have ne : (er != 0) = true := by simpa using he
    have ne2 : (er == 0) = false := by simpa using he
    clear he
    go_enter Try.func11, Try.ntmps11
    go_wp2_with (first
      | go_skip
      | refine wpList_load_bk (by rfl) 23 _ rfl _ _ rfl x _ C.rd Try.underlying23 rfl (by kernel_rfl) ?_
      | refine wpList_load_box (by rfl) 25 _ rfl (w.heap.size + 1) rfl 25 (mt m) _ C.cur Try.underlying25 rfl (by kernel_rfl) ?_
      | (go_at_call 8; (with_reducible refine (OV _).mono ?_); rintro e w1 ⟨rfl, hb1⟩; replace C := C.below hb1; clear hb1)
      | refine wpList_store_box rfl 25 _ _ rfl w1.heap.size (mt .zero) rfl rfl 25 (mt .zero) ((Bx.new (W := w1) 25 (mt .zero) rfl).alloc _) (by kernel_rfl) rfl (mt_one _) (fun w2 u => ?_)
      | refine wpList_store_box rfl 28 _ _ rfl (w1.heap.size + 1) (tn zeroF) rfl rfl 28 (tn zeroF) (u.bx (Bx.new (W := w1.alloc _) 28 (tn zeroF) (by simp)) (by omega)) (by kernel_rfl) rfl (tn_one _) (fun w3 u2 => ?_))
    go_ret2
    exact ⟨rfl, ((((C.alloc _).alloc _).other u (by have := C.cur.lt; omega)).other u2 (by have := C.cur.lt; omega)).bel⟩
  obtain ⟨hx, hm, hk⟩ := err14_ok.1 he
  have hnow := hm.1
  have hv : farV x m k = ((farR x k (40320 - m.now).toNat m : Int), 0) := by unfold farV; rw [if_pos he]
  rw [hv]
  rw [show (0 : Int) = ((0 : Nat) : Int) from rfl, over_good 0 he (by omega)] at OV
  dsimp only [walkV] at OV
  rw [show ((0 : Nat) : Int) = 0 from rfl] at OV
  obtain ⟨V, hV⟩ : ∃ V, farR x k (40320 - m.now).toNat m = V := ⟨_, rfl⟩
  rw [hV]
  have HV := Lib.hid hV
  have HM := Lib.hid hm
  have HX := Lib.hid hx
  clear hv he hV hm hx hk hnow
  go_enter Try.func11, Try.ntmps11
  go_upto_region 4 with (first
      | go_skip
      | refine wpList_load_bk (by rfl) 23 _ rfl _ _ rfl x _ C.rd Try.underlying23 rfl (by kernel_rfl) ?_
      | refine wpList_load_box (by rfl) 25 _ rfl (w.heap.size + 1) rfl 25 (mt m) _ C.cur Try.underlying25 rfl (by kernel_rfl) ?_
      | (go_at_call 8; (with_reducible refine (OV _).mono ?_); rintro e w1 ⟨rfl, hb1⟩; replace C := C.below hb1; clear hb1)
      | refine wpList_store_box rfl 25 _ _ rfl w1.heap.size (mt m) rfl rfl 25 (mt .zero) ((Bx.new (W := w1) 25 (mt .zero) rfl).alloc _) (by kernel_rfl) rfl (mt_one _) (fun w2 u => ?_)
      | refine wpList_store_box rfl 28 _ _ rfl (w1.heap.size + 1) (tn noneF) rfl rfl 28 (tn zeroF) (u.bx (Bx.new (W := w1.alloc _) 28 (tn zeroF) (by simp)) (by omega)) (by kernel_rfl) rfl (tn_one _) (fun w3 u2 => ?_))
  (try go_frame)
  have C3 : FrS w x m w3 := ((C.alloc _).alloc _).other u (by have := C.cur.lt; omega) |>.other u2 (by have := C.cur.lt; omega)
  clear C u u2 OV
  go_wp2
  go_loopw [11] (fun i wr => ∃ (j : Nat) (M : Mt), i = .int .i64 (j : Nat) ∧ Hid (FrS w x M wr) ∧ Hid (MayM M) ∧ Hid (j + farR x k (40320 - M.now).toNat M = V) ∧ Hid (M.now = m.now + (j : Int))) (fun i _ => 40320 - (intOf i).toNat)
  case atStart => exact ⟨0, m, rfl, Lib.hid C3, HM, Lib.hid (by rw [Nat.zero_add]; exact HV.out), Lib.hid (by simp)⟩
  case round =>
    obtain ⟨j, M, rfl, HC, HMM, HVV, HN⟩ := hrel
    obtain ⟨w4, rfl⟩ : ∃ w4 : World, w4 = wr := ⟨_, rfl⟩
    clear C3
    have C := HC.out
    have hn := HMM.out.1
    obtain ⟨a, ha⟩ : ∃ a, M.now = a := ⟨_, rfl⟩
    have f1 : (mt M)[0]? = some (.int .i64 M.now) := rfl
    rw [ha] at f1 hn
    have g1 : w4.cell? ⟨w.heap.size + 1, 0, none⟩ = some (.int .i64 a) := C.cur.cell f1
    have hj40 : (j : Int) ≤ 40320 := by have h1 := HN.out; have h2 := HM.out.1; omega
    have HA := Lib.hid ha
    clear ha f1
    by_cases hlt : a < 40320
    case neg =>
      have dl : decide (a < 40320) = false := decide_eq_false hlt
      have hj : V = j := by have h := HVV.out; rw [HA.out, show (40320 - a).toNat = 0 by omega] at h; unfold farR at h; omega
      subst hj
      clear hlt
      go_wp2
      go_ret2
      exact ⟨rfl, C.bel⟩
    have dl : decide (a < 40320) = true := decide_eq_true hlt
    have ST := fun W => refstep_any x M k W HMM.out (by rw [HA.out]; exact hlt) HX.out
    have hf : (40320 - M.now).toNat = (40320 - (M.now + 1)).toNat + 1 := by rw [HA.out]; omega
    have hvv := HVV.out
    rw [hf] at hvv
    unfold farR at hvv
    have hm2 := may_step (x := x) k HMM.out (by rw [HA.out]; exact hlt)
    rw [← hm2.2] at hvv
    generalize stepM x M k = m2 at ST hvv hm2
    have hs := stepC_lt x M k
    generalize stepC x M k = s at ST hvv hs
    by_cases h0 : s = 0
    case neg =>
      have d0 : ((s : Int) != 0) = true := by simpa using h0
      have d1 : ((s : Int) == 0) = false := by simpa using h0
      rw [if_neg h0] at hvv
      obtain rfl : V = j := by omega
      clear hvv h0 hf hm2
      go_wp2_with (first
        | go_skip
        | refine wpList_load_bk (by rfl) 23 _ rfl _ _ rfl x _ C.rd Try.underlying23 rfl (by kernel_rfl) ?_
        | refine wpList_load_box (by rfl) 25 _ rfl (w.heap.size + 1) rfl 25 (mt M) _ C.cur Try.underlying25 rfl (by kernel_rfl) ?_
        | (go_at_call 20; (with_reducible refine (ST _).mono ?_); rintro e w5 ⟨rfl, hb5⟩; replace C := C.below hb5; clear hb5)
        | refine wpList_store_box rfl 25 _ _ rfl w5.heap.size (mt m2) rfl rfl 25 (mt .zero) (Bx.new (W := w5) 25 (mt .zero) rfl) (by kernel_rfl) rfl (mt_one _) (fun w6 u => ?_))
      go_ret2
      exact ⟨rfl, ((C.alloc _).other u (C.cur.lt)).bel⟩
    rw [if_pos h0] at hvv
    subst h0
    have H2 := Lib.hid hm2
    have HVV2 : Hid (j + 1 + farR x k (40320 - m2.now).toNat m2 = V) := Lib.hid (by omega)
    clear hvv hf hm2
    go_wp2_with (first
      | go_skip
      | refine wpList_load_bk (by rfl) 23 _ rfl _ _ rfl x _ C.rd Try.underlying23 rfl (by kernel_rfl) ?_
      | refine wpList_load_box (by rfl) 25 _ rfl (w.heap.size + 1) rfl 25 (mt M) _ C.cur Try.underlying25 rfl (by kernel_rfl) ?_
      | (go_at_call 20; (with_reducible refine (ST _).mono ?_); rintro e w5 ⟨rfl, hb5⟩; replace C := C.below hb5; clear hb5)
      | (refine wpList_store_box rfl 25 _ _ rfl w5.heap.size (mt m2) rfl rfl 25 (mt .zero) (Bx.new (W := w5) 25 (mt .zero) rfl) (by kernel_rfl) rfl (mt_one _) (fun w6 u => ?_); have C6 := (C.alloc _).other u (C.cur.lt); have BK := u.box)
      | refine wpList_load_box (by rfl) 25 _ rfl w5.heap.size rfl 25 (mt m2) _ BK Try.underlying25 rfl (by kernel_rfl) ?_
      | (refine wpList_store_box rfl 25 _ _ rfl (w.heap.size + 1) (mt m2) rfl rfl 25 (mt M) C6.cur (by kernel_rfl) rfl (mt_one _) (fun w7 u7 => ?_); have C7 := C6.updm u7))
    go_roundw
    case rel => exact ⟨j + 1, m2, by go_num, Lib.hid C7, Lib.hid H2.out.1, HVV2, Lib.hid (by have h := H2.out.2; have h2 := HN.out; omega)⟩
    case measure => have h1 := HN.out; have h2 := HM.out.1; have h3 := HA.out; simp [intOf]; omega

end Go.Proofs.Ytndhagflfbblaaa
