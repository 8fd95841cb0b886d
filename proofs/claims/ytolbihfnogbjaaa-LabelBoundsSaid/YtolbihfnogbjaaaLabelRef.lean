/- What the document answers for layer 25: Check, Step, Bound. Conditions: the tasks can be read; beyond Check, they and the label are right. -/
import Derived.Test.YtolbihfnogbjaaaRows
import Derived.Test.YtolbihfnogbjaaaBase
import Derived.Test.YtolbihfnogbjaaaZ2
import Derived.Test.YtolbihfnogbjaaaBookLim
import Derived.Test.YtolbihfnogbjaaaZ1
import Derived.Test.YtolbihfnogbjaaaZ4
import Derived.Test.YtolbihfnogbjaaaZ6
import Derived.Test.YtolbihfnogbjaaaZ3
import Derived.Test.YtolbihfnogbjaaaErrandChk
import Derived.Test.YtolbihfnogbjaaaZ7
import Derived.Test.YtolbihfnogbjaaaErrandSpot
import Derived.Test.YtolbihfnogbjaaaZ8
import Derived.Test.YtolbihfnogbjaaaZ9
import Derived.Test.YtolbihfnogbjaaaBookMayR
import Derived.Test.YtolbihfnogbjaaaErrandFits
import Derived.Test.YtolbihfnogbjaaaErrandRStep
import Derived.Test.YtolbihfnogbjaaaMeterRStep
import Derived.WalkKit
import Derived.WalkSpells
import Derived.WalkSmall
import Derived.Below
import Derived.Lib.Hide
import Derived.BigQuiet
import Derived.OwnWalk
import Derived.Outline
import Derived.Maps.RangeWalk
import Derived.Deep.DeepCutAuto
import Derived.OrdersHeld
import Derived.Deep.RegionHeld3
namespace Go.Proofs.Ytolbihfnogbjaaa
open Go.RowKit

set_option linter.unusedVariables false

theorem info_b4 : (Try.prog.info? 70).map (·.size) = some 4 := by kernel_rfl
theorem b4_one (a b c d : Bool) : (#[.bool a, .bool b, .bool c, .bool d] : Array Value).all (·.oneCell') = true := by simp [Value.oneCell']

set_option maxRecDepth 100000 in
set_option maxHeartbeats 4000000 in
theorem rcheck25_book (x : Nat → Int) (A : Option Addr) (n c : Nat) (l : List Tk) (hn : l.length = n) (a : Lb) (w : World) (h : RdK w A l) (few : Few l) (hx : ¬ May x) :
    Calls Try.prog 9 #[.agg (bk x), .slice A n c, .agg (lb a)] w fun e w' => e = .returned (.int .i64 14) ∧ Below w.heap.size w w' := by
  have XB : Bx ((w.alloc (.cells (bk x) 23)).alloc (.cells (lb a) 30)) (w.heap.size) 23 (bk x) := (Bx.new (W := w) _ _ (by simp)).alloc _
  have XL : Bx ((w.alloc (.cells (bk x) 23)).alloc (.cells (lb a) 30)) (w.heap.size + 1) 30 (lb a) := (Bx.new (W := (w.alloc (.cells (bk x) 23))) _ _ (by simp))
  have B0 : Below w.heap.size w ((w.alloc (.cells (bk x) 23)).alloc (.cells (lb a) 30)) := b_al (b_al (Below.refl _ _) (Nat.le_refl _) _) (Nat.le_refl _) _
  have HK := Lib.hid (h.below B0)
  have C1 := fun W => refmay_any x W
  rw [if_neg hx] at C1
  clear h few hx hn
  go_enter Try.func9, Try.ntmps9
  go_wp2_with (first
    | go_skip
    | refine wpList_load_box (by rfl) 23 _ rfl (w.heap.size) rfl 23 (bk x) _ XB Try.underlying23 rfl (by kernel_rfl) ?_
    | (go_at_call 20; (with_reducible refine (C1 _).mono ?_); rintro e w1 ⟨rfl, hb1⟩; have HB1 := Lib.hid (b_cl B0 (Nat.le_refl _) hb1); have XL1 := XL.below hb1; have HK1 := Lib.hid (HK.out.below hb1); clear hb1))
  go_ret
  exact ⟨rfl, HB1.out⟩

set_option maxRecDepth 100000 in
set_option maxHeartbeats 4000000 in
theorem rcheck25_tasks (x : Nat → Int) (A : Option Addr) (n c : Nat) (l : List Tk) (hn : l.length = n) (a : Lb) (w : World) (h : RdK w A l) (few : Few l) (hx : May x) (e0 : Int) (hc : checkT l = e0) (h0 : e0 ≠ 0) :
    Calls Try.prog 9 #[.agg (bk x), .slice A n c, .agg (lb a)] w fun e w' => e = .returned (.int .i64 e0) ∧ Below w.heap.size w w' := by
  have XB : Bx ((w.alloc (.cells (bk x) 23)).alloc (.cells (lb a) 30)) (w.heap.size) 23 (bk x) := (Bx.new (W := w) _ _ (by simp)).alloc _
  have XL : Bx ((w.alloc (.cells (bk x) 23)).alloc (.cells (lb a) 30)) (w.heap.size + 1) 30 (lb a) := (Bx.new (W := (w.alloc (.cells (bk x) 23))) _ _ (by simp))
  have B0 : Below w.heap.size w ((w.alloc (.cells (bk x) 23)).alloc (.cells (lb a) 30)) := b_al (b_al (Below.refl _ _) (Nat.le_refl _) _) (Nat.le_refl _) _
  have HK := Lib.hid (h.below B0)
  have C1 := fun W => refmay_any x W
  rw [if_pos hx] at C1
  have C2 := fun W (h : RdK W A l) => refcheck19_any A n c l hn W h few
  rw [hc] at C2
  have hne : (e0 != 0) = true := by simp [h0]
  clear h0
  clear h few hx hn
  clear hc
  go_enter Try.func9, Try.ntmps9
  go_wp2_with (first
    | go_skip
    | refine wpList_load_box (by rfl) 23 _ rfl (w.heap.size) rfl 23 (bk x) _ XB Try.underlying23 rfl (by kernel_rfl) ?_
    | (go_at_call 20; (with_reducible refine (C1 _).mono ?_); rintro e w1 ⟨rfl, hb1⟩; have HB1 := Lib.hid (b_cl B0 (Nat.le_refl _) hb1); have XL1 := XL.below hb1; have HK1 := Lib.hid (HK.out.below hb1); clear hb1)
    | (go_at_call 21; (with_reducible refine (C2 _ HK1.out).mono ?_); rintro e w2 ⟨rfl, hb2⟩; have HB2 := Lib.hid (b_cl HB1.out (Nat.le_refl _) hb2); have XL2 := XL1.below hb2; have HK2 := Lib.hid (HK1.out.below hb2); clear hb2))
  go_ret
  exact ⟨rfl, HB2.out⟩

set_option maxRecDepth 100000 in
set_option maxHeartbeats 4000000 in
theorem rcheck25_meter (x : Nat → Int) (A : Option Addr) (n c : Nat) (l : List Tk) (hn : l.length = n) (a : Lb) (w : World) (h : RdK w A l) (few : Few l) (hx : May x) (hc : checkT l = 0) (hm : ¬ MayM a.1) :
    Calls Try.prog 9 #[.agg (bk x), .slice A n c, .agg (lb a)] w fun e w' => e = .returned (.int .i64 1) ∧ Below w.heap.size w w' := by
  have XB : Bx ((w.alloc (.cells (bk x) 23)).alloc (.cells (lb a) 30)) (w.heap.size) 23 (bk x) := (Bx.new (W := w) _ _ (by simp)).alloc _
  have XL : Bx ((w.alloc (.cells (bk x) 23)).alloc (.cells (lb a) 30)) (w.heap.size + 1) 30 (lb a) := (Bx.new (W := (w.alloc (.cells (bk x) 23))) _ _ (by simp))
  have B0 : Below w.heap.size w ((w.alloc (.cells (bk x) 23)).alloc (.cells (lb a) 30)) := b_al (b_al (Below.refl _ _) (Nat.le_refl _) _) (Nat.le_refl _) _
  have HK := Lib.hid (h.below B0)
  have C1 := fun W => refmay_any x W
  rw [if_pos hx] at C1
  have C2 := fun W (h : RdK W A l) => refcheck19_any A n c l hn W h few
  rw [hc] at C2
  have C3 := fun W => refmay13_any a.1 W
  rw [if_neg hm] at C3
  clear hm
  clear h few hx hn
  clear hc
  go_enter Try.func9, Try.ntmps9
  go_wp2_with (first
    | go_skip
    | refine wpList_load_box (by rfl) 23 _ rfl (w.heap.size) rfl 23 (bk x) _ XB Try.underlying23 rfl (by kernel_rfl) ?_
    | (go_at_call 20; (with_reducible refine (C1 _).mono ?_); rintro e w1 ⟨rfl, hb1⟩; have HB1 := Lib.hid (b_cl B0 (Nat.le_refl _) hb1); have XL1 := XL.below hb1; have HK1 := Lib.hid (HK.out.below hb1); clear hb1)
    | (go_at_call 21; (with_reducible refine (C2 _ HK1.out).mono ?_); rintro e w2 ⟨rfl, hb2⟩; have HB2 := Lib.hid (b_cl HB1.out (Nat.le_refl _) hb2); have XL2 := XL1.below hb2; have HK2 := Lib.hid (HK1.out.below hb2); clear hb2)
    | refine wpList_loadG (by rfl) 26 _ rfl (w.heap.size + 1) (0) rfl (mt a.1) _ XL2.lbM Try.underlying26 rfl (by kernel_rfl) ?_
    | (go_at_call 22; (with_reducible refine (C3 _).mono ?_); rintro e w3 ⟨rfl, hb3⟩; have HB3 := Lib.hid (b_cl HB2.out (Nat.le_refl _) hb3); have XL3 := XL2.below hb3; have HK3 := Lib.hid (HK2.out.below hb3); clear hb3))
  go_ret
  exact ⟨rfl, HB3.out⟩

set_option maxRecDepth 100000 in
set_option maxHeartbeats 4000000 in
theorem rcheck25_spot (x : Nat → Int) (A : Option Addr) (n c : Nat) (l : List Tk) (hn : l.length = n) (a : Lb) (w : World) (h : RdK w A l) (few : Few l) (hx : May x) (hc : checkT l = 0) (hm : MayM a.1) (hf : ¬ Fits l a.2) :
    Calls Try.prog 9 #[.agg (bk x), .slice A n c, .agg (lb a)] w fun e w' => e = .returned (.int .i64 1) ∧ Below w.heap.size w w' := by
  have XB : Bx ((w.alloc (.cells (bk x) 23)).alloc (.cells (lb a) 30)) (w.heap.size) 23 (bk x) := (Bx.new (W := w) _ _ (by simp)).alloc _
  have XL : Bx ((w.alloc (.cells (bk x) 23)).alloc (.cells (lb a) 30)) (w.heap.size + 1) 30 (lb a) := (Bx.new (W := (w.alloc (.cells (bk x) 23))) _ _ (by simp))
  have B0 : Below w.heap.size w ((w.alloc (.cells (bk x) 23)).alloc (.cells (lb a) 30)) := b_al (b_al (Below.refl _ _) (Nat.le_refl _) _) (Nat.le_refl _) _
  have HK := Lib.hid (h.below B0)
  have C1 := fun W => refmay_any x W
  rw [if_pos hx] at C1
  have C2 := fun W (h : RdK W A l) => refcheck19_any A n c l hn W h few
  rw [hc] at C2
  have C3 := fun W => refmay13_any a.1 W
  rw [if_pos hm] at C3
  clear hm
  have C4 := fun W (h : RdK W A l) => reffits19_any A n c l hn a.2.1 a.2.2.1 a.2.2.2 W h
  rw [show ((a.2.1, a.2.2.1, a.2.2.2) : Pt) = a.2 from rfl, decide_eq_false hf] at C4
  clear hf
  clear h few hx hn
  clear hc
  go_enter Try.func9, Try.ntmps9
  go_wp2_with (first
    | go_skip
    | refine wpList_load_box (by rfl) 23 _ rfl (w.heap.size) rfl 23 (bk x) _ XB Try.underlying23 rfl (by kernel_rfl) ?_
    | (go_at_call 20; (with_reducible refine (C1 _).mono ?_); rintro e w1 ⟨rfl, hb1⟩; have HB1 := Lib.hid (b_cl B0 (Nat.le_refl _) hb1); have XL1 := XL.below hb1; have HK1 := Lib.hid (HK.out.below hb1); clear hb1)
    | (go_at_call 21; (with_reducible refine (C2 _ HK1.out).mono ?_); rintro e w2 ⟨rfl, hb2⟩; have HB2 := Lib.hid (b_cl HB1.out (Nat.le_refl _) hb2); have XL2 := XL1.below hb2; have HK2 := Lib.hid (HK1.out.below hb2); clear hb2)
    | refine wpList_loadG (by rfl) 26 _ rfl (w.heap.size + 1) (0) rfl (mt a.1) _ XL2.lbM Try.underlying26 rfl (by kernel_rfl) ?_
    | (go_at_call 22; (with_reducible refine (C3 _).mono ?_); rintro e w3 ⟨rfl, hb3⟩; have HB3 := Lib.hid (b_cl HB2.out (Nat.le_refl _) hb3); have XL3 := XL2.below hb3; have HK3 := Lib.hid (HK2.out.below hb3); clear hb3)
    | refine wpList_loadG (by rfl) 28 _ rfl (w.heap.size + 1) (14) rfl (sp3 a.2) _ XL3.lbS Try.underlying28 rfl (by kernel_rfl) ?_
    | (go_at_call 17; refine (C4 _ HK3.out).mono ?_; rintro e w4 ⟨rfl, hb4⟩; have HB4 := Lib.hid (b_cl HB3.out (Nat.le_refl _) hb4); clear hb4))
  go_ret
  exact ⟨rfl, HB4.out⟩

set_option maxRecDepth 100000 in
set_option maxHeartbeats 4000000 in
theorem rcheck25_ok (x : Nat → Int) (A : Option Addr) (n c : Nat) (l : List Tk) (hn : l.length = n) (a : Lb) (w : World) (h : RdK w A l) (few : Few l) (hx : May x) (hc : checkT l = 0) (hm : MayM a.1) (hf : Fits l a.2) :
    Calls Try.prog 9 #[.agg (bk x), .slice A n c, .agg (lb a)] w fun e w' => e = .returned (.int .i64 0) ∧ Below w.heap.size w w' := by
  have XB : Bx ((w.alloc (.cells (bk x) 23)).alloc (.cells (lb a) 30)) (w.heap.size) 23 (bk x) := (Bx.new (W := w) _ _ (by simp)).alloc _
  have XL : Bx ((w.alloc (.cells (bk x) 23)).alloc (.cells (lb a) 30)) (w.heap.size + 1) 30 (lb a) := (Bx.new (W := (w.alloc (.cells (bk x) 23))) _ _ (by simp))
  have B0 : Below w.heap.size w ((w.alloc (.cells (bk x) 23)).alloc (.cells (lb a) 30)) := b_al (b_al (Below.refl _ _) (Nat.le_refl _) _) (Nat.le_refl _) _
  have HK := Lib.hid (h.below B0)
  have C1 := fun W => refmay_any x W
  rw [if_pos hx] at C1
  have C2 := fun W (h : RdK W A l) => refcheck19_any A n c l hn W h few
  rw [hc] at C2
  have C3 := fun W => refmay13_any a.1 W
  rw [if_pos hm] at C3
  clear hm
  have C4 := fun W (h : RdK W A l) => reffits19_any A n c l hn a.2.1 a.2.2.1 a.2.2.2 W h
  rw [show ((a.2.1, a.2.2.1, a.2.2.2) : Pt) = a.2 from rfl, decide_eq_true hf] at C4
  clear hf
  clear h few hx hn
  clear hc
  go_enter Try.func9, Try.ntmps9
  go_wp2_with (first
    | go_skip
    | refine wpList_load_box (by rfl) 23 _ rfl (w.heap.size) rfl 23 (bk x) _ XB Try.underlying23 rfl (by kernel_rfl) ?_
    | (go_at_call 20; (with_reducible refine (C1 _).mono ?_); rintro e w1 ⟨rfl, hb1⟩; have HB1 := Lib.hid (b_cl B0 (Nat.le_refl _) hb1); have XL1 := XL.below hb1; have HK1 := Lib.hid (HK.out.below hb1); clear hb1)
    | (go_at_call 21; (with_reducible refine (C2 _ HK1.out).mono ?_); rintro e w2 ⟨rfl, hb2⟩; have HB2 := Lib.hid (b_cl HB1.out (Nat.le_refl _) hb2); have XL2 := XL1.below hb2; have HK2 := Lib.hid (HK1.out.below hb2); clear hb2)
    | refine wpList_loadG (by rfl) 26 _ rfl (w.heap.size + 1) (0) rfl (mt a.1) _ XL2.lbM Try.underlying26 rfl (by kernel_rfl) ?_
    | (go_at_call 22; (with_reducible refine (C3 _).mono ?_); rintro e w3 ⟨rfl, hb3⟩; have HB3 := Lib.hid (b_cl HB2.out (Nat.le_refl _) hb3); have XL3 := XL2.below hb3; have HK3 := Lib.hid (HK2.out.below hb3); clear hb3)
    | refine wpList_loadG (by rfl) 28 _ rfl (w.heap.size + 1) (14) rfl (sp3 a.2) _ XL3.lbS Try.underlying28 rfl (by kernel_rfl) ?_
    | (go_at_call 17; refine (C4 _ HK3.out).mono ?_; rintro e w4 ⟨rfl, hb4⟩; have HB4 := Lib.hid (b_cl HB3.out (Nat.le_refl _) hb4); clear hb4))
  go_ret
  exact ⟨rfl, HB4.out⟩

theorem refcheck25_any (x : Nat → Int) (A : Option Addr) (n c : Nat) (l : List Tk) (hn : l.length = n) (a : Lb) (w : World) (h : RdK w A l) (few : Few l) :
    Calls Try.prog 9 #[.agg (bk x), .slice A n c, .agg (lb a)] w fun e w' => e = .returned (.int .i64 (chk25 x l a)) ∧ Below w.heap.size w w' := by
  by_cases hx : May x
  · rw [chk25_may hx]
    by_cases hc : checkT l = 0
    · by_cases hm : MayM a.1
      · by_cases hf : Fits l a.2
        · rw [bnd_yes hc ⟨hm, hf⟩]
          exact rcheck25_ok x A n c l hn a w h few hx hc hm hf
        · rw [bnd_no hc (fun r => hf r.2)]
          exact rcheck25_spot x A n c l hn a w h few hx hc hm hf
      · rw [bnd_no hc (fun r => hm r.1)]
        exact rcheck25_meter x A n c l hn a w h few hx hc hm
    · rw [bnd_bad rfl hc]
      exact rcheck25_tasks x A n c l hn a w h few hx _ rfl hc
  · rw [chk25_book hx]
    exact rcheck25_book x A n c l hn a w h few hx

set_option maxRecDepth 100000 in
set_option maxHeartbeats 4000000 in
theorem refbound25_any (A : Option Addr) (n c : Nat) (l : List Tk) (hn : l.length = n) (a : Lb) (w : World) (h : RdK w A l) (few : Few l) (hl : n ≤ 2001) (ok : ∀ t ∈ l, TkOk t) (hr : RightL l a) :
    Calls Try.prog 15 #[.slice A n c, .agg (lb a)] w fun e w' => e = .returned (.int .i64 (boundV l a)) ∧ Below w.heap.size w w' := by
  have CL := fun W (h : RdK W A l) => refleft19_any A n c l hn a.2.1 a.2.2.1 a.2.2.2 W h ok hl hr.2
  rw [show ((a.2.1, a.2.2.1, a.2.2.2) : Pt) = a.2 from rfl] at CL
  have h1 := left_none ok hr.2
  have h2 := left_top ok (by omega) hr.2
  have hN : 0 ≤ a.1.now ∧ a.1.now ≤ 40320 := hr.1.1
  unfold boundV
  obtain ⟨d, hd⟩ : ∃ d, (leftT l a.2).1 = d := ⟨_, rfl⟩
  obtain ⟨v, hv⟩ : ∃ v, (leftT l a.2).2 = v := ⟨_, rfl⟩
  rw [hd, hv] at CL h1 h2 ⊢
  obtain ⟨d0, v0, _⟩ := h1
  obtain ⟨d1, v1⟩ := h2
  have XL : Bx (w.alloc (.cells (lb a) 30)) (w.heap.size) 30 (lb a) := (Bx.new (W := w) _ _ (by simp))
  have B0 : Below w.heap.size w (w.alloc (.cells (lb a) 30)) := b_al (Below.refl _ _) (Nat.le_refl _) _
  have HK := Lib.hid (h.below B0)
  clear h few hl ok hr hd hv hn
  go_enter Try.func15, Try.ntmps15
  go_wp2_with (first
    | go_skip
    | refine wpList_loadG (by rfl) 28 _ rfl (w.heap.size) (14) rfl (sp3 a.2) _ XL.lbS Try.underlying28 rfl (by kernel_rfl) ?_
    | (go_at_call 28; refine (CL _ HK.out).mono ?_; rintro e w1 ⟨rfl, hb1⟩; have HB1 := Lib.hid (b_cl B0 (Nat.le_refl _) hb1); have q1 : w1.cell? ⟨w.heap.size, 0, none⟩ = some (.int .i64 a.1.now) := (XL.below hb1).lbN))
  go_ret
  exact ⟨rfl, HB1.out⟩

set_option maxRecDepth 100000 in
set_option maxHeartbeats 4000000 in
theorem rstep25_end (x : Nat → Int) (A : Option Addr) (n c : Nat) (l : List Tk) (hn : l.length = n) (a : Lb) (k : Int) (w : World) (h : RdK w A l) (few : Few l) (hl : n ≤ 2001) (ok : ∀ t ∈ l, TkOk t) (hx : May x) (hr : RightL l a) (hN : a.1.now = 40320) :
    Calls Try.prog 11 #[.agg (bk x), .slice A n c, .agg (lb a), .int .i64 k] w fun e w' => e = .returned (.tuple #[.agg (lb lz), .bool false]) ∧ Below w.heap.size w w' := by
  have XB : Bx (((w.alloc (.cells (bk x) 23)).alloc (.cells (lb a) 30)).alloc (.cells (#[.int .i64 0, .int .i64 0, .bool false, .int .i64 0, .int .i64 0, .int .i64 0, .int .i64 0, .bool false, .int .i64 0, .int .i64 0, .bool false, .int .i64 0, .int .i64 0, .int .i64 0, .int .i64 0, .int .i64 0, .int .i64 0]) 30)) (w.heap.size) 23 (bk x) := ((Bx.new (W := w) _ _ (by simp)).alloc _).alloc _
  have XL : Bx (((w.alloc (.cells (bk x) 23)).alloc (.cells (lb a) 30)).alloc (.cells (#[.int .i64 0, .int .i64 0, .bool false, .int .i64 0, .int .i64 0, .int .i64 0, .int .i64 0, .bool false, .int .i64 0, .int .i64 0, .bool false, .int .i64 0, .int .i64 0, .int .i64 0, .int .i64 0, .int .i64 0, .int .i64 0]) 30)) (w.heap.size + 1) 30 (lb a) := (Bx.new (W := (w.alloc (.cells (bk x) 23))) _ _ (by simp)).alloc _
  have XP : Bx (((w.alloc (.cells (bk x) 23)).alloc (.cells (lb a) 30)).alloc (.cells (#[.int .i64 0, .int .i64 0, .bool false, .int .i64 0, .int .i64 0, .int .i64 0, .int .i64 0, .bool false, .int .i64 0, .int .i64 0, .bool false, .int .i64 0, .int .i64 0, .int .i64 0, .int .i64 0, .int .i64 0, .int .i64 0]) 30)) (w.heap.size + 1 + 1) 30 (#[.int .i64 0, .int .i64 0, .bool false, .int .i64 0, .int .i64 0, .int .i64 0, .int .i64 0, .bool false, .int .i64 0, .int .i64 0, .bool false, .int .i64 0, .int .i64 0, .int .i64 0, .int .i64 0, .int .i64 0, .int .i64 0]) := (Bx.new (W := ((w.alloc (.cells (bk x) 23)).alloc (.cells (lb a) 30))) _ _ (by simp))
  have B0 : Below w.heap.size w (((w.alloc (.cells (bk x) 23)).alloc (.cells (lb a) 30)).alloc (.cells (#[.int .i64 0, .int .i64 0, .bool false, .int .i64 0, .int .i64 0, .int .i64 0, .int .i64 0, .bool false, .int .i64 0, .int .i64 0, .bool false, .int .i64 0, .int .i64 0, .int .i64 0, .int .i64 0, .int .i64 0, .int .i64 0]) 30)) := b_al (b_al (b_al (Below.refl _ _) (Nat.le_refl _) _) (Nat.le_refl _) _) (Nat.le_refl _) _
  have HK := Lib.hid (h.below B0)
  have hmm := hr.1.1
  have q0 : (((w.alloc (.cells (bk x) 23)).alloc (.cells (lb a) 30)).alloc (.cells (#[.int .i64 0, .int .i64 0, .bool false, .int .i64 0, .int .i64 0, .int .i64 0, .int .i64 0, .bool false, .int .i64 0, .int .i64 0, .bool false, .int .i64 0, .int .i64 0, .int .i64 0, .int .i64 0, .int .i64 0, .int .i64 0]) 30)).cell? ⟨w.heap.size + 1, 0, none⟩ = some (.int .i64 a.1.now) := XL.lbN
  have gN : (40320 : Int) ≤ a.1.now := by omega
  clear h few hl ok hx hr hN hn hmm
  go_enter Try.func11, Try.ntmps11
  go_wp2_with (first
    | go_skip
    | refine wpList_build_as rfl 30 _ rfl (lb lz) (by kernel_rfl) ?_
    | (refine wpList_store_box rfl 30 _ _ rfl (w.heap.size + 1 + 1) (lb lz) rfl rfl 30 (lb lz) (XP) (by kernel_rfl) rfl (lb_one _) (fun w9 u9 => ?_); have XP9 := u9.box; have HB9 := Lib.hid (B0.trans (u9.bel _ (by omega)))))
  refine bodyPost_ret (v := .tuple #[.agg (lb lz), .bool false]) (results_box2 Try.results11 _ _ (w.heap.size + 1 + 1) 30 (lb lz) _ _ rfl XP9 rfl Try.underlying30 rfl (by kernel_rfl)) rfl ⟨rfl, ?_⟩
  exact HB9.out

set_option maxRecDepth 100000 in
set_option maxHeartbeats 4000000 in
theorem rstep25_set (x : Nat → Int) (A : Option Addr) (n c : Nat) (l : List Tk) (hn : l.length = n) (a : Lb) (k : Int) (w : World) (h : RdK w A l) (few : Few l) (hl : n ≤ 2001) (ok : ∀ t ∈ l, TkOk t) (hx : May x) (hr : RightL l a) (hN : a.1.now ≠ 40320) (hs : stepC x a.1 k ≠ 0) :
    Calls Try.prog 11 #[.agg (bk x), .slice A n c, .agg (lb a), .int .i64 k] w fun e w' => e = .returned (.tuple #[.agg (lb lz), .bool false]) ∧ Below w.heap.size w w' := by
  have XB : Bx (((w.alloc (.cells (bk x) 23)).alloc (.cells (lb a) 30)).alloc (.cells (#[.int .i64 0, .int .i64 0, .bool false, .int .i64 0, .int .i64 0, .int .i64 0, .int .i64 0, .bool false, .int .i64 0, .int .i64 0, .bool false, .int .i64 0, .int .i64 0, .int .i64 0, .int .i64 0, .int .i64 0, .int .i64 0]) 30)) (w.heap.size) 23 (bk x) := ((Bx.new (W := w) _ _ (by simp)).alloc _).alloc _
  have XL : Bx (((w.alloc (.cells (bk x) 23)).alloc (.cells (lb a) 30)).alloc (.cells (#[.int .i64 0, .int .i64 0, .bool false, .int .i64 0, .int .i64 0, .int .i64 0, .int .i64 0, .bool false, .int .i64 0, .int .i64 0, .bool false, .int .i64 0, .int .i64 0, .int .i64 0, .int .i64 0, .int .i64 0, .int .i64 0]) 30)) (w.heap.size + 1) 30 (lb a) := (Bx.new (W := (w.alloc (.cells (bk x) 23))) _ _ (by simp)).alloc _
  have XP : Bx (((w.alloc (.cells (bk x) 23)).alloc (.cells (lb a) 30)).alloc (.cells (#[.int .i64 0, .int .i64 0, .bool false, .int .i64 0, .int .i64 0, .int .i64 0, .int .i64 0, .bool false, .int .i64 0, .int .i64 0, .bool false, .int .i64 0, .int .i64 0, .int .i64 0, .int .i64 0, .int .i64 0, .int .i64 0]) 30)) (w.heap.size + 1 + 1) 30 (#[.int .i64 0, .int .i64 0, .bool false, .int .i64 0, .int .i64 0, .int .i64 0, .int .i64 0, .bool false, .int .i64 0, .int .i64 0, .bool false, .int .i64 0, .int .i64 0, .int .i64 0, .int .i64 0, .int .i64 0, .int .i64 0]) := (Bx.new (W := ((w.alloc (.cells (bk x) 23)).alloc (.cells (lb a) 30))) _ _ (by simp))
  have B0 : Below w.heap.size w (((w.alloc (.cells (bk x) 23)).alloc (.cells (lb a) 30)).alloc (.cells (#[.int .i64 0, .int .i64 0, .bool false, .int .i64 0, .int .i64 0, .int .i64 0, .int .i64 0, .bool false, .int .i64 0, .int .i64 0, .bool false, .int .i64 0, .int .i64 0, .int .i64 0, .int .i64 0, .int .i64 0, .int .i64 0]) 30)) := b_al (b_al (b_al (Below.refl _ _) (Nat.le_refl _) _) (Nat.le_refl _) _) (Nat.le_refl _) _
  have HK := Lib.hid (h.below B0)
  have hmm := hr.1.1
  have q0 : (((w.alloc (.cells (bk x) 23)).alloc (.cells (lb a) 30)).alloc (.cells (#[.int .i64 0, .int .i64 0, .bool false, .int .i64 0, .int .i64 0, .int .i64 0, .int .i64 0, .bool false, .int .i64 0, .int .i64 0, .bool false, .int .i64 0, .int .i64 0, .int .i64 0, .int .i64 0, .int .i64 0, .int .i64 0]) 30)).cell? ⟨w.heap.size + 1, 0, none⟩ = some (.int .i64 a.1.now) := XL.lbN
  have gN : ¬ (40320 : Int) ≤ a.1.now := by omega
  have C1 := fun W => refstep_any x a.1 k W hr.1 (by omega) hx
  have C2 := fun W (h : RdK W A l) => refstep19_any A n c l hn a.2.1 a.2.2.1 a.2.2.2 a.1.now k W h few hl ok hr.2
  rw [show ((a.2.1, a.2.2.1, a.2.2.2) : Pt) = a.2 from rfl] at C2
  obtain ⟨m1, hm1⟩ : ∃ m1, stepM x a.1 k = m1 := ⟨_, rfl⟩
  obtain ⟨s1, hs1⟩ : ∃ s1, stepT l a.2 k = s1 := ⟨_, rfl⟩
  rw [hm1] at C1
  rw [hs1] at C2
  clear hm1 hs1
  generalize b0 l a.2 k = v0 at C2
  generalize b1 l a.2 k = v1 at C2
  generalize b2 l a.2 a.1.now k = v2 at C2
  generalize b3 a.2 k = v3 at C2
  obtain ⟨q1, hq1⟩ : ∃ q1, stepC x a.1 k = q1 := ⟨_, rfl⟩
  rw [hq1] at C1 hs
  have gs : ((q1 : Int) != 0) = true := by simp; omega
  clear hq1
  clear h few hl ok hx hr hN hn hmm hs
  go_enter Try.func11, Try.ntmps11
  go_wp2_with (first
    | go_skip
    | refine wpList_load_box (by rfl) 23 _ rfl (w.heap.size) rfl 23 (bk x) _ XB Try.underlying23 rfl (by kernel_rfl) ?_
    | refine wpList_loadG (by rfl) 26 _ rfl (w.heap.size + 1) (0) rfl (mt a.1) _ XL.lbM Try.underlying26 rfl (by kernel_rfl) ?_
    | (go_at_call 24; (with_reducible refine (C1 _).mono ?_); rintro e w1 ⟨rfl, hb1⟩; have XL1 := XL.below hb1; have XP1 := XP.below hb1; have HK1 := Lib.hid (HK.out.below hb1); have HB1 := Lib.hid (b_cl B0 (Nat.le_refl _) hb1); have hl1 := XP1.lt; clear q0)
    | (refine wpList_store_box rfl 26 _ _ rfl w1.heap.size (mt m1) rfl rfl 26 (mt .zero) (Bx.new (W := w1) 26 (mt .zero) rfl) (by kernel_rfl) rfl (mt_one _) (fun w2 u2 => ?_); have XM2 := u2.box; have b2 := ((b_al (Below.refl w1.heap.size w1) (Nat.le_refl _) _).trans (u2.bel _ (Nat.le_refl _))); have XL2 := XL1.below b2; have XP2 := XP1.below b2; have HK2 := Lib.hid (HK1.out.below b2); have HB2 := Lib.hid (b_cl HB1.out (Nat.le_refl _) b2); have q2 : w2.cell? ⟨w.heap.size + 1, 0, none⟩ = some (.int .i64 a.1.now) := XL2.lbN; have hl2 : w1.heap.size < w2.heap.size := XM2.lt; clear b2)
    | refine wpList_loadG (by rfl) 28 _ rfl (w.heap.size + 1) (14) rfl (sp3 a.2) _ XL2.lbS Try.underlying28 rfl (by kernel_rfl) ?_
    | (go_at_call 25; refine (C2 _ HK2.out).mono ?_; rintro e w3 ⟨rfl, hb3⟩; have XM3 := XM2.below hb3; have XP3 := XP2.below hb3; have HB3 := Lib.hid (b_cl HB2.out (Nat.le_refl _) hb3); have hl3 := hb3.size; clear q2)
    | (refine wpList_store_box rfl 28 _ _ rfl w3.heap.size (sp3 s1) rfl rfl 28 (sp3 (0, 0, 0)) ((Bx.new (W := w3) 28 (sp3 (0, 0, 0)) rfl).alloc (.cells #[.bool false, .bool false, .bool false, .bool false] 70)) (by kernel_rfl) rfl (one3 _ _ _) (fun w4 u4 => ?_); have XS4 := u4.box; have XA4 := u4.bx (Bx.new (W := w3.alloc (.cells (sp3 (0, 0, 0)) 28)) (g := w3.heap.size + 1) 70 #[.bool false, .bool false, .bool false, .bool false] (by simp)) (by omega); have b4 := ((b_al (b_al (Below.refl w3.heap.size w3) (Nat.le_refl _) (.cells (sp3 (0, 0, 0)) 28)) (by simp) (.cells #[.bool false, .bool false, .bool false, .bool false] 70)).trans (u4.bel _ (Nat.le_refl _))); have XM4 := XM3.below b4; have XP4 := XP3.below b4; have HB4 := Lib.hid (b_cl HB3.out (Nat.le_refl _) b4); clear b4)
    | (refine wpList_store_box rfl 70 _ _ rfl (w3.heap.size + 1) #[.bool v0, .bool v1, .bool v2, .bool v3] rfl rfl 70 #[.bool false, .bool false, .bool false, .bool false] XA4 (by kernel_rfl) rfl (b4_one _ _ _ _) (fun w5 u5 => ?_); have XA5 := u5.box; have XS5 := u5.bx XS4 (by omega); have XM5 := u5.bx XM4 (by omega); have XP5 := u5.bx XP4 (by omega); have HB5 := Lib.hid (HB4.out.trans (u5.bel _ (by have := HB3.out.size; omega))); have y0 : w5.cell? ⟨w3.heap.size + 1, 0, none⟩ = some (.bool v0) := XA5.cell rfl; have y1 : w5.cell? ⟨w3.heap.size + 1, 1, none⟩ = some (.bool v1) := XA5.cell rfl; have y2 : w5.cell? ⟨w3.heap.size + 1, 2, none⟩ = some (.bool v2) := XA5.cell rfl; have y3 : w5.cell? ⟨w3.heap.size + 1, 3, none⟩ = some (.bool v3) := XA5.cell rfl)
    | refine wpList_build_as rfl 30 _ rfl (lb lz) (by kernel_rfl) ?_
    | (refine wpList_store_box rfl 30 _ _ rfl (w.heap.size + 1 + 1) (lb lz) rfl rfl 30 (lb lz) (XP5) (by kernel_rfl) rfl (lb_one _) (fun w9 u9 => ?_); have XP9 := u9.box; have HB9 := Lib.hid (HB5.out.trans (u9.bel _ (by omega)))))
  refine bodyPost_ret (v := .tuple #[.agg (lb lz), .bool false]) (results_box2 Try.results11 _ _ (w.heap.size + 1 + 1) 30 (lb lz) _ _ rfl XP9 rfl Try.underlying30 rfl (by kernel_rfl)) rfl ⟨rfl, ?_⟩
  exact HB9.out

set_option maxRecDepth 100000 in
set_option maxHeartbeats 4000000 in
theorem rstep25_b0 (x : Nat → Int) (A : Option Addr) (n c : Nat) (l : List Tk) (hn : l.length = n) (a : Lb) (k : Int) (w : World) (h : RdK w A l) (few : Few l) (hl : n ≤ 2001) (ok : ∀ t ∈ l, TkOk t) (hx : May x) (hr : RightL l a) (hN : a.1.now ≠ 40320) (hs : stepC x a.1 k = 0) (h0 : b0 l a.2 k = true) :
    Calls Try.prog 11 #[.agg (bk x), .slice A n c, .agg (lb a), .int .i64 k] w fun e w' => e = .returned (.tuple #[.agg (lb lz), .bool false]) ∧ Below w.heap.size w w' := by
  have XB : Bx (((w.alloc (.cells (bk x) 23)).alloc (.cells (lb a) 30)).alloc (.cells (#[.int .i64 0, .int .i64 0, .bool false, .int .i64 0, .int .i64 0, .int .i64 0, .int .i64 0, .bool false, .int .i64 0, .int .i64 0, .bool false, .int .i64 0, .int .i64 0, .int .i64 0, .int .i64 0, .int .i64 0, .int .i64 0]) 30)) (w.heap.size) 23 (bk x) := ((Bx.new (W := w) _ _ (by simp)).alloc _).alloc _
  have XL : Bx (((w.alloc (.cells (bk x) 23)).alloc (.cells (lb a) 30)).alloc (.cells (#[.int .i64 0, .int .i64 0, .bool false, .int .i64 0, .int .i64 0, .int .i64 0, .int .i64 0, .bool false, .int .i64 0, .int .i64 0, .bool false, .int .i64 0, .int .i64 0, .int .i64 0, .int .i64 0, .int .i64 0, .int .i64 0]) 30)) (w.heap.size + 1) 30 (lb a) := (Bx.new (W := (w.alloc (.cells (bk x) 23))) _ _ (by simp)).alloc _
  have XP : Bx (((w.alloc (.cells (bk x) 23)).alloc (.cells (lb a) 30)).alloc (.cells (#[.int .i64 0, .int .i64 0, .bool false, .int .i64 0, .int .i64 0, .int .i64 0, .int .i64 0, .bool false, .int .i64 0, .int .i64 0, .bool false, .int .i64 0, .int .i64 0, .int .i64 0, .int .i64 0, .int .i64 0, .int .i64 0]) 30)) (w.heap.size + 1 + 1) 30 (#[.int .i64 0, .int .i64 0, .bool false, .int .i64 0, .int .i64 0, .int .i64 0, .int .i64 0, .bool false, .int .i64 0, .int .i64 0, .bool false, .int .i64 0, .int .i64 0, .int .i64 0, .int .i64 0, .int .i64 0, .int .i64 0]) := (Bx.new (W := ((w.alloc (.cells (bk x) 23)).alloc (.cells (lb a) 30))) _ _ (by simp))
  have B0 : Below w.heap.size w (((w.alloc (.cells (bk x) 23)).alloc (.cells (lb a) 30)).alloc (.cells (#[.int .i64 0, .int .i64 0, .bool false, .int .i64 0, .int .i64 0, .int .i64 0, .int .i64 0, .bool false, .int .i64 0, .int .i64 0, .bool false, .int .i64 0, .int .i64 0, .int .i64 0, .int .i64 0, .int .i64 0, .int .i64 0]) 30)) := b_al (b_al (b_al (Below.refl _ _) (Nat.le_refl _) _) (Nat.le_refl _) _) (Nat.le_refl _) _
  have HK := Lib.hid (h.below B0)
  have hmm := hr.1.1
  have q0 : (((w.alloc (.cells (bk x) 23)).alloc (.cells (lb a) 30)).alloc (.cells (#[.int .i64 0, .int .i64 0, .bool false, .int .i64 0, .int .i64 0, .int .i64 0, .int .i64 0, .bool false, .int .i64 0, .int .i64 0, .bool false, .int .i64 0, .int .i64 0, .int .i64 0, .int .i64 0, .int .i64 0, .int .i64 0]) 30)).cell? ⟨w.heap.size + 1, 0, none⟩ = some (.int .i64 a.1.now) := XL.lbN
  have gN : ¬ (40320 : Int) ≤ a.1.now := by omega
  have C1 := fun W => refstep_any x a.1 k W hr.1 (by omega) hx
  have C2 := fun W (h : RdK W A l) => refstep19_any A n c l hn a.2.1 a.2.2.1 a.2.2.2 a.1.now k W h few hl ok hr.2
  rw [show ((a.2.1, a.2.2.1, a.2.2.2) : Pt) = a.2 from rfl] at C2
  obtain ⟨m1, hm1⟩ : ∃ m1, stepM x a.1 k = m1 := ⟨_, rfl⟩
  obtain ⟨s1, hs1⟩ : ∃ s1, stepT l a.2 k = s1 := ⟨_, rfl⟩
  rw [hm1] at C1
  rw [hs1] at C2
  clear hm1 hs1
  rw [h0] at C2
  clear h0
  generalize b1 l a.2 k = v1 at C2
  generalize b2 l a.2 a.1.now k = v2 at C2
  generalize b3 a.2 k = v3 at C2
  rw [hs] at C1
  clear h few hl ok hx hr hN hn hmm hs
  go_enter Try.func11, Try.ntmps11
  go_wp2_with (first
    | go_skip
    | refine wpList_load_box (by rfl) 23 _ rfl (w.heap.size) rfl 23 (bk x) _ XB Try.underlying23 rfl (by kernel_rfl) ?_
    | refine wpList_loadG (by rfl) 26 _ rfl (w.heap.size + 1) (0) rfl (mt a.1) _ XL.lbM Try.underlying26 rfl (by kernel_rfl) ?_
    | (go_at_call 24; (with_reducible refine (C1 _).mono ?_); rintro e w1 ⟨rfl, hb1⟩; have XL1 := XL.below hb1; have XP1 := XP.below hb1; have HK1 := Lib.hid (HK.out.below hb1); have HB1 := Lib.hid (b_cl B0 (Nat.le_refl _) hb1); have hl1 := XP1.lt; clear q0)
    | (refine wpList_store_box rfl 26 _ _ rfl w1.heap.size (mt m1) rfl rfl 26 (mt .zero) (Bx.new (W := w1) 26 (mt .zero) rfl) (by kernel_rfl) rfl (mt_one _) (fun w2 u2 => ?_); have XM2 := u2.box; have b2 := ((b_al (Below.refl w1.heap.size w1) (Nat.le_refl _) _).trans (u2.bel _ (Nat.le_refl _))); have XL2 := XL1.below b2; have XP2 := XP1.below b2; have HK2 := Lib.hid (HK1.out.below b2); have HB2 := Lib.hid (b_cl HB1.out (Nat.le_refl _) b2); have q2 : w2.cell? ⟨w.heap.size + 1, 0, none⟩ = some (.int .i64 a.1.now) := XL2.lbN; have hl2 : w1.heap.size < w2.heap.size := XM2.lt; clear b2)
    | refine wpList_loadG (by rfl) 28 _ rfl (w.heap.size + 1) (14) rfl (sp3 a.2) _ XL2.lbS Try.underlying28 rfl (by kernel_rfl) ?_
    | (go_at_call 25; refine (C2 _ HK2.out).mono ?_; rintro e w3 ⟨rfl, hb3⟩; have XM3 := XM2.below hb3; have XP3 := XP2.below hb3; have HB3 := Lib.hid (b_cl HB2.out (Nat.le_refl _) hb3); have hl3 := hb3.size; clear q2)
    | (refine wpList_store_box rfl 28 _ _ rfl w3.heap.size (sp3 s1) rfl rfl 28 (sp3 (0, 0, 0)) ((Bx.new (W := w3) 28 (sp3 (0, 0, 0)) rfl).alloc (.cells #[.bool false, .bool false, .bool false, .bool false] 70)) (by kernel_rfl) rfl (one3 _ _ _) (fun w4 u4 => ?_); have XS4 := u4.box; have XA4 := u4.bx (Bx.new (W := w3.alloc (.cells (sp3 (0, 0, 0)) 28)) (g := w3.heap.size + 1) 70 #[.bool false, .bool false, .bool false, .bool false] (by simp)) (by omega); have b4 := ((b_al (b_al (Below.refl w3.heap.size w3) (Nat.le_refl _) (.cells (sp3 (0, 0, 0)) 28)) (by simp) (.cells #[.bool false, .bool false, .bool false, .bool false] 70)).trans (u4.bel _ (Nat.le_refl _))); have XM4 := XM3.below b4; have XP4 := XP3.below b4; have HB4 := Lib.hid (b_cl HB3.out (Nat.le_refl _) b4); clear b4)
    | (refine wpList_store_box rfl 70 _ _ rfl (w3.heap.size + 1) #[.bool true, .bool v1, .bool v2, .bool v3] rfl rfl 70 #[.bool false, .bool false, .bool false, .bool false] XA4 (by kernel_rfl) rfl (b4_one _ _ _ _) (fun w5 u5 => ?_); have XA5 := u5.box; have XS5 := u5.bx XS4 (by omega); have XM5 := u5.bx XM4 (by omega); have XP5 := u5.bx XP4 (by omega); have HB5 := Lib.hid (HB4.out.trans (u5.bel _ (by have := HB3.out.size; omega))); have y0 : w5.cell? ⟨w3.heap.size + 1, 0, none⟩ = some (.bool true) := XA5.cell rfl; have y1 : w5.cell? ⟨w3.heap.size + 1, 1, none⟩ = some (.bool v1) := XA5.cell rfl; have y2 : w5.cell? ⟨w3.heap.size + 1, 2, none⟩ = some (.bool v2) := XA5.cell rfl; have y3 : w5.cell? ⟨w3.heap.size + 1, 3, none⟩ = some (.bool v3) := XA5.cell rfl)
    | refine wpList_build_as rfl 30 _ rfl (lb lz) (by kernel_rfl) ?_
    | (refine wpList_store_box rfl 30 _ _ rfl (w.heap.size + 1 + 1) (lb lz) rfl rfl 30 (lb lz) (XP5) (by kernel_rfl) rfl (lb_one _) (fun w9 u9 => ?_); have XP9 := u9.box; have HB9 := Lib.hid (HB5.out.trans (u9.bel _ (by omega)))))
  refine bodyPost_ret (v := .tuple #[.agg (lb lz), .bool false]) (results_box2 Try.results11 _ _ (w.heap.size + 1 + 1) 30 (lb lz) _ _ rfl XP9 rfl Try.underlying30 rfl (by kernel_rfl)) rfl ⟨rfl, ?_⟩
  exact HB9.out

set_option maxRecDepth 100000 in
set_option maxHeartbeats 4000000 in
theorem rstep25_b1 (x : Nat → Int) (A : Option Addr) (n c : Nat) (l : List Tk) (hn : l.length = n) (a : Lb) (k : Int) (w : World) (h : RdK w A l) (few : Few l) (hl : n ≤ 2001) (ok : ∀ t ∈ l, TkOk t) (hx : May x) (hr : RightL l a) (hN : a.1.now ≠ 40320) (hs : stepC x a.1 k = 0) (h0 : b0 l a.2 k = false) (h1 : b1 l a.2 k = true) :
    Calls Try.prog 11 #[.agg (bk x), .slice A n c, .agg (lb a), .int .i64 k] w fun e w' => e = .returned (.tuple #[.agg (lb lz), .bool false]) ∧ Below w.heap.size w w' := by
  have XB : Bx (((w.alloc (.cells (bk x) 23)).alloc (.cells (lb a) 30)).alloc (.cells (#[.int .i64 0, .int .i64 0, .bool false, .int .i64 0, .int .i64 0, .int .i64 0, .int .i64 0, .bool false, .int .i64 0, .int .i64 0, .bool false, .int .i64 0, .int .i64 0, .int .i64 0, .int .i64 0, .int .i64 0, .int .i64 0]) 30)) (w.heap.size) 23 (bk x) := ((Bx.new (W := w) _ _ (by simp)).alloc _).alloc _
  have XL : Bx (((w.alloc (.cells (bk x) 23)).alloc (.cells (lb a) 30)).alloc (.cells (#[.int .i64 0, .int .i64 0, .bool false, .int .i64 0, .int .i64 0, .int .i64 0, .int .i64 0, .bool false, .int .i64 0, .int .i64 0, .bool false, .int .i64 0, .int .i64 0, .int .i64 0, .int .i64 0, .int .i64 0, .int .i64 0]) 30)) (w.heap.size + 1) 30 (lb a) := (Bx.new (W := (w.alloc (.cells (bk x) 23))) _ _ (by simp)).alloc _
  have XP : Bx (((w.alloc (.cells (bk x) 23)).alloc (.cells (lb a) 30)).alloc (.cells (#[.int .i64 0, .int .i64 0, .bool false, .int .i64 0, .int .i64 0, .int .i64 0, .int .i64 0, .bool false, .int .i64 0, .int .i64 0, .bool false, .int .i64 0, .int .i64 0, .int .i64 0, .int .i64 0, .int .i64 0, .int .i64 0]) 30)) (w.heap.size + 1 + 1) 30 (#[.int .i64 0, .int .i64 0, .bool false, .int .i64 0, .int .i64 0, .int .i64 0, .int .i64 0, .bool false, .int .i64 0, .int .i64 0, .bool false, .int .i64 0, .int .i64 0, .int .i64 0, .int .i64 0, .int .i64 0, .int .i64 0]) := (Bx.new (W := ((w.alloc (.cells (bk x) 23)).alloc (.cells (lb a) 30))) _ _ (by simp))
  have B0 : Below w.heap.size w (((w.alloc (.cells (bk x) 23)).alloc (.cells (lb a) 30)).alloc (.cells (#[.int .i64 0, .int .i64 0, .bool false, .int .i64 0, .int .i64 0, .int .i64 0, .int .i64 0, .bool false, .int .i64 0, .int .i64 0, .bool false, .int .i64 0, .int .i64 0, .int .i64 0, .int .i64 0, .int .i64 0, .int .i64 0]) 30)) := b_al (b_al (b_al (Below.refl _ _) (Nat.le_refl _) _) (Nat.le_refl _) _) (Nat.le_refl _) _
  have HK := Lib.hid (h.below B0)
  have hmm := hr.1.1
  have q0 : (((w.alloc (.cells (bk x) 23)).alloc (.cells (lb a) 30)).alloc (.cells (#[.int .i64 0, .int .i64 0, .bool false, .int .i64 0, .int .i64 0, .int .i64 0, .int .i64 0, .bool false, .int .i64 0, .int .i64 0, .bool false, .int .i64 0, .int .i64 0, .int .i64 0, .int .i64 0, .int .i64 0, .int .i64 0]) 30)).cell? ⟨w.heap.size + 1, 0, none⟩ = some (.int .i64 a.1.now) := XL.lbN
  have gN : ¬ (40320 : Int) ≤ a.1.now := by omega
  have C1 := fun W => refstep_any x a.1 k W hr.1 (by omega) hx
  have C2 := fun W (h : RdK W A l) => refstep19_any A n c l hn a.2.1 a.2.2.1 a.2.2.2 a.1.now k W h few hl ok hr.2
  rw [show ((a.2.1, a.2.2.1, a.2.2.2) : Pt) = a.2 from rfl] at C2
  obtain ⟨m1, hm1⟩ : ∃ m1, stepM x a.1 k = m1 := ⟨_, rfl⟩
  obtain ⟨s1, hs1⟩ : ∃ s1, stepT l a.2 k = s1 := ⟨_, rfl⟩
  rw [hm1] at C1
  rw [hs1] at C2
  clear hm1 hs1
  rw [h0] at C2
  clear h0
  rw [h1] at C2
  clear h1
  generalize b2 l a.2 a.1.now k = v2 at C2
  generalize b3 a.2 k = v3 at C2
  rw [hs] at C1
  clear h few hl ok hx hr hN hn hmm hs
  go_enter Try.func11, Try.ntmps11
  go_wp2_with (first
    | go_skip
    | refine wpList_load_box (by rfl) 23 _ rfl (w.heap.size) rfl 23 (bk x) _ XB Try.underlying23 rfl (by kernel_rfl) ?_
    | refine wpList_loadG (by rfl) 26 _ rfl (w.heap.size + 1) (0) rfl (mt a.1) _ XL.lbM Try.underlying26 rfl (by kernel_rfl) ?_
    | (go_at_call 24; (with_reducible refine (C1 _).mono ?_); rintro e w1 ⟨rfl, hb1⟩; have XL1 := XL.below hb1; have XP1 := XP.below hb1; have HK1 := Lib.hid (HK.out.below hb1); have HB1 := Lib.hid (b_cl B0 (Nat.le_refl _) hb1); have hl1 := XP1.lt; clear q0)
    | (refine wpList_store_box rfl 26 _ _ rfl w1.heap.size (mt m1) rfl rfl 26 (mt .zero) (Bx.new (W := w1) 26 (mt .zero) rfl) (by kernel_rfl) rfl (mt_one _) (fun w2 u2 => ?_); have XM2 := u2.box; have b2 := ((b_al (Below.refl w1.heap.size w1) (Nat.le_refl _) _).trans (u2.bel _ (Nat.le_refl _))); have XL2 := XL1.below b2; have XP2 := XP1.below b2; have HK2 := Lib.hid (HK1.out.below b2); have HB2 := Lib.hid (b_cl HB1.out (Nat.le_refl _) b2); have q2 : w2.cell? ⟨w.heap.size + 1, 0, none⟩ = some (.int .i64 a.1.now) := XL2.lbN; have hl2 : w1.heap.size < w2.heap.size := XM2.lt; clear b2)
    | refine wpList_loadG (by rfl) 28 _ rfl (w.heap.size + 1) (14) rfl (sp3 a.2) _ XL2.lbS Try.underlying28 rfl (by kernel_rfl) ?_
    | (go_at_call 25; refine (C2 _ HK2.out).mono ?_; rintro e w3 ⟨rfl, hb3⟩; have XM3 := XM2.below hb3; have XP3 := XP2.below hb3; have HB3 := Lib.hid (b_cl HB2.out (Nat.le_refl _) hb3); have hl3 := hb3.size; clear q2)
    | (refine wpList_store_box rfl 28 _ _ rfl w3.heap.size (sp3 s1) rfl rfl 28 (sp3 (0, 0, 0)) ((Bx.new (W := w3) 28 (sp3 (0, 0, 0)) rfl).alloc (.cells #[.bool false, .bool false, .bool false, .bool false] 70)) (by kernel_rfl) rfl (one3 _ _ _) (fun w4 u4 => ?_); have XS4 := u4.box; have XA4 := u4.bx (Bx.new (W := w3.alloc (.cells (sp3 (0, 0, 0)) 28)) (g := w3.heap.size + 1) 70 #[.bool false, .bool false, .bool false, .bool false] (by simp)) (by omega); have b4 := ((b_al (b_al (Below.refl w3.heap.size w3) (Nat.le_refl _) (.cells (sp3 (0, 0, 0)) 28)) (by simp) (.cells #[.bool false, .bool false, .bool false, .bool false] 70)).trans (u4.bel _ (Nat.le_refl _))); have XM4 := XM3.below b4; have XP4 := XP3.below b4; have HB4 := Lib.hid (b_cl HB3.out (Nat.le_refl _) b4); clear b4)
    | (refine wpList_store_box rfl 70 _ _ rfl (w3.heap.size + 1) #[.bool false, .bool true, .bool v2, .bool v3] rfl rfl 70 #[.bool false, .bool false, .bool false, .bool false] XA4 (by kernel_rfl) rfl (b4_one _ _ _ _) (fun w5 u5 => ?_); have XA5 := u5.box; have XS5 := u5.bx XS4 (by omega); have XM5 := u5.bx XM4 (by omega); have XP5 := u5.bx XP4 (by omega); have HB5 := Lib.hid (HB4.out.trans (u5.bel _ (by have := HB3.out.size; omega))); have y0 : w5.cell? ⟨w3.heap.size + 1, 0, none⟩ = some (.bool false) := XA5.cell rfl; have y1 : w5.cell? ⟨w3.heap.size + 1, 1, none⟩ = some (.bool true) := XA5.cell rfl; have y2 : w5.cell? ⟨w3.heap.size + 1, 2, none⟩ = some (.bool v2) := XA5.cell rfl; have y3 : w5.cell? ⟨w3.heap.size + 1, 3, none⟩ = some (.bool v3) := XA5.cell rfl)
    | refine wpList_build_as rfl 30 _ rfl (lb lz) (by kernel_rfl) ?_
    | (refine wpList_store_box rfl 30 _ _ rfl (w.heap.size + 1 + 1) (lb lz) rfl rfl 30 (lb lz) (XP5) (by kernel_rfl) rfl (lb_one _) (fun w9 u9 => ?_); have XP9 := u9.box; have HB9 := Lib.hid (HB5.out.trans (u9.bel _ (by omega)))))
  refine bodyPost_ret (v := .tuple #[.agg (lb lz), .bool false]) (results_box2 Try.results11 _ _ (w.heap.size + 1 + 1) 30 (lb lz) _ _ rfl XP9 rfl Try.underlying30 rfl (by kernel_rfl)) rfl ⟨rfl, ?_⟩
  exact HB9.out

set_option maxRecDepth 100000 in
set_option maxHeartbeats 4000000 in
theorem rstep25_b2 (x : Nat → Int) (A : Option Addr) (n c : Nat) (l : List Tk) (hn : l.length = n) (a : Lb) (k : Int) (w : World) (h : RdK w A l) (few : Few l) (hl : n ≤ 2001) (ok : ∀ t ∈ l, TkOk t) (hx : May x) (hr : RightL l a) (hN : a.1.now ≠ 40320) (hs : stepC x a.1 k = 0) (h0 : b0 l a.2 k = false) (h1 : b1 l a.2 k = false) (h2 : b2 l a.2 a.1.now k = true) :
    Calls Try.prog 11 #[.agg (bk x), .slice A n c, .agg (lb a), .int .i64 k] w fun e w' => e = .returned (.tuple #[.agg (lb lz), .bool false]) ∧ Below w.heap.size w w' := by
  have XB : Bx (((w.alloc (.cells (bk x) 23)).alloc (.cells (lb a) 30)).alloc (.cells (#[.int .i64 0, .int .i64 0, .bool false, .int .i64 0, .int .i64 0, .int .i64 0, .int .i64 0, .bool false, .int .i64 0, .int .i64 0, .bool false, .int .i64 0, .int .i64 0, .int .i64 0, .int .i64 0, .int .i64 0, .int .i64 0]) 30)) (w.heap.size) 23 (bk x) := ((Bx.new (W := w) _ _ (by simp)).alloc _).alloc _
  have XL : Bx (((w.alloc (.cells (bk x) 23)).alloc (.cells (lb a) 30)).alloc (.cells (#[.int .i64 0, .int .i64 0, .bool false, .int .i64 0, .int .i64 0, .int .i64 0, .int .i64 0, .bool false, .int .i64 0, .int .i64 0, .bool false, .int .i64 0, .int .i64 0, .int .i64 0, .int .i64 0, .int .i64 0, .int .i64 0]) 30)) (w.heap.size + 1) 30 (lb a) := (Bx.new (W := (w.alloc (.cells (bk x) 23))) _ _ (by simp)).alloc _
  have XP : Bx (((w.alloc (.cells (bk x) 23)).alloc (.cells (lb a) 30)).alloc (.cells (#[.int .i64 0, .int .i64 0, .bool false, .int .i64 0, .int .i64 0, .int .i64 0, .int .i64 0, .bool false, .int .i64 0, .int .i64 0, .bool false, .int .i64 0, .int .i64 0, .int .i64 0, .int .i64 0, .int .i64 0, .int .i64 0]) 30)) (w.heap.size + 1 + 1) 30 (#[.int .i64 0, .int .i64 0, .bool false, .int .i64 0, .int .i64 0, .int .i64 0, .int .i64 0, .bool false, .int .i64 0, .int .i64 0, .bool false, .int .i64 0, .int .i64 0, .int .i64 0, .int .i64 0, .int .i64 0, .int .i64 0]) := (Bx.new (W := ((w.alloc (.cells (bk x) 23)).alloc (.cells (lb a) 30))) _ _ (by simp))
  have B0 : Below w.heap.size w (((w.alloc (.cells (bk x) 23)).alloc (.cells (lb a) 30)).alloc (.cells (#[.int .i64 0, .int .i64 0, .bool false, .int .i64 0, .int .i64 0, .int .i64 0, .int .i64 0, .bool false, .int .i64 0, .int .i64 0, .bool false, .int .i64 0, .int .i64 0, .int .i64 0, .int .i64 0, .int .i64 0, .int .i64 0]) 30)) := b_al (b_al (b_al (Below.refl _ _) (Nat.le_refl _) _) (Nat.le_refl _) _) (Nat.le_refl _) _
  have HK := Lib.hid (h.below B0)
  have hmm := hr.1.1
  have q0 : (((w.alloc (.cells (bk x) 23)).alloc (.cells (lb a) 30)).alloc (.cells (#[.int .i64 0, .int .i64 0, .bool false, .int .i64 0, .int .i64 0, .int .i64 0, .int .i64 0, .bool false, .int .i64 0, .int .i64 0, .bool false, .int .i64 0, .int .i64 0, .int .i64 0, .int .i64 0, .int .i64 0, .int .i64 0]) 30)).cell? ⟨w.heap.size + 1, 0, none⟩ = some (.int .i64 a.1.now) := XL.lbN
  have gN : ¬ (40320 : Int) ≤ a.1.now := by omega
  have C1 := fun W => refstep_any x a.1 k W hr.1 (by omega) hx
  have C2 := fun W (h : RdK W A l) => refstep19_any A n c l hn a.2.1 a.2.2.1 a.2.2.2 a.1.now k W h few hl ok hr.2
  rw [show ((a.2.1, a.2.2.1, a.2.2.2) : Pt) = a.2 from rfl] at C2
  obtain ⟨m1, hm1⟩ : ∃ m1, stepM x a.1 k = m1 := ⟨_, rfl⟩
  obtain ⟨s1, hs1⟩ : ∃ s1, stepT l a.2 k = s1 := ⟨_, rfl⟩
  rw [hm1] at C1
  rw [hs1] at C2
  clear hm1 hs1
  rw [h0] at C2
  clear h0
  rw [h1] at C2
  clear h1
  rw [h2] at C2
  clear h2
  generalize b3 a.2 k = v3 at C2
  rw [hs] at C1
  clear h few hl ok hx hr hN hn hmm hs
  go_enter Try.func11, Try.ntmps11
  go_wp2_with (first
    | go_skip
    | refine wpList_load_box (by rfl) 23 _ rfl (w.heap.size) rfl 23 (bk x) _ XB Try.underlying23 rfl (by kernel_rfl) ?_
    | refine wpList_loadG (by rfl) 26 _ rfl (w.heap.size + 1) (0) rfl (mt a.1) _ XL.lbM Try.underlying26 rfl (by kernel_rfl) ?_
    | (go_at_call 24; (with_reducible refine (C1 _).mono ?_); rintro e w1 ⟨rfl, hb1⟩; have XL1 := XL.below hb1; have XP1 := XP.below hb1; have HK1 := Lib.hid (HK.out.below hb1); have HB1 := Lib.hid (b_cl B0 (Nat.le_refl _) hb1); have hl1 := XP1.lt; clear q0)
    | (refine wpList_store_box rfl 26 _ _ rfl w1.heap.size (mt m1) rfl rfl 26 (mt .zero) (Bx.new (W := w1) 26 (mt .zero) rfl) (by kernel_rfl) rfl (mt_one _) (fun w2 u2 => ?_); have XM2 := u2.box; have b2 := ((b_al (Below.refl w1.heap.size w1) (Nat.le_refl _) _).trans (u2.bel _ (Nat.le_refl _))); have XL2 := XL1.below b2; have XP2 := XP1.below b2; have HK2 := Lib.hid (HK1.out.below b2); have HB2 := Lib.hid (b_cl HB1.out (Nat.le_refl _) b2); have q2 : w2.cell? ⟨w.heap.size + 1, 0, none⟩ = some (.int .i64 a.1.now) := XL2.lbN; have hl2 : w1.heap.size < w2.heap.size := XM2.lt; clear b2)
    | refine wpList_loadG (by rfl) 28 _ rfl (w.heap.size + 1) (14) rfl (sp3 a.2) _ XL2.lbS Try.underlying28 rfl (by kernel_rfl) ?_
    | (go_at_call 25; refine (C2 _ HK2.out).mono ?_; rintro e w3 ⟨rfl, hb3⟩; have XM3 := XM2.below hb3; have XP3 := XP2.below hb3; have HB3 := Lib.hid (b_cl HB2.out (Nat.le_refl _) hb3); have hl3 := hb3.size; clear q2)
    | (refine wpList_store_box rfl 28 _ _ rfl w3.heap.size (sp3 s1) rfl rfl 28 (sp3 (0, 0, 0)) ((Bx.new (W := w3) 28 (sp3 (0, 0, 0)) rfl).alloc (.cells #[.bool false, .bool false, .bool false, .bool false] 70)) (by kernel_rfl) rfl (one3 _ _ _) (fun w4 u4 => ?_); have XS4 := u4.box; have XA4 := u4.bx (Bx.new (W := w3.alloc (.cells (sp3 (0, 0, 0)) 28)) (g := w3.heap.size + 1) 70 #[.bool false, .bool false, .bool false, .bool false] (by simp)) (by omega); have b4 := ((b_al (b_al (Below.refl w3.heap.size w3) (Nat.le_refl _) (.cells (sp3 (0, 0, 0)) 28)) (by simp) (.cells #[.bool false, .bool false, .bool false, .bool false] 70)).trans (u4.bel _ (Nat.le_refl _))); have XM4 := XM3.below b4; have XP4 := XP3.below b4; have HB4 := Lib.hid (b_cl HB3.out (Nat.le_refl _) b4); clear b4)
    | (refine wpList_store_box rfl 70 _ _ rfl (w3.heap.size + 1) #[.bool false, .bool false, .bool true, .bool v3] rfl rfl 70 #[.bool false, .bool false, .bool false, .bool false] XA4 (by kernel_rfl) rfl (b4_one _ _ _ _) (fun w5 u5 => ?_); have XA5 := u5.box; have XS5 := u5.bx XS4 (by omega); have XM5 := u5.bx XM4 (by omega); have XP5 := u5.bx XP4 (by omega); have HB5 := Lib.hid (HB4.out.trans (u5.bel _ (by have := HB3.out.size; omega))); have y0 : w5.cell? ⟨w3.heap.size + 1, 0, none⟩ = some (.bool false) := XA5.cell rfl; have y1 : w5.cell? ⟨w3.heap.size + 1, 1, none⟩ = some (.bool false) := XA5.cell rfl; have y2 : w5.cell? ⟨w3.heap.size + 1, 2, none⟩ = some (.bool true) := XA5.cell rfl; have y3 : w5.cell? ⟨w3.heap.size + 1, 3, none⟩ = some (.bool v3) := XA5.cell rfl)
    | refine wpList_build_as rfl 30 _ rfl (lb lz) (by kernel_rfl) ?_
    | (refine wpList_store_box rfl 30 _ _ rfl (w.heap.size + 1 + 1) (lb lz) rfl rfl 30 (lb lz) (XP5) (by kernel_rfl) rfl (lb_one _) (fun w9 u9 => ?_); have XP9 := u9.box; have HB9 := Lib.hid (HB5.out.trans (u9.bel _ (by omega)))))
  refine bodyPost_ret (v := .tuple #[.agg (lb lz), .bool false]) (results_box2 Try.results11 _ _ (w.heap.size + 1 + 1) 30 (lb lz) _ _ rfl XP9 rfl Try.underlying30 rfl (by kernel_rfl)) rfl ⟨rfl, ?_⟩
  exact HB9.out

set_option maxRecDepth 100000 in
set_option maxHeartbeats 4000000 in
theorem rstep25_b3 (x : Nat → Int) (A : Option Addr) (n c : Nat) (l : List Tk) (hn : l.length = n) (a : Lb) (k : Int) (w : World) (h : RdK w A l) (few : Few l) (hl : n ≤ 2001) (ok : ∀ t ∈ l, TkOk t) (hx : May x) (hr : RightL l a) (hN : a.1.now ≠ 40320) (hs : stepC x a.1 k = 0) (h0 : b0 l a.2 k = false) (h1 : b1 l a.2 k = false) (h2 : b2 l a.2 a.1.now k = false) (h3 : b3 a.2 k = true) :
    Calls Try.prog 11 #[.agg (bk x), .slice A n c, .agg (lb a), .int .i64 k] w fun e w' => e = .returned (.tuple #[.agg (lb lz), .bool false]) ∧ Below w.heap.size w w' := by
  have XB : Bx (((w.alloc (.cells (bk x) 23)).alloc (.cells (lb a) 30)).alloc (.cells (#[.int .i64 0, .int .i64 0, .bool false, .int .i64 0, .int .i64 0, .int .i64 0, .int .i64 0, .bool false, .int .i64 0, .int .i64 0, .bool false, .int .i64 0, .int .i64 0, .int .i64 0, .int .i64 0, .int .i64 0, .int .i64 0]) 30)) (w.heap.size) 23 (bk x) := ((Bx.new (W := w) _ _ (by simp)).alloc _).alloc _
  have XL : Bx (((w.alloc (.cells (bk x) 23)).alloc (.cells (lb a) 30)).alloc (.cells (#[.int .i64 0, .int .i64 0, .bool false, .int .i64 0, .int .i64 0, .int .i64 0, .int .i64 0, .bool false, .int .i64 0, .int .i64 0, .bool false, .int .i64 0, .int .i64 0, .int .i64 0, .int .i64 0, .int .i64 0, .int .i64 0]) 30)) (w.heap.size + 1) 30 (lb a) := (Bx.new (W := (w.alloc (.cells (bk x) 23))) _ _ (by simp)).alloc _
  have XP : Bx (((w.alloc (.cells (bk x) 23)).alloc (.cells (lb a) 30)).alloc (.cells (#[.int .i64 0, .int .i64 0, .bool false, .int .i64 0, .int .i64 0, .int .i64 0, .int .i64 0, .bool false, .int .i64 0, .int .i64 0, .bool false, .int .i64 0, .int .i64 0, .int .i64 0, .int .i64 0, .int .i64 0, .int .i64 0]) 30)) (w.heap.size + 1 + 1) 30 (#[.int .i64 0, .int .i64 0, .bool false, .int .i64 0, .int .i64 0, .int .i64 0, .int .i64 0, .bool false, .int .i64 0, .int .i64 0, .bool false, .int .i64 0, .int .i64 0, .int .i64 0, .int .i64 0, .int .i64 0, .int .i64 0]) := (Bx.new (W := ((w.alloc (.cells (bk x) 23)).alloc (.cells (lb a) 30))) _ _ (by simp))
  have B0 : Below w.heap.size w (((w.alloc (.cells (bk x) 23)).alloc (.cells (lb a) 30)).alloc (.cells (#[.int .i64 0, .int .i64 0, .bool false, .int .i64 0, .int .i64 0, .int .i64 0, .int .i64 0, .bool false, .int .i64 0, .int .i64 0, .bool false, .int .i64 0, .int .i64 0, .int .i64 0, .int .i64 0, .int .i64 0, .int .i64 0]) 30)) := b_al (b_al (b_al (Below.refl _ _) (Nat.le_refl _) _) (Nat.le_refl _) _) (Nat.le_refl _) _
  have HK := Lib.hid (h.below B0)
  have hmm := hr.1.1
  have q0 : (((w.alloc (.cells (bk x) 23)).alloc (.cells (lb a) 30)).alloc (.cells (#[.int .i64 0, .int .i64 0, .bool false, .int .i64 0, .int .i64 0, .int .i64 0, .int .i64 0, .bool false, .int .i64 0, .int .i64 0, .bool false, .int .i64 0, .int .i64 0, .int .i64 0, .int .i64 0, .int .i64 0, .int .i64 0]) 30)).cell? ⟨w.heap.size + 1, 0, none⟩ = some (.int .i64 a.1.now) := XL.lbN
  have gN : ¬ (40320 : Int) ≤ a.1.now := by omega
  have C1 := fun W => refstep_any x a.1 k W hr.1 (by omega) hx
  have C2 := fun W (h : RdK W A l) => refstep19_any A n c l hn a.2.1 a.2.2.1 a.2.2.2 a.1.now k W h few hl ok hr.2
  rw [show ((a.2.1, a.2.2.1, a.2.2.2) : Pt) = a.2 from rfl] at C2
  obtain ⟨m1, hm1⟩ : ∃ m1, stepM x a.1 k = m1 := ⟨_, rfl⟩
  obtain ⟨s1, hs1⟩ : ∃ s1, stepT l a.2 k = s1 := ⟨_, rfl⟩
  rw [hm1] at C1
  rw [hs1] at C2
  clear hm1 hs1
  rw [h0] at C2
  clear h0
  rw [h1] at C2
  clear h1
  rw [h2] at C2
  clear h2
  rw [h3] at C2
  clear h3
  rw [hs] at C1
  clear h few hl ok hx hr hN hn hmm hs
  go_enter Try.func11, Try.ntmps11
  go_wp2_with (first
    | go_skip
    | refine wpList_load_box (by rfl) 23 _ rfl (w.heap.size) rfl 23 (bk x) _ XB Try.underlying23 rfl (by kernel_rfl) ?_
    | refine wpList_loadG (by rfl) 26 _ rfl (w.heap.size + 1) (0) rfl (mt a.1) _ XL.lbM Try.underlying26 rfl (by kernel_rfl) ?_
    | (go_at_call 24; (with_reducible refine (C1 _).mono ?_); rintro e w1 ⟨rfl, hb1⟩; have XL1 := XL.below hb1; have XP1 := XP.below hb1; have HK1 := Lib.hid (HK.out.below hb1); have HB1 := Lib.hid (b_cl B0 (Nat.le_refl _) hb1); have hl1 := XP1.lt; clear q0)
    | (refine wpList_store_box rfl 26 _ _ rfl w1.heap.size (mt m1) rfl rfl 26 (mt .zero) (Bx.new (W := w1) 26 (mt .zero) rfl) (by kernel_rfl) rfl (mt_one _) (fun w2 u2 => ?_); have XM2 := u2.box; have b2 := ((b_al (Below.refl w1.heap.size w1) (Nat.le_refl _) _).trans (u2.bel _ (Nat.le_refl _))); have XL2 := XL1.below b2; have XP2 := XP1.below b2; have HK2 := Lib.hid (HK1.out.below b2); have HB2 := Lib.hid (b_cl HB1.out (Nat.le_refl _) b2); have q2 : w2.cell? ⟨w.heap.size + 1, 0, none⟩ = some (.int .i64 a.1.now) := XL2.lbN; have hl2 : w1.heap.size < w2.heap.size := XM2.lt; clear b2)
    | refine wpList_loadG (by rfl) 28 _ rfl (w.heap.size + 1) (14) rfl (sp3 a.2) _ XL2.lbS Try.underlying28 rfl (by kernel_rfl) ?_
    | (go_at_call 25; refine (C2 _ HK2.out).mono ?_; rintro e w3 ⟨rfl, hb3⟩; have XM3 := XM2.below hb3; have XP3 := XP2.below hb3; have HB3 := Lib.hid (b_cl HB2.out (Nat.le_refl _) hb3); have hl3 := hb3.size; clear q2)
    | (refine wpList_store_box rfl 28 _ _ rfl w3.heap.size (sp3 s1) rfl rfl 28 (sp3 (0, 0, 0)) ((Bx.new (W := w3) 28 (sp3 (0, 0, 0)) rfl).alloc (.cells #[.bool false, .bool false, .bool false, .bool false] 70)) (by kernel_rfl) rfl (one3 _ _ _) (fun w4 u4 => ?_); have XS4 := u4.box; have XA4 := u4.bx (Bx.new (W := w3.alloc (.cells (sp3 (0, 0, 0)) 28)) (g := w3.heap.size + 1) 70 #[.bool false, .bool false, .bool false, .bool false] (by simp)) (by omega); have b4 := ((b_al (b_al (Below.refl w3.heap.size w3) (Nat.le_refl _) (.cells (sp3 (0, 0, 0)) 28)) (by simp) (.cells #[.bool false, .bool false, .bool false, .bool false] 70)).trans (u4.bel _ (Nat.le_refl _))); have XM4 := XM3.below b4; have XP4 := XP3.below b4; have HB4 := Lib.hid (b_cl HB3.out (Nat.le_refl _) b4); clear b4)
    | (refine wpList_store_box rfl 70 _ _ rfl (w3.heap.size + 1) #[.bool false, .bool false, .bool false, .bool true] rfl rfl 70 #[.bool false, .bool false, .bool false, .bool false] XA4 (by kernel_rfl) rfl (b4_one _ _ _ _) (fun w5 u5 => ?_); have XA5 := u5.box; have XS5 := u5.bx XS4 (by omega); have XM5 := u5.bx XM4 (by omega); have XP5 := u5.bx XP4 (by omega); have HB5 := Lib.hid (HB4.out.trans (u5.bel _ (by have := HB3.out.size; omega))); have y0 : w5.cell? ⟨w3.heap.size + 1, 0, none⟩ = some (.bool false) := XA5.cell rfl; have y1 : w5.cell? ⟨w3.heap.size + 1, 1, none⟩ = some (.bool false) := XA5.cell rfl; have y2 : w5.cell? ⟨w3.heap.size + 1, 2, none⟩ = some (.bool false) := XA5.cell rfl; have y3 : w5.cell? ⟨w3.heap.size + 1, 3, none⟩ = some (.bool true) := XA5.cell rfl)
    | refine wpList_build_as rfl 30 _ rfl (lb lz) (by kernel_rfl) ?_
    | (refine wpList_store_box rfl 30 _ _ rfl (w.heap.size + 1 + 1) (lb lz) rfl rfl 30 (lb lz) (XP5) (by kernel_rfl) rfl (lb_one _) (fun w9 u9 => ?_); have XP9 := u9.box; have HB9 := Lib.hid (HB5.out.trans (u9.bel _ (by omega)))))
  refine bodyPost_ret (v := .tuple #[.agg (lb lz), .bool false]) (results_box2 Try.results11 _ _ (w.heap.size + 1 + 1) 30 (lb lz) _ _ rfl XP9 rfl Try.underlying30 rfl (by kernel_rfl)) rfl ⟨rfl, ?_⟩
  exact HB9.out

set_option maxRecDepth 100000 in
set_option maxHeartbeats 4000000 in
theorem rstep25_go (x : Nat → Int) (A : Option Addr) (n c : Nat) (l : List Tk) (hn : l.length = n) (a : Lb) (k : Int) (w : World) (h : RdK w A l) (few : Few l) (hl : n ≤ 2001) (ok : ∀ t ∈ l, TkOk t) (hx : May x) (hr : RightL l a) (hN : a.1.now ≠ 40320) (hs : stepC x a.1 k = 0) (h0 : b0 l a.2 k = false) (h1 : b1 l a.2 k = false) (h2 : b2 l a.2 a.1.now k = false) (h3 : b3 a.2 k = false) :
    Calls Try.prog 11 #[.agg (bk x), .slice A n c, .agg (lb a), .int .i64 k] w fun e w' => e = .returned (.tuple #[.agg (lb (nextB x l a k)), .bool true]) ∧ Below w.heap.size w w' := by
  have XB : Bx (((w.alloc (.cells (bk x) 23)).alloc (.cells (lb a) 30)).alloc (.cells (#[.int .i64 0, .int .i64 0, .bool false, .int .i64 0, .int .i64 0, .int .i64 0, .int .i64 0, .bool false, .int .i64 0, .int .i64 0, .bool false, .int .i64 0, .int .i64 0, .int .i64 0, .int .i64 0, .int .i64 0, .int .i64 0]) 30)) (w.heap.size) 23 (bk x) := ((Bx.new (W := w) _ _ (by simp)).alloc _).alloc _
  have XL : Bx (((w.alloc (.cells (bk x) 23)).alloc (.cells (lb a) 30)).alloc (.cells (#[.int .i64 0, .int .i64 0, .bool false, .int .i64 0, .int .i64 0, .int .i64 0, .int .i64 0, .bool false, .int .i64 0, .int .i64 0, .bool false, .int .i64 0, .int .i64 0, .int .i64 0, .int .i64 0, .int .i64 0, .int .i64 0]) 30)) (w.heap.size + 1) 30 (lb a) := (Bx.new (W := (w.alloc (.cells (bk x) 23))) _ _ (by simp)).alloc _
  have XP : Bx (((w.alloc (.cells (bk x) 23)).alloc (.cells (lb a) 30)).alloc (.cells (#[.int .i64 0, .int .i64 0, .bool false, .int .i64 0, .int .i64 0, .int .i64 0, .int .i64 0, .bool false, .int .i64 0, .int .i64 0, .bool false, .int .i64 0, .int .i64 0, .int .i64 0, .int .i64 0, .int .i64 0, .int .i64 0]) 30)) (w.heap.size + 1 + 1) 30 (#[.int .i64 0, .int .i64 0, .bool false, .int .i64 0, .int .i64 0, .int .i64 0, .int .i64 0, .bool false, .int .i64 0, .int .i64 0, .bool false, .int .i64 0, .int .i64 0, .int .i64 0, .int .i64 0, .int .i64 0, .int .i64 0]) := (Bx.new (W := ((w.alloc (.cells (bk x) 23)).alloc (.cells (lb a) 30))) _ _ (by simp))
  have B0 : Below w.heap.size w (((w.alloc (.cells (bk x) 23)).alloc (.cells (lb a) 30)).alloc (.cells (#[.int .i64 0, .int .i64 0, .bool false, .int .i64 0, .int .i64 0, .int .i64 0, .int .i64 0, .bool false, .int .i64 0, .int .i64 0, .bool false, .int .i64 0, .int .i64 0, .int .i64 0, .int .i64 0, .int .i64 0, .int .i64 0]) 30)) := b_al (b_al (b_al (Below.refl _ _) (Nat.le_refl _) _) (Nat.le_refl _) _) (Nat.le_refl _) _
  have HK := Lib.hid (h.below B0)
  have hmm := hr.1.1
  have q0 : (((w.alloc (.cells (bk x) 23)).alloc (.cells (lb a) 30)).alloc (.cells (#[.int .i64 0, .int .i64 0, .bool false, .int .i64 0, .int .i64 0, .int .i64 0, .int .i64 0, .bool false, .int .i64 0, .int .i64 0, .bool false, .int .i64 0, .int .i64 0, .int .i64 0, .int .i64 0, .int .i64 0, .int .i64 0]) 30)).cell? ⟨w.heap.size + 1, 0, none⟩ = some (.int .i64 a.1.now) := XL.lbN
  have gN : ¬ (40320 : Int) ≤ a.1.now := by omega
  have C1 := fun W => refstep_any x a.1 k W hr.1 (by omega) hx
  have C2 := fun W (h : RdK W A l) => refstep19_any A n c l hn a.2.1 a.2.2.1 a.2.2.2 a.1.now k W h few hl ok hr.2
  rw [show ((a.2.1, a.2.2.1, a.2.2.2) : Pt) = a.2 from rfl] at C2
  show Calls _ _ _ _ fun e w' => e = .returned (.tuple #[.agg (lb (stepM x a.1 k, stepT l a.2 k)), .bool true]) ∧ Below w.heap.size w w'
  obtain ⟨m1, hm1⟩ : ∃ m1, stepM x a.1 k = m1 := ⟨_, rfl⟩
  obtain ⟨s1, hs1⟩ : ∃ s1, stepT l a.2 k = s1 := ⟨_, rfl⟩
  rw [hm1] at C1 ⊢
  rw [hs1] at C2 ⊢
  clear hm1 hs1
  rw [h0] at C2
  clear h0
  rw [h1] at C2
  clear h1
  rw [h2] at C2
  clear h2
  rw [h3] at C2
  clear h3
  rw [hs] at C1
  clear h few hl ok hx hr hN hn hmm hs
  go_enter Try.func11, Try.ntmps11
  go_wp2_with (first
    | go_skip
    | refine wpList_load_box (by rfl) 23 _ rfl (w.heap.size) rfl 23 (bk x) _ XB Try.underlying23 rfl (by kernel_rfl) ?_
    | refine wpList_loadG (by rfl) 26 _ rfl (w.heap.size + 1) (0) rfl (mt a.1) _ XL.lbM Try.underlying26 rfl (by kernel_rfl) ?_
    | (go_at_call 24; (with_reducible refine (C1 _).mono ?_); rintro e w1 ⟨rfl, hb1⟩; have XL1 := XL.below hb1; have XP1 := XP.below hb1; have HK1 := Lib.hid (HK.out.below hb1); have HB1 := Lib.hid (b_cl B0 (Nat.le_refl _) hb1); have hl1 := XP1.lt; clear q0)
    | (refine wpList_store_box rfl 26 _ _ rfl w1.heap.size (mt m1) rfl rfl 26 (mt .zero) (Bx.new (W := w1) 26 (mt .zero) rfl) (by kernel_rfl) rfl (mt_one _) (fun w2 u2 => ?_); have XM2 := u2.box; have b2 := ((b_al (Below.refl w1.heap.size w1) (Nat.le_refl _) _).trans (u2.bel _ (Nat.le_refl _))); have XL2 := XL1.below b2; have XP2 := XP1.below b2; have HK2 := Lib.hid (HK1.out.below b2); have HB2 := Lib.hid (b_cl HB1.out (Nat.le_refl _) b2); have q2 : w2.cell? ⟨w.heap.size + 1, 0, none⟩ = some (.int .i64 a.1.now) := XL2.lbN; have hl2 : w1.heap.size < w2.heap.size := XM2.lt; clear b2)
    | refine wpList_loadG (by rfl) 28 _ rfl (w.heap.size + 1) (14) rfl (sp3 a.2) _ XL2.lbS Try.underlying28 rfl (by kernel_rfl) ?_
    | (go_at_call 25; refine (C2 _ HK2.out).mono ?_; rintro e w3 ⟨rfl, hb3⟩; have XM3 := XM2.below hb3; have XP3 := XP2.below hb3; have HB3 := Lib.hid (b_cl HB2.out (Nat.le_refl _) hb3); have hl3 := hb3.size; clear q2)
    | (refine wpList_store_box rfl 28 _ _ rfl w3.heap.size (sp3 s1) rfl rfl 28 (sp3 (0, 0, 0)) ((Bx.new (W := w3) 28 (sp3 (0, 0, 0)) rfl).alloc (.cells #[.bool false, .bool false, .bool false, .bool false] 70)) (by kernel_rfl) rfl (one3 _ _ _) (fun w4 u4 => ?_); have XS4 := u4.box; have XA4 := u4.bx (Bx.new (W := w3.alloc (.cells (sp3 (0, 0, 0)) 28)) (g := w3.heap.size + 1) 70 #[.bool false, .bool false, .bool false, .bool false] (by simp)) (by omega); have b4 := ((b_al (b_al (Below.refl w3.heap.size w3) (Nat.le_refl _) (.cells (sp3 (0, 0, 0)) 28)) (by simp) (.cells #[.bool false, .bool false, .bool false, .bool false] 70)).trans (u4.bel _ (Nat.le_refl _))); have XM4 := XM3.below b4; have XP4 := XP3.below b4; have HB4 := Lib.hid (b_cl HB3.out (Nat.le_refl _) b4); clear b4)
    | (refine wpList_store_box rfl 70 _ _ rfl (w3.heap.size + 1) #[.bool false, .bool false, .bool false, .bool false] rfl rfl 70 #[.bool false, .bool false, .bool false, .bool false] XA4 (by kernel_rfl) rfl (b4_one _ _ _ _) (fun w5 u5 => ?_); have XA5 := u5.box; have XS5 := u5.bx XS4 (by omega); have XM5 := u5.bx XM4 (by omega); have XP5 := u5.bx XP4 (by omega); have HB5 := Lib.hid (HB4.out.trans (u5.bel _ (by have := HB3.out.size; omega))); have y0 : w5.cell? ⟨w3.heap.size + 1, 0, none⟩ = some (.bool false) := XA5.cell rfl; have y1 : w5.cell? ⟨w3.heap.size + 1, 1, none⟩ = some (.bool false) := XA5.cell rfl; have y2 : w5.cell? ⟨w3.heap.size + 1, 2, none⟩ = some (.bool false) := XA5.cell rfl; have y3 : w5.cell? ⟨w3.heap.size + 1, 3, none⟩ = some (.bool false) := XA5.cell rfl)
    | refine wpList_load_box (by rfl) 26 _ rfl (w1.heap.size) rfl 26 (mt m1) _ XM5 Try.underlying26 rfl (by kernel_rfl) ?_
    | refine wpList_load_box (by rfl) 28 _ rfl (w3.heap.size) rfl 28 (sp3 s1) _ XS5 Try.underlying28 rfl (by kernel_rfl) ?_
    | refine wpList_build_as rfl 30 _ rfl (lb (m1, s1)) (by kernel_rfl) ?_
    | (refine wpList_store_box rfl 30 _ _ rfl (w.heap.size + 1 + 1) (lb (m1, s1)) rfl rfl 30 (lb lz) (XP5) (by kernel_rfl) rfl (lb_one _) (fun w9 u9 => ?_); have XP9 := u9.box; have HB9 := Lib.hid (HB5.out.trans (u9.bel _ (by omega)))))
  refine bodyPost_ret (v := .tuple #[.agg (lb (m1, s1)), .bool true]) (results_box2 Try.results11 _ _ (w.heap.size + 1 + 1) 30 (lb (m1, s1)) _ _ rfl XP9 rfl Try.underlying30 rfl (by kernel_rfl)) rfl ⟨rfl, ?_⟩
  exact HB9.out

theorem refstep25_any (x : Nat → Int) (A : Option Addr) (n c : Nat) (l : List Tk) (hn : l.length = n) (a : Lb) (k : Int) (w : World) (h : RdK w A l) (few : Few l) (hl : n ≤ 2001) (ok : ∀ t ∈ l, TkOk t) (hx : May x) (hr : RightL l a) (hk : 0 ≤ k ∧ k ≤ 3) :
    Calls Try.prog 11 #[.agg (bk x), .slice A n c, .agg (lb a), .int .i64 k] w fun e w' => e = .returned (.tuple #[.agg (lb (stepV25 x l a k).1), .bool (stepV25 x l a k).2]) ∧ Below w.heap.size w w' := by
  by_cases hN : a.1.now = 40320
  · rw [stepV25_no (fun g => g.2.1 hN)]
    exact rstep25_end x A n c l hn a k w h few hl ok hx hr hN
  by_cases hs : stepC x a.1 k = 0
  case neg =>
    rw [stepV25_no (fun g => hs g.2.2.1)]
    exact rstep25_set x A n c l hn a k w h few hl ok hx hr hN hs
  have no : freeT l a.2 a.1.now k = false → ¬ goes x l a k := fun e g => by have := g.2.2.2; rw [e] at this; cases this
  cases h0 : b0 l a.2 k with
  | true =>
    rw [stepV25_no (no (by unfold freeT; rw [h0]; rfl))]
    exact rstep25_b0 x A n c l hn a k w h few hl ok hx hr hN hs h0
  | false =>
  cases h1 : b1 l a.2 k with
  | true =>
    rw [stepV25_no (no (by unfold freeT; rw [h0, h1]; rfl))]
    exact rstep25_b1 x A n c l hn a k w h few hl ok hx hr hN hs h0 h1
  | false =>
  cases h2 : b2 l a.2 a.1.now k with
  | true =>
    rw [stepV25_no (no (by unfold freeT; rw [h0, h1, h2]; rfl))]
    exact rstep25_b2 x A n c l hn a k w h few hl ok hx hr hN hs h0 h1 h2
  | false =>
  cases h3 : b3 a.2 k with
  | true =>
    rw [stepV25_no (no (by unfold freeT; rw [h0, h1, h2, h3]; rfl))]
    exact rstep25_b3 x A n c l hn a k w h few hl ok hx hr hN hs h0 h1 h2 h3
  | false =>
    rw [stepV25_yes ⟨hk, hN, hs, by unfold freeT; rw [h0, h1, h2, h3]; rfl⟩]
    exact rstep25_go x A n c l hn a k w h few hl ok hx hr hN hs h0 h1 h2 h3

end Go.Proofs.Ytolbihfnogbjaaa
