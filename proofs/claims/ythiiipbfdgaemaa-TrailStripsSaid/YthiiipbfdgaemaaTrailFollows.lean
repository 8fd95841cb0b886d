/- What Audit and Follows of layer 20 return, whatever is handed in. Conditions: the tasks and records can be read. -/
import Derived.Test.YthiiipbfdgaemaaRows
import Derived.Test.YthiiipbfdgaemaaZ1
import Derived.Test.YthiiipbfdgaemaaZ2
import Derived.Test.YthiiipbfdgaemaaErrandPast
import Derived.Test.YthiiipbfdgaemaaErrandFits
import Derived.Test.YthiiipbfdgaemaaErrandSpot
import Derived.Test.YthiiipbfdgaemaaErrandLeftC
import Derived.Test.YthiiipbfdgaemaaErrandOverC
import Derived.Test.YthiiipbfdgaemaaZ4
import Derived.Test.YthiiipbfdgaemaaTrailLeaf
import Derived.Test.YthiiipbfdgaemaaZ5
import Derived.Test.YthiiipbfdgaemaaTrailAudit
import Derived.WalkKit
import Derived.WalkSpells
import Derived.WalkSmall
import Derived.Below
import Derived.Lib.Hide
import Derived.Outline
import Derived.Deep.DeepCutAuto
import Derived.OwnWalk
import Derived.BigQuiet
import Derived.Deep.QuietTactic
import Derived.Deep.LoopGhost
import Derived.WalkMore
import Derived.OrdersHeld
import Derived.Deep.RegionHeld3
namespace Go.Proofs.Ythiiipbfdgaemaa
open Go.RowKit

theorem audit20_any (A : Option Addr) (n c : Nat) (l : List Tk) (hn : l.length = n) (i x y : Int) (A' : Option Addr) (n' c' : Nat) (r : List Rc) (hn' : r.length = n') (w : World) (h : RdK w A l) (hf : Few l) (hcn : n ≤ c) (hz : A = none → c = 0)
    (hx : -9223372036854775808 ≤ x ∧ x ≤ 9223372036854775807) (hy : -9223372036854775808 ≤ y ∧ y ≤ 9223372036854775807) (hr : RdR w A' r) (hl : n' ≤ 4611686018427387904) {p : Pt} {fl : List Rc} {er : Int} (hV : audV l (i, x, y) r = (p, fl, er)) {m : Nat} (hm : fl.length = m) :
    Calls Try.prog 8 #[.slice A n c, .agg #[.int .i64 i, .int .i64 x, .int .i64 y], .slice A' n' c'] w fun e w' => ∃ A2 c2, e = .returned (.tuple #[.agg (sp3 p), .slice A2 m c2, .int .i64 er]) ∧ RdF w' A2 fl ∧ (A2 = none → c2 = 0) ∧ Below w.heap.size w w' := by
  have C : Calls Try.prog 8 #[.slice A n c, .agg #[.int .i64 i, .int .i64 x, .int .i64 y], .slice A' n' c'] w fun e w' => ∃ A2 m2 c2, e = .returned (.tuple #[.agg (sp3 (audV l (i, x, y) r).1), .slice A2 m2 c2, .int .i64 (audV l (i, x, y) r).2.2]) ∧ (audV l (i, x, y) r).2.1.length = m2 ∧ RdF w' A2 (audV l (i, x, y) r).2.1 ∧ (A2 = none → c2 = 0) ∧ Below w.heap.size w w' := by
    by_cases he : checkE l (i, x, y) r = 0
    · exact audit20_good A n c l hn i x y A' n' c' r hn' w h hf hcn hz hx hy hr hl he
    · exact audit20_bad A n c l hn i x y A' n' c' r hn' w h hf hcn hz hx hy hr hl rfl he
  rw [hV] at C
  refine C.mono ?_
  rintro e w' ⟨A2, m2, c2, rfl, h1, h2, h3, h4⟩
  simp only at h1
  rw [hm] at h1
  subst h1
  exact ⟨A2, c2, rfl, h2, h3, h4⟩

set_option maxRecDepth 20000 in
set_option maxHeartbeats 2000000 in
theorem follows20_any (A : Option Addr) (n c : Nat) (l : List Tk) (hn : l.length = n) (i x y : Int) (A' : Option Addr) (n' c' : Nat) (r : List Rc) (hn' : r.length = n') (w : World) (h : RdK w A l) (hf : Few l) (hcn : n ≤ c) (hz : A = none → c = 0)
    (hx : -9223372036854775808 ≤ x ∧ x ≤ 9223372036854775807) (hy : -9223372036854775808 ≤ y ∧ y ≤ 9223372036854775807) (hr : RdR w A' r) (hl : n' ≤ 4611686018427387904) {p : Pt} {fl : List Rc} {er : Int} (hV : audV l (i, x, y) r = (p, fl, er)) :
    Calls Try.prog 11 #[.slice A n c, .agg #[.int .i64 i, .int .i64 x, .int .i64 y], .slice A' n' c'] w fun e w' => e = .returned (.bool (decide (er = 0 ∧ fl = []))) ∧ Below w.heap.size w w' := by
  obtain ⟨m, hm⟩ : ∃ m, fl.length = m := ⟨_, rfl⟩
  have CA := fun W (h : RdK W A l) (hr : RdR W A' r) => audit20_any A n c l hn i x y A' n' c' r hn' W h hf hcn hz hx hy hr hl hV hm
  have HK := Lib.hid h
  have HR := Lib.hid hr
  have HS0 := Lib.hid (show Bx (w.alloc (.cells #[.int .i64 i, .int .i64 x, .int .i64 y] 24)) w.heap.size 24 #[.int .i64 i, .int .i64 x, .int .i64 y] from Bx.new (W := w) _ _ rfl)
  have HB0 := Lib.hid (show Below w.heap.size w (w.alloc (.cells #[.int .i64 i, .int .i64 x, .int .i64 y] 24)) by (repeat (first | exact Below.refl _ _ | (refine b_st ?_ (by first | (simp; done) | (simp; omega))) | (refine b_al ?_ (Nat.le_refl _) _) | refine b_dn ?_ | refine b_dr ?_ | (refine b_cl ?_ (Nat.le_refl _) (by assumption)))))
  by_cases h0 : er = 0
  · subst h0
    by_cases h1 : m = 0
    · subst h1
      have hnil := List.eq_nil_of_length_eq_zero hm
      have e1 : decide ((0 : Int) = 0 ∧ fl = []) = true := decide_eq_true ⟨rfl, hnil⟩
      rw [e1]
      clear h hr hn hn' hf hcn hz hx hy hV hm hnil e1
      go_enter Try.func11, Try.ntmps11
      go_upto_region 1 with fail
      generalize (w.alloc (.cells #[.int .i64 i, .int .i64 x, .int .i64 y] 24)) = W0 at *
      go_wp2_with (first | go_skip | (refine wpList_load_box (by rfl) 24 _ rfl w.heap.size rfl 24 #[.int .i64 i, .int .i64 x, .int .i64 y] _ HS0.out Try.underlying24 rfl size_spot ?_) | (go_at_call 8; refine (CA _ (HK.out.below HB0.out) (HR.out.below HB0.out)).mono ?_; rintro e w1 ⟨A2, c2, rfl, hrd, hz2, hb1⟩; have HB1 := Lib.hid (b_cl HB0.out (Nat.le_refl _) hb1); have lt1 := (HS0.out.below hb1).lt; have HX1 := Lib.hid (Bx.new (W := w1) 24 #[.int .i64 0, .int .i64 0, .int .i64 0] rfl); clear hb1) | (refine wpList_store_box rfl 24 _ _ rfl w1.heap.size (sp3 p) rfl rfl 24 #[.int .i64 0, .int .i64 0, .int .i64 0] HX1.out size_spot rfl (one3 _ _ _) (fun w2 u2 => ?_)))
      go_ret
      exact ⟨rfl, (b_al HB1.out (Nat.le_refl _) _).trans (u2.bel _ (by omega))⟩
    · have hne : fl ≠ [] := by rintro rfl; exact h1 hm.symm
      have e1 : decide ((0 : Int) = 0 ∧ fl = []) = false := decide_eq_false (fun k => hne k.2)
      rw [e1]
      have h2 : ((m : Int) == 0) = false := by simp [h1]
      have h3 : ¬ (m : Int) = 0 := by omega
      clear h hr hn hn' hf hcn hz hx hy hV hm hne e1 h1
      go_enter Try.func11, Try.ntmps11
      go_upto_region 1 with fail
      generalize (w.alloc (.cells #[.int .i64 i, .int .i64 x, .int .i64 y] 24)) = W0 at *
      go_wp2_with (first | go_skip | (refine wpList_load_box (by rfl) 24 _ rfl w.heap.size rfl 24 #[.int .i64 i, .int .i64 x, .int .i64 y] _ HS0.out Try.underlying24 rfl size_spot ?_) | (go_at_call 8; refine (CA _ (HK.out.below HB0.out) (HR.out.below HB0.out)).mono ?_; rintro e w1 ⟨A2, c2, rfl, hrd, hz2, hb1⟩; have HB1 := Lib.hid (b_cl HB0.out (Nat.le_refl _) hb1); have lt1 := (HS0.out.below hb1).lt; have HX1 := Lib.hid (Bx.new (W := w1) 24 #[.int .i64 0, .int .i64 0, .int .i64 0] rfl); clear hb1) | (refine wpList_store_box rfl 24 _ _ rfl w1.heap.size (sp3 p) rfl rfl 24 #[.int .i64 0, .int .i64 0, .int .i64 0] HX1.out size_spot rfl (one3 _ _ _) (fun w2 u2 => ?_)))
      go_ret
      exact ⟨rfl, (b_al HB1.out (Nat.le_refl _) _).trans (u2.bel _ (by omega))⟩
  · have e1 : decide (er = 0 ∧ fl = []) = false := decide_eq_false (fun k => h0 k.1)
    rw [e1]
    have h2 : (er == 0) = false := by simp [h0]
    clear h hr hn hn' hf hcn hz hx hy hV hm e1
    go_enter Try.func11, Try.ntmps11
    go_upto_region 1 with fail
    generalize (w.alloc (.cells #[.int .i64 i, .int .i64 x, .int .i64 y] 24)) = W0 at *
    go_wp2_with (first | go_skip | (refine wpList_load_box (by rfl) 24 _ rfl w.heap.size rfl 24 #[.int .i64 i, .int .i64 x, .int .i64 y] _ HS0.out Try.underlying24 rfl size_spot ?_) | (go_at_call 8; refine (CA _ (HK.out.below HB0.out) (HR.out.below HB0.out)).mono ?_; rintro e w1 ⟨A2, c2, rfl, hrd, hz2, hb1⟩; have HB1 := Lib.hid (b_cl HB0.out (Nat.le_refl _) hb1); have lt1 := (HS0.out.below hb1).lt; have HX1 := Lib.hid (Bx.new (W := w1) 24 #[.int .i64 0, .int .i64 0, .int .i64 0] rfl); clear hb1) | (refine wpList_store_box rfl 24 _ _ rfl w1.heap.size (sp3 p) rfl rfl 24 #[.int .i64 0, .int .i64 0, .int .i64 0] HX1.out size_spot rfl (one3 _ _ _) (fun w2 u2 => ?_)))
    go_ret
    exact ⟨rfl, (b_al HB1.out (Nat.le_refl _) _).trans (u2.bel _ (by omega))⟩

end Go.Proofs.Ythiiipbfdgaemaa
