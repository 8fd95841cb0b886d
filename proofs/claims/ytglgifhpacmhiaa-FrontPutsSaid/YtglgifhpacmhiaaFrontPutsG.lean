/- The law FrontPuts where the book may be. Conditions: at most forty meters. -/
import Derived.Test.YtglgifhpacmhiaaBase
import Derived.Test.YtglgifhpacmhiaaRow
import Derived.Test.YtglgifhpacmhiaaBookRow
import Derived.Test.YtglgifhpacmhiaaBookLim
import Derived.Test.YtglgifhpacmhiaaBookLaws
import Derived.Test.YtglgifhpacmhiaaBookOpen
import Derived.Test.YtglgifhpacmhiaaRecMath
import Derived.Test.YtglgifhpacmhiaaBox
import Derived.Test.YtglgifhpacmhiaaBoxRes
import Derived.Test.YtglgifhpacmhiaaChg
import Derived.Test.YtglgifhpacmhiaaSpellMath
import Derived.Test.YtglgifhpacmhiaaMeterMath
import Derived.Test.YtglgifhpacmhiaaMeterChk
import Derived.Test.YtglgifhpacmhiaaBelowMath
import Derived.Test.YtglgifhpacmhiaaBelowC
import Derived.Test.YtglgifhpacmhiaaSortMath
import Derived.Test.YtglgifhpacmhiaaWide
import Derived.Test.YtglgifhpacmhiaaFrontMath
import Derived.Test.YtglgifhpacmhiaaFrontEq
import Derived.Test.YtglgifhpacmhiaaFrontMap
import Derived.Test.YtglgifhpacmhiaaFrontHeap
import Derived.Test.YtglgifhpacmhiaaFrontForm
import Derived.Test.YtglgifhpacmhiaaFrontLib
import Derived.Test.YtglgifhpacmhiaaFrontSet
import Derived.Test.YtglgifhpacmhiaaFrontFn
import Derived.Test.YtglgifhpacmhiaaFrontPut
import Derived.Test.YtglgifhpacmhiaaFrontLen
import Derived.Test.YtglgifhpacmhiaaFrontAlive
import Derived.Test.YtglgifhpacmhiaaFrontOpen
import Derived.Test.YtglgifhpacmhiaaSpotSort
import Derived.Test.YtglgifhpacmhiaaFrontRef
import Derived.Test.YtglgifhpacmhiaaFrontRefS
import Derived.Test.YtglgifhpacmhiaaFrontSpots
import Derived.Test.YtglgifhpacmhiaaBookMayR
import Derived.Test.YtglgifhpacmhiaaBelowRef
import Derived.WalkKit
import Derived.WalkSpells
import Derived.WalkSmall
import Derived.Below
import Derived.Lib.Hide
import Derived.BigQuiet
import Derived.OwnWalk
import Derived.Outline
import Derived.Maps.RangeWalk
import Derived.Deep.DeepCutAuto
import Derived.OrdersHeld
import Derived.Deep.RegionHeld3
namespace Go.Proofs.Ytglgifhpacmhiaa
open Go.RowKit

set_option linter.unusedVariables false

set_option maxRecDepth 100000 in
set_option maxHeartbeats 8000000 in
theorem puts_good (w : World) (x0 : Nat → Int) (A1 : Option Addr) (n1 c1 : Nat) (l1 : List Ad) (hn1 : l1.length = n1) (r1 : RdG adW w A1 l1) (z1 : A1 = none → n1 = 0 ∧ c1 = 0) (s2 : Rc) (hl : n1 ≤ 40) (hm : May x0) :
    Calls Try.prog 3 #[.agg (bk x0), .slice A1 n1 c1, .agg (sp s2)] w fun e w' => e = .returned (.bool true) ∧ Below w.heap.size w w' := by
  have XB : Bx ((w.alloc (.cells (bk x0) 23)).alloc (.cells (sp s2) 26)) w.heap.size 23 (bk x0) := (Bx.new (W := w) _ _ rfl).alloc _
  have XS : Bx ((w.alloc (.cells (bk x0) 23)).alloc (.cells (sp s2) 26)) (w.heap.size + 1) 26 (sp s2) := Bx.new (W := (w.alloc (.cells (bk x0) 23))) _ _ (by simp)
  have B0 : Below w.heap.size w ((w.alloc (.cells (bk x0) 23)).alloc (.cells (sp s2) 26)) := b_al (b_al (Below.refl _ _) (Nat.le_refl _) _) (Nat.le_refl _) _
  have gl : ¬ (40 : Int) < (n1 : Int) := by omega
  have CM := fun W => refmay_any x0 W
  simp only [if_pos hm] at CM
  have HR := Lib.hid (r1.below B0)
  have HN := Lib.hid hn1
  have hsz0 : ((w.alloc (.cells (bk x0) 23)).alloc (.cells (sp s2) 26)).heap.size = w.heap.size + 1 + 1 := by simp
  clear r1 z1 hn1
  go_enter Try.func3, Try.ntmps3
  go_wp2_with (first
    | go_skip
    | refine wpList_load_box (by rfl) 23 _ rfl (w.heap.size) rfl 23 (bk x0) _ (by assumption) Try.underlying23 rfl (by kernel_rfl) ?_
    | (go_at_call 6; refine (new24_ok x0 hm _).mono ?_; rintro e w1 ⟨g, rfl, F1, hg1, hb1⟩; have HF1 := Lib.hid F1; have XBa := XB.below hb1; have HB1 := Lib.hid hb1; have HG1 := Lib.hid hg1; clear F1 hb1 hg1)
    | (go_at_call 7; (with_reducible refine (CM _).mono ?_); rintro e w2 ⟨rfl, hb2⟩; have HF2 := Lib.hid (HF1.out.below hb2); have HB2 := Lib.hid (b_cl HB1.out (Nat.le_refl _) hb2); clear hb2 CM))
  (try go_frame)
  clear XBa
  generalize ((w.alloc (.cells (bk x0) 23)).alloc (.cells (sp s2) 26)) = w0 at *
  go_loopw [9, 72] (fun s9 i wr => ∃ (k : Nat) (B : List Nat) (m : Nat) (A9 : Option Addr) (c9 : Nat) (y : List Ad), s9 = .slice A9 m c9 ∧ i = .int .i64 k ∧ k ≤ n1 ∧ m ≤ k ∧ Hid (y.length = m) ∧ Hid (Fr wr g x0 y B) ∧ Hid (∀ q ∈ B, w0.heap.size ≤ q) ∧ Hid (RdG adW wr A9 y) ∧ Hid (y ≠ [] → ∀ b off, A9 = some ⟨b, off, none⟩ → b ∉ B) ∧ Hid (Below w0.heap.size w0 wr)) (fun _ i _ => n1 - (intOf i).toNat)
  case atStart => exact ⟨0, [g], 0, none, 0, [], rfl, rfl, Nat.zero_le _, Nat.zero_le _, Lib.hid rfl, HF2, Lib.hid (fun q hq => by rw [List.mem_singleton] at hq; subst hq; exact HG1.out), Lib.hid (RdG.nil _ _ _), Lib.hid (fun h => absurd rfl h), HB2⟩
  case round =>
    obtain ⟨k, B, m, A9, c9, y, rfl, rfl, hk, hmk, HM, HF, HQ, HRD, HAP, HW⟩ := hrel
    have hle : y.length ≤ 1000000000 := by have := HM.out; omega
    by_cases hlt : k < n1
    · have gk : (k : Int) < (n1 : Int) := by omega
      obtain ⟨b1, o1, a, rfl, hb1, hc, hx⟩ := (HR.out.below HW.out).at_ (j := k) (by rw [HN.out]; exact hlt)
      have hc : wr.rangeAt b1 (o1 + k * 17) (ad a).toList := hc
      have XB1 := XB.below HW.out
      have hwz := HW.out.size
      cases hh : hitF x0 (allF y a.1) a.2 with
      | true =>
        go_upto_region 14 with (first
          | refine wpList_loadG (by rfl) 42 _ rfl b1 (o1 + k * 17) rfl (ad a) _ hc Try.underlying42 rfl (by kernel_rfl) ?_
          | (refine wpList_store_box rfl 42 _ _ rfl wr.heap.size (ad a) rfl rfl 42 (ad (rz, .zero)) (Bx.new (W := wr) 42 (ad (rz, .zero)) rfl) (by kernel_rfl) rfl (ad_one _) (fun w5 u5 => ?_); have XK5 := u5.box; have B5 := ((b_al (Below.refl wr.heap.size wr) (Nat.le_refl _) _).trans (u5.bel _ (Nat.le_refl _))); have XB5 := XB1.below B5; have HW5 := Lib.hid (b_cl HW.out (Nat.le_refl _) B5); have HF5 := Lib.hid (HF.out.below B5); have HR5 := Lib.hid (HRD.out.below B5); clear B5 u5)
          | refine wpList_loadG (by rfl) 26 _ rfl wr.heap.size 0 rfl (sp a.1) _ (ad_spot (a := a) XK5.whole) Try.underlying26 rfl (by kernel_rfl) ?_
          | refine wpList_loadG (by rfl) 36 _ rfl wr.heap.size (0 + 3) rfl (mt a.2) _ (ad_meter (a := a) XK5.whole) Try.underlying36 rfl (by kernel_rfl) ?_
          | (go_at_call 9; refine (put24_hit HF5.out hle a.1 a.2 hh).mono ?_; rintro e w6 ⟨rfl, hb6⟩; have XB6 := XB5.below hb6; have XK6 := XK5.below hb6; have HW6 := Lib.hid (b_cl HW5.out (Nat.le_refl _) hb6); have HF6 := Lib.hid (HF5.out.below hb6); have HR6 := Lib.hid (HR5.out.below hb6); clear hb6)
          | refine wpList_load_box (by rfl) 23 _ rfl (w.heap.size) rfl 23 (bk x0) _ XB6 Try.underlying23 rfl (by kernel_rfl) ?_
          | refine wpList_load_box (by rfl) 42 _ rfl (wr.heap.size) rfl 42 (ad a) _ XK6 Try.underlying42 rfl (by kernel_rfl) ?_
          | (go_at_call 12; refine (refput24_any x0 A9 c9 m y a.1 a.2 w6 HM.out HR6.out (by omega)).mono ?_; rintro e w7 ⟨hb7, hr7⟩; obtain rfl := hr7.elim (fun h => h.2) (fun h => absurd (hh.symm.trans h.1) (by decide)); have HR7 := Lib.hid (HR6.out.below hb7); have XB7 := XB6.below hb7; have XK7 := XK6.below hb7; have HW7 := Lib.hid (b_cl HW6.out (Nat.le_refl _) hb7); have HF7 := Lib.hid (HF6.out.below hb7); clear hb7 hr7))
        (try go_frame)
        have HN7 := HM
        have CL := len24_any HF7.out (by have := HN7.out; omega)
        rw [HN7.out] at CL
        have CL := fun W (hb : Below w7.heap.size w7 W) => (by have h := len24_any (HF7.out.below hb) (by have := HN7.out; omega); rw [HN7.out] at h; exact h : Calls Try.prog 8 #[.pointer (some ⟨g, 0, none⟩)] W fun e w' => e = .returned (.int .i64 m) ∧ Below W.heap.size W w')
        have en : ((m : Int) != (m : Int)) = false := by simp
        refine wp_region_noPanic ?_
        refine wp_region_held_drew (S := fun w' => Below w7.heap.size w7 w') (by kernel_rfl) ?_ (fun hHeld => ?_)
        · exact b_dr (Below.refl _ _)
        refine wpAnyH_take (i := 0) (oi := ⟨some 89, _, _, _, _, _⟩) (v := ?_) rfl (by kernel_rfl) (by kernel_rfl) (by kernel_rfl) (fun _ _ _ h => h) (Or.inl ⟨by rfl, ?_⟩) (by assumption) ?_
        rotate_left
        · (intro w' hSw; clear hSw; go_simp; try (with_reducible rfl))
        (try simp only [Act.put, List.setIfInBounds_toArray, List.set_cons_zero, List.set_cons_succ])
        refine wpAnyH_take (i := 1) (oi := ⟨some 90, _, _, _, _, _⟩) (v := ?_) rfl (by kernel_rfl) (by kernel_rfl) (by kernel_rfl) (fun _ _ _ h => h) (Or.inl ⟨by rfl, ?_⟩) (by assumption) ?_
        rotate_left
        · (intro w' hSw; clear hSw; go_simp; try (with_reducible rfl))
        (try simp only [Act.put, List.setIfInBounds_toArray, List.set_cons_zero, List.set_cons_succ])
        refine wpAnyH_take (i := 2) (oi := ⟨some 91, _, _, _, _, _⟩) (v := ?_) rfl (by kernel_rfl) (by kernel_rfl) (by kernel_rfl) (fun _ _ _ h => h) (Or.inl ⟨by rfl, ?_⟩) (by assumption) ?_
        rotate_left
        · (intro w' hSw; clear hSw; go_simp; try (with_reducible rfl))
        (try simp only [Act.put, List.setIfInBounds_toArray, List.set_cons_zero, List.set_cons_succ])
        refine wpAnyH_take (i := 3) (oi := ⟨some 92, _, _, _, _, _⟩) (v := ?_) rfl (by kernel_rfl) (by kernel_rfl) (by kernel_rfl) (fun _ _ _ h => h) (Or.inl ⟨by rfl, ?_⟩) (by assumption) ?_
        rotate_left
        · (intro w' hSw; clear hSw; go_simp; try (with_reducible rfl))
        (try simp only [Act.put, List.setIfInBounds_toArray, List.set_cons_zero, List.set_cons_succ])
        refine wpAnyH_take (i := 4) (oi := ⟨some 93, _, _, _, _, _⟩) (v := ?_) rfl (by kernel_rfl) (by kernel_rfl) (by kernel_rfl) (fun _ _ _ h => h) (Or.inl ⟨by rfl, ?_⟩) (by assumption) ?_
        rotate_left
        · (intro w' hSw; clear hSw; go_simp; try (with_reducible rfl))
        (try simp only [Act.put, List.setIfInBounds_toArray, List.set_cons_zero, List.set_cons_succ])
        refine wpAnyH_take (i := 6) (oi := ⟨some 95, _, _, _, _, _⟩) (v := ?_) rfl (by kernel_rfl) (by kernel_rfl) (by kernel_rfl) (fun _ _ _ h => h) (Or.inl ⟨by rfl, ?_⟩) (by assumption) ?_
        rotate_left
        · (intro w' hSw; clear hSw; go_simp; try (with_reducible rfl))
        (try simp only [Act.put, List.setIfInBounds_toArray, List.set_cons_zero, List.set_cons_succ])
        refine wpAnyH_take (i := 7) (oi := ⟨some 96, _, _, _, _, _⟩) (v := ?_) rfl (by kernel_rfl) (by kernel_rfl) (by kernel_rfl) (fun _ _ _ h => h) (Or.inl ⟨by rfl, ?_⟩) (by assumption) ?_
        rotate_left
        · (intro w' hSw; clear hSw; go_simp; try (with_reducible rfl))
        (try simp only [Act.put, List.setIfInBounds_toArray, List.set_cons_zero, List.set_cons_succ])
        refine wpAnyH_ready (rs := [5]) (by kernel_rfl) (by simp) ?_
        refine AllReadyH.cons (o := ⟨some 94, _, _, _, _, _⟩) rfl (fun K hK => ?_) AllReadyH.nil
        go_simp
        (go_at_call 8; (with_reducible refine (CL _ hHeld).mono ?_); rintro e w8 ⟨rfl, hb8⟩)
        go_wp2_with fail
        refine hK.out _ _ (b_cl hHeld (Nat.le_refl _) hb8) (fun hHeld => ?_)
        clear hK K
        (try simp only [Act.put, List.setIfInBounds_toArray, List.set_cons_zero, List.set_cons_succ])
        refine wpAnyH_take (i := 8) (oi := ⟨some 97, _, _, _, _, _⟩) (v := ?_) rfl (by kernel_rfl) (by kernel_rfl) (by kernel_rfl) (fun _ _ _ h => h) (Or.inl ⟨by rfl, ?_⟩) (by assumption) ?_
        rotate_left
        · (intro w' hSw; clear hSw; go_simp; try (with_reducible rfl))
        (try simp only [Act.put, List.setIfInBounds_toArray, List.set_cons_zero, List.set_cons_succ])
        refine wpAnyH_take (i := 9) (oi := ⟨some 98, _, _, _, _, _⟩) (v := ?_) rfl (by kernel_rfl) (by kernel_rfl) (by kernel_rfl) (fun _ _ _ h => h) (Or.inl ⟨by rfl, ?_⟩) (by assumption) ?_
        rotate_left
        · (intro w' hSw; clear hSw; go_simp; try (with_reducible rfl))
        (try simp only [Act.put, List.setIfInBounds_toArray, List.set_cons_zero, List.set_cons_succ])
        refine wpAnyH_take (i := 10) (oi := ⟨some 99, _, _, _, _, _⟩) (v := ?_) rfl (by kernel_rfl) (by kernel_rfl) (by kernel_rfl) (fun _ _ _ h => h) (Or.inl ⟨by rfl, ?_⟩) (by assumption) ?_
        rotate_left
        · (intro w' hSw; clear hSw; go_simp; try (with_reducible rfl))
        (try simp only [Act.put, List.setIfInBounds_toArray, List.set_cons_zero, List.set_cons_succ])
        refine wpAnyH_take (i := 11) (oi := ⟨some 100, _, _, _, _, _⟩) (v := ?_) rfl (by kernel_rfl) (by kernel_rfl) (by kernel_rfl) (fun _ _ _ h => h) (Or.inl ⟨by rfl, ?_⟩) (by assumption) ?_
        rotate_left
        · (intro w' hSw; clear hSw; go_simp; try (with_reducible rfl))
        (try simp only [Act.put, List.setIfInBounds_toArray, List.set_cons_zero, List.set_cons_succ])
        refine wpAnyH_take (i := 12) (oi := ⟨some 101, _, _, _, _, _⟩) (v := ?_) rfl (by kernel_rfl) (by kernel_rfl) (by kernel_rfl) (fun _ _ _ h => h) (Or.inl ⟨by rfl, ?_⟩) (by assumption) ?_
        rotate_left
        · (intro w' hSw; clear hSw; go_simp; try (with_reducible rfl))
        (try simp only [Act.put, List.setIfInBounds_toArray, List.set_cons_zero, List.set_cons_succ])
        refine wpAnyH_take (i := 13) (oi := ⟨some 102, _, _, _, _, _⟩) (v := .agg (sp a.1)) rfl (by kernel_rfl) (by kernel_rfl) (by kernel_rfl) (fun _ _ _ h => h) (Or.inl ⟨by rfl, fun w' hSw => exec_load_mid (wr.heap.size) (0) (sp a.1) _ w' rfl rfl (ad_spot (a := a) (XK7.keep hSw XK7.lt).whole) Try.underlying26 rfl (by kernel_rfl)⟩) (by assumption) ?_
        (try simp only [Act.put, List.setIfInBounds_toArray, List.set_cons_zero, List.set_cons_succ])
        refine wpAnyH_take (i := 15) (oi := ⟨some 104, _, _, _, _, _⟩) (v := ?_) rfl (by kernel_rfl) (by kernel_rfl) (by kernel_rfl) (fun _ _ _ h => h) (Or.inl ⟨by rfl, ?_⟩) (by assumption) ?_
        rotate_left
        · (intro w' hSw; clear hSw; go_simp; try (with_reducible rfl))
        (try simp only [Act.put, List.setIfInBounds_toArray, List.set_cons_zero, List.set_cons_succ])
        refine wpAnyH_take (i := 16) (oi := ⟨some 105, _, _, _, _, _⟩) (v := ?_) rfl (by kernel_rfl) (by kernel_rfl) (by kernel_rfl) (fun _ _ _ h => h) (Or.inl ⟨by rfl, ?_⟩) (by assumption) ?_
        rotate_left
        · (intro w' hSw; clear hSw; go_simp; try (with_reducible rfl))
        (try simp only [Act.put, List.setIfInBounds_toArray, List.set_cons_zero, List.set_cons_succ])
        refine wpAnyH_take (i := 17) (oi := ⟨some 106, _, _, _, _, _⟩) (v := .agg (sp a.1)) rfl (by kernel_rfl) (by kernel_rfl) (by kernel_rfl) (fun _ _ _ h => h) (Or.inl ⟨by rfl, fun w' hSw => exec_load_mid (wr.heap.size) (0) (sp a.1) _ w' rfl rfl (ad_spot (a := a) (XK7.keep hSw XK7.lt).whole) Try.underlying26 rfl (by kernel_rfl)⟩) (by assumption) ?_
        (try simp only [Act.put, List.setIfInBounds_toArray, List.set_cons_zero, List.set_cons_succ])
        refine wpAnyH_ready (rs := [14]) (by kernel_rfl) (by simp) ?_
        refine AllReadyH.cons (o := ⟨some 103, _, _, _, _, _⟩) rfl (fun K hK => ?_) AllReadyH.nil
        go_simp
        (go_at_call 10; refine (all24_any (HF7.out.below hHeld) (by have := HN7.out; omega) a.1).mono ?_; rintro e wa ⟨va, rfl, oa, ba⟩)
        obtain ⟨Aa, ca, rfl, rra, _⟩ := oa.read
        go_wp2_with fail
        refine hK.out _ _ (b_cl hHeld (Nat.le_refl _) ba) (fun hHeld => ?_)
        clear hK K
        (try simp only [Act.put, List.setIfInBounds_toArray, List.set_cons_zero, List.set_cons_succ])
        refine wpAnyH_ready (rs := [18]) (by kernel_rfl) (by simp) ?_
        refine AllReadyH.cons (o := ⟨some 107, _, _, _, _, _⟩) rfl (fun K hK => ?_) AllReadyH.nil
        go_simp
        (go_at_call 14; refine (refall24_any A9 c9 m (y) a.1 _ HN7.out (HR7.out.below hHeld) (by omega)).mono ?_; rintro e wb ⟨vb, rfl, ob, bb⟩)
        obtain ⟨Ab, cb, rfl, rrb, _⟩ := ob.read
        go_wp2_with fail
        refine hK.out _ _ (b_cl hHeld (Nat.le_refl _) bb) (fun hHeld => ?_)
        clear hK K
        (try simp only [Act.put, List.setIfInBounds_toArray, List.set_cons_zero, List.set_cons_succ])
        refine wpAnyH_ready (rs := [19]) (by kernel_rfl) (by simp) ?_
        refine AllReadyH.cons (o := ⟨some 108, _, _, _, _, _⟩) rfl (fun K hK => ?_) AllReadyH.nil
        go_simp
        (go_at_call 13; refine (same24_any Aa Ab ca cb (allF (y) a.1).length (allF (y) a.1) _ rfl (rra.below bb) rrb (by have h1 := allF_le (y) a.1; have := HN7.out; omega)).mono ?_; rintro e wc ⟨rfl, bc⟩)
        go_wp2_with fail
        refine hK.out _ _ (b_cl hHeld (Nat.le_refl _) bc) (fun hHeld => ?_)
        clear hK K
        (try simp only [Act.put, List.setIfInBounds_toArray, List.set_cons_zero, List.set_cons_succ])
        refine wpAnyH_take (i := 20) (oi := ⟨some 109, _, _, _, _, _⟩) (v := ?_) rfl (by kernel_rfl) (by kernel_rfl) (by kernel_rfl) (fun _ _ _ h => h) (Or.inl ⟨by rfl, ?_⟩) (by assumption) ?_
        rotate_left
        · (intro w' hSw; clear hSw; go_simp; try (with_reducible rfl))
        (try simp only [Act.put, List.setIfInBounds_toArray, List.set_cons_zero, List.set_cons_succ])
        refine wpAnyH_take (i := 21) (oi := ⟨some 110, _, _, _, _, _⟩) (v := ?_) rfl (by kernel_rfl) (by kernel_rfl) (by kernel_rfl) (fun _ _ _ h => h) (Or.inl ⟨by rfl, ?_⟩) (by assumption) ?_
        rotate_left
        · (intro w' hSw; clear hSw; go_simp; try (with_reducible rfl))
        (try simp only [Act.put, List.setIfInBounds_toArray, List.set_cons_zero, List.set_cons_succ])
        refine wpAnyH_done (by kernel_rfl) ?_ _
        refine NoPanic.normal ?_
        have HW9 := Lib.hid (b_cl HW7.out (Nat.le_refl _) hHeld)
        have HF9 := Lib.hid (HF7.out.below hHeld)
        have HR9 := Lib.hid (HR7.out.below hHeld)
        clear hHeld
        go_wp2
        go_roundw
        case rel => exact ⟨k + 1, B, m, A9, c9, y, rfl, by go_num, by omega, by omega, HN7, HF9, HQ, HR9, HAP, HW9⟩
        case measure => simp [intOf]; omega
      | false =>
        obtain ⟨n7, hn7⟩ : ∃ n7, (putF x0 y a.1 a.2).length = n7 := ⟨_, rfl⟩
        have HN7 := Lib.hid hn7
        have hn7l : n7 ≤ m + 1 := by rw [← hn7, ← HM.out]; exact putF_le x0 y a.1 a.2
        clear hn7
        go_upto_region 14 with (first
          | refine wpList_loadG (by rfl) 42 _ rfl b1 (o1 + k * 17) rfl (ad a) _ hc Try.underlying42 rfl (by kernel_rfl) ?_
          | (refine wpList_store_box rfl 42 _ _ rfl wr.heap.size (ad a) rfl rfl 42 (ad (rz, .zero)) (Bx.new (W := wr) 42 (ad (rz, .zero)) rfl) (by kernel_rfl) rfl (ad_one _) (fun w5 u5 => ?_); have XK5 := u5.box; have B5 := ((b_al (Below.refl wr.heap.size wr) (Nat.le_refl _) _).trans (u5.bel _ (Nat.le_refl _))); have XB5 := XB1.below B5; have HW5 := Lib.hid (b_cl HW.out (Nat.le_refl _) B5); have HF5 := Lib.hid (HF.out.below B5); have HR5 := Lib.hid (HRD.out.below B5); have CP := put24_any HF5.out hle a.1 a.2; rw [hh] at CP; clear B5 u5)
          | refine wpList_loadG (by rfl) 26 _ rfl wr.heap.size 0 rfl (sp a.1) _ (ad_spot (a := a) XK5.whole) Try.underlying26 rfl (by kernel_rfl) ?_
          | refine wpList_loadG (by rfl) 36 _ rfl wr.heap.size (0 + 3) rfl (mt a.2) _ (ad_meter (a := a) XK5.whole) Try.underlying36 rfl (by kernel_rfl) ?_
          | (go_at_call 9; refine CP.mono ?_; rintro e w6 ⟨rfl, B6, F6, M6⟩; have XB6 := M6.bx XB5 (fun h => by have := HQ.out _ h; omega); have XK6 := M6.bx XK5 (fun h => Nat.lt_irrefl _ (HF.out.blocks _ h)); have HW6 := Lib.hid (HW5.out.trans (M6.bel _ HQ.out HW5.out.size)); have HF6 := Lib.hid F6; have HR6 := Lib.hid (M6.rd HR5.out HAP.out); have HQ6 : Hid (∀ q ∈ B6, w0.heap.size ≤ q) := Lib.hid (fun q hq => (M6.new q hq).elim (HQ.out q) (fun h => Nat.le_trans HW5.out.size h)); clear F6 M6 CP)
          | refine wpList_load_box (by rfl) 23 _ rfl (w.heap.size) rfl 23 (bk x0) _ XB6 Try.underlying23 rfl (by kernel_rfl) ?_
          | refine wpList_load_box (by rfl) 42 _ rfl (wr.heap.size) rfl 42 (ad a) _ XK6 Try.underlying42 rfl (by kernel_rfl) ?_
          | (go_at_call 12; refine (refput24_any x0 A9 c9 m y a.1 a.2 w6 HM.out HR6.out (by omega)).mono ?_; rintro e w7 ⟨hb7, hr7⟩; obtain ⟨v7, rfl, o7⟩ := hr7.elim (fun h => absurd (hh.symm.trans h.1) (by decide)) (fun h => h.2); obtain ⟨A7, c7, hv7, q7, _⟩ := o7.read; rw [HN7.out] at hv7; subst hv7; have HO7 := Lib.hid o7; have HR7 := Lib.hid q7; have XB7 := XB6.below hb7; have XK7 := XK6.below hb7; have HW7 := Lib.hid (b_cl HW6.out (Nat.le_refl _) hb7); have HF7 := Lib.hid (HF6.out.below hb7); clear hb7 hr7 o7 q7))
        (try go_frame)
        have HA7 : Hid (putF x0 y a.1 a.2 ≠ [] → ∀ b off, A7 = some ⟨b, off, none⟩ → b ∉ B6) := Lib.hid (fun _ b off e hb => by
          have h1 := HF6.out.blocks b hb
          have h2 := (HO7.out.lt (q := b) (by rw [e]; rfl)).1
          omega)
        clear HO7
        have CL := len24_any HF7.out (by have := HN7.out; omega)
        rw [HN7.out] at CL
        have CL := fun W (hb : Below w7.heap.size w7 W) => (by have h := len24_any (HF7.out.below hb) (by have := HN7.out; omega); rw [HN7.out] at h; exact h : Calls Try.prog 8 #[.pointer (some ⟨g, 0, none⟩)] W fun e w' => e = .returned (.int .i64 n7) ∧ Below W.heap.size W w')
        have en : ((n7 : Int) != (n7 : Int)) = false := by simp
        refine wp_region_noPanic ?_
        refine wp_region_held_drew (S := fun w' => Below w7.heap.size w7 w') (by kernel_rfl) ?_ (fun hHeld => ?_)
        · exact b_dr (Below.refl _ _)
        refine wpAnyH_take (i := 0) (oi := ⟨some 89, _, _, _, _, _⟩) (v := ?_) rfl (by kernel_rfl) (by kernel_rfl) (by kernel_rfl) (fun _ _ _ h => h) (Or.inl ⟨by rfl, ?_⟩) (by assumption) ?_
        rotate_left
        · (intro w' hSw; clear hSw; go_simp; try (with_reducible rfl))
        (try simp only [Act.put, List.setIfInBounds_toArray, List.set_cons_zero, List.set_cons_succ])
        refine wpAnyH_take (i := 1) (oi := ⟨some 90, _, _, _, _, _⟩) (v := ?_) rfl (by kernel_rfl) (by kernel_rfl) (by kernel_rfl) (fun _ _ _ h => h) (Or.inl ⟨by rfl, ?_⟩) (by assumption) ?_
        rotate_left
        · (intro w' hSw; clear hSw; go_simp; try (with_reducible rfl))
        (try simp only [Act.put, List.setIfInBounds_toArray, List.set_cons_zero, List.set_cons_succ])
        refine wpAnyH_take (i := 2) (oi := ⟨some 91, _, _, _, _, _⟩) (v := ?_) rfl (by kernel_rfl) (by kernel_rfl) (by kernel_rfl) (fun _ _ _ h => h) (Or.inl ⟨by rfl, ?_⟩) (by assumption) ?_
        rotate_left
        · (intro w' hSw; clear hSw; go_simp; try (with_reducible rfl))
        (try simp only [Act.put, List.setIfInBounds_toArray, List.set_cons_zero, List.set_cons_succ])
        refine wpAnyH_take (i := 3) (oi := ⟨some 92, _, _, _, _, _⟩) (v := ?_) rfl (by kernel_rfl) (by kernel_rfl) (by kernel_rfl) (fun _ _ _ h => h) (Or.inl ⟨by rfl, ?_⟩) (by assumption) ?_
        rotate_left
        · (intro w' hSw; clear hSw; go_simp; try (with_reducible rfl))
        (try simp only [Act.put, List.setIfInBounds_toArray, List.set_cons_zero, List.set_cons_succ])
        refine wpAnyH_take (i := 4) (oi := ⟨some 93, _, _, _, _, _⟩) (v := ?_) rfl (by kernel_rfl) (by kernel_rfl) (by kernel_rfl) (fun _ _ _ h => h) (Or.inl ⟨by rfl, ?_⟩) (by assumption) ?_
        rotate_left
        · (intro w' hSw; clear hSw; go_simp; try (with_reducible rfl))
        (try simp only [Act.put, List.setIfInBounds_toArray, List.set_cons_zero, List.set_cons_succ])
        refine wpAnyH_take (i := 6) (oi := ⟨some 95, _, _, _, _, _⟩) (v := ?_) rfl (by kernel_rfl) (by kernel_rfl) (by kernel_rfl) (fun _ _ _ h => h) (Or.inl ⟨by rfl, ?_⟩) (by assumption) ?_
        rotate_left
        · (intro w' hSw; clear hSw; go_simp; try (with_reducible rfl))
        (try simp only [Act.put, List.setIfInBounds_toArray, List.set_cons_zero, List.set_cons_succ])
        refine wpAnyH_take (i := 7) (oi := ⟨some 96, _, _, _, _, _⟩) (v := ?_) rfl (by kernel_rfl) (by kernel_rfl) (by kernel_rfl) (fun _ _ _ h => h) (Or.inl ⟨by rfl, ?_⟩) (by assumption) ?_
        rotate_left
        · (intro w' hSw; clear hSw; go_simp; try (with_reducible rfl))
        (try simp only [Act.put, List.setIfInBounds_toArray, List.set_cons_zero, List.set_cons_succ])
        refine wpAnyH_ready (rs := [5]) (by kernel_rfl) (by simp) ?_
        refine AllReadyH.cons (o := ⟨some 94, _, _, _, _, _⟩) rfl (fun K hK => ?_) AllReadyH.nil
        go_simp
        (go_at_call 8; (with_reducible refine (CL _ hHeld).mono ?_); rintro e w8 ⟨rfl, hb8⟩)
        go_wp2_with fail
        refine hK.out _ _ (b_cl hHeld (Nat.le_refl _) hb8) (fun hHeld => ?_)
        clear hK K
        (try simp only [Act.put, List.setIfInBounds_toArray, List.set_cons_zero, List.set_cons_succ])
        refine wpAnyH_take (i := 8) (oi := ⟨some 97, _, _, _, _, _⟩) (v := ?_) rfl (by kernel_rfl) (by kernel_rfl) (by kernel_rfl) (fun _ _ _ h => h) (Or.inl ⟨by rfl, ?_⟩) (by assumption) ?_
        rotate_left
        · (intro w' hSw; clear hSw; go_simp; try (with_reducible rfl))
        (try simp only [Act.put, List.setIfInBounds_toArray, List.set_cons_zero, List.set_cons_succ])
        refine wpAnyH_take (i := 9) (oi := ⟨some 98, _, _, _, _, _⟩) (v := ?_) rfl (by kernel_rfl) (by kernel_rfl) (by kernel_rfl) (fun _ _ _ h => h) (Or.inl ⟨by rfl, ?_⟩) (by assumption) ?_
        rotate_left
        · (intro w' hSw; clear hSw; go_simp; try (with_reducible rfl))
        (try simp only [Act.put, List.setIfInBounds_toArray, List.set_cons_zero, List.set_cons_succ])
        refine wpAnyH_take (i := 10) (oi := ⟨some 99, _, _, _, _, _⟩) (v := ?_) rfl (by kernel_rfl) (by kernel_rfl) (by kernel_rfl) (fun _ _ _ h => h) (Or.inl ⟨by rfl, ?_⟩) (by assumption) ?_
        rotate_left
        · (intro w' hSw; clear hSw; go_simp; try (with_reducible rfl))
        (try simp only [Act.put, List.setIfInBounds_toArray, List.set_cons_zero, List.set_cons_succ])
        refine wpAnyH_take (i := 11) (oi := ⟨some 100, _, _, _, _, _⟩) (v := ?_) rfl (by kernel_rfl) (by kernel_rfl) (by kernel_rfl) (fun _ _ _ h => h) (Or.inl ⟨by rfl, ?_⟩) (by assumption) ?_
        rotate_left
        · (intro w' hSw; clear hSw; go_simp; try (with_reducible rfl))
        (try simp only [Act.put, List.setIfInBounds_toArray, List.set_cons_zero, List.set_cons_succ])
        refine wpAnyH_take (i := 12) (oi := ⟨some 101, _, _, _, _, _⟩) (v := ?_) rfl (by kernel_rfl) (by kernel_rfl) (by kernel_rfl) (fun _ _ _ h => h) (Or.inl ⟨by rfl, ?_⟩) (by assumption) ?_
        rotate_left
        · (intro w' hSw; clear hSw; go_simp; try (with_reducible rfl))
        (try simp only [Act.put, List.setIfInBounds_toArray, List.set_cons_zero, List.set_cons_succ])
        refine wpAnyH_take (i := 13) (oi := ⟨some 102, _, _, _, _, _⟩) (v := .agg (sp a.1)) rfl (by kernel_rfl) (by kernel_rfl) (by kernel_rfl) (fun _ _ _ h => h) (Or.inl ⟨by rfl, fun w' hSw => exec_load_mid (wr.heap.size) (0) (sp a.1) _ w' rfl rfl (ad_spot (a := a) (XK7.keep hSw XK7.lt).whole) Try.underlying26 rfl (by kernel_rfl)⟩) (by assumption) ?_
        (try simp only [Act.put, List.setIfInBounds_toArray, List.set_cons_zero, List.set_cons_succ])
        refine wpAnyH_take (i := 15) (oi := ⟨some 104, _, _, _, _, _⟩) (v := ?_) rfl (by kernel_rfl) (by kernel_rfl) (by kernel_rfl) (fun _ _ _ h => h) (Or.inl ⟨by rfl, ?_⟩) (by assumption) ?_
        rotate_left
        · (intro w' hSw; clear hSw; go_simp; try (with_reducible rfl))
        (try simp only [Act.put, List.setIfInBounds_toArray, List.set_cons_zero, List.set_cons_succ])
        refine wpAnyH_take (i := 16) (oi := ⟨some 105, _, _, _, _, _⟩) (v := ?_) rfl (by kernel_rfl) (by kernel_rfl) (by kernel_rfl) (fun _ _ _ h => h) (Or.inl ⟨by rfl, ?_⟩) (by assumption) ?_
        rotate_left
        · (intro w' hSw; clear hSw; go_simp; try (with_reducible rfl))
        (try simp only [Act.put, List.setIfInBounds_toArray, List.set_cons_zero, List.set_cons_succ])
        refine wpAnyH_take (i := 17) (oi := ⟨some 106, _, _, _, _, _⟩) (v := .agg (sp a.1)) rfl (by kernel_rfl) (by kernel_rfl) (by kernel_rfl) (fun _ _ _ h => h) (Or.inl ⟨by rfl, fun w' hSw => exec_load_mid (wr.heap.size) (0) (sp a.1) _ w' rfl rfl (ad_spot (a := a) (XK7.keep hSw XK7.lt).whole) Try.underlying26 rfl (by kernel_rfl)⟩) (by assumption) ?_
        (try simp only [Act.put, List.setIfInBounds_toArray, List.set_cons_zero, List.set_cons_succ])
        refine wpAnyH_ready (rs := [14]) (by kernel_rfl) (by simp) ?_
        refine AllReadyH.cons (o := ⟨some 103, _, _, _, _, _⟩) rfl (fun K hK => ?_) AllReadyH.nil
        go_simp
        (go_at_call 10; refine (all24_any (HF7.out.below hHeld) (by have := HN7.out; omega) a.1).mono ?_; rintro e wa ⟨va, rfl, oa, ba⟩)
        obtain ⟨Aa, ca, rfl, rra, _⟩ := oa.read
        go_wp2_with fail
        refine hK.out _ _ (b_cl hHeld (Nat.le_refl _) ba) (fun hHeld => ?_)
        clear hK K
        (try simp only [Act.put, List.setIfInBounds_toArray, List.set_cons_zero, List.set_cons_succ])
        refine wpAnyH_ready (rs := [18]) (by kernel_rfl) (by simp) ?_
        refine AllReadyH.cons (o := ⟨some 107, _, _, _, _, _⟩) rfl (fun K hK => ?_) AllReadyH.nil
        go_simp
        (go_at_call 14; refine (refall24_any A7 c7 n7 (putF x0 y a.1 a.2) a.1 _ HN7.out (HR7.out.below hHeld) (by omega)).mono ?_; rintro e wb ⟨vb, rfl, ob, bb⟩)
        obtain ⟨Ab, cb, rfl, rrb, _⟩ := ob.read
        go_wp2_with fail
        refine hK.out _ _ (b_cl hHeld (Nat.le_refl _) bb) (fun hHeld => ?_)
        clear hK K
        (try simp only [Act.put, List.setIfInBounds_toArray, List.set_cons_zero, List.set_cons_succ])
        refine wpAnyH_ready (rs := [19]) (by kernel_rfl) (by simp) ?_
        refine AllReadyH.cons (o := ⟨some 108, _, _, _, _, _⟩) rfl (fun K hK => ?_) AllReadyH.nil
        go_simp
        (go_at_call 13; refine (same24_any Aa Ab ca cb (allF (putF x0 y a.1 a.2) a.1).length (allF (putF x0 y a.1 a.2) a.1) _ rfl (rra.below bb) rrb (by have h1 := allF_le (putF x0 y a.1 a.2) a.1; have := HN7.out; omega)).mono ?_; rintro e wc ⟨rfl, bc⟩)
        go_wp2_with fail
        refine hK.out _ _ (b_cl hHeld (Nat.le_refl _) bc) (fun hHeld => ?_)
        clear hK K
        (try simp only [Act.put, List.setIfInBounds_toArray, List.set_cons_zero, List.set_cons_succ])
        refine wpAnyH_take (i := 20) (oi := ⟨some 109, _, _, _, _, _⟩) (v := ?_) rfl (by kernel_rfl) (by kernel_rfl) (by kernel_rfl) (fun _ _ _ h => h) (Or.inl ⟨by rfl, ?_⟩) (by assumption) ?_
        rotate_left
        · (intro w' hSw; clear hSw; go_simp; try (with_reducible rfl))
        (try simp only [Act.put, List.setIfInBounds_toArray, List.set_cons_zero, List.set_cons_succ])
        refine wpAnyH_take (i := 21) (oi := ⟨some 110, _, _, _, _, _⟩) (v := ?_) rfl (by kernel_rfl) (by kernel_rfl) (by kernel_rfl) (fun _ _ _ h => h) (Or.inl ⟨by rfl, ?_⟩) (by assumption) ?_
        rotate_left
        · (intro w' hSw; clear hSw; go_simp; try (with_reducible rfl))
        (try simp only [Act.put, List.setIfInBounds_toArray, List.set_cons_zero, List.set_cons_succ])
        refine wpAnyH_done (by kernel_rfl) ?_ _
        refine NoPanic.normal ?_
        have HW9 := Lib.hid (b_cl HW7.out (Nat.le_refl _) hHeld)
        have HF9 := Lib.hid (HF7.out.below hHeld)
        have HR9 := Lib.hid (HR7.out.below hHeld)
        clear hHeld
        go_wp2
        go_roundw
        case rel => exact ⟨k + 1, B6, n7, A7, c7, putF x0 y a.1 a.2, rfl, by go_num, by omega, by omega, HN7, HF9, HQ6, HR9, HA7, HW9⟩
        case measure => simp [intOf]; omega
    · have gk : ¬ (k : Int) < (n1 : Int) := by omega
      have CS := spots24_any HF.out hle
      go_upto_region 19 with (first
        | (go_at_call 11; refine CS.mono ?_; rintro e w3 ⟨A3, c3, l3, rfl, r3, q3, hb3⟩; have HF3 := Lib.hid (HF.out.below hb3); have HR3 := Lib.hid (HRD.out.below hb3); have HW3 := Lib.hid (b_cl HW.out (Nat.le_refl _) hb3); have HS3 := Lib.hid r3; have HE3 := Lib.hid q3; clear r3 q3 hb3 CS)
        | (go_at_call 15; refine (refspots24_any A9 c9 m y _ HM.out HR3.out (by omega)).mono ?_; rintro e w4 ⟨A4, c4, l4, rfl, r4, q4, hb4⟩; obtain rfl := setF_unique q4 HE3.out; have HF4 := Lib.hid (HF3.out.below hb4); have HR4 := Lib.hid (HR3.out.below hb4); have HW4 := Lib.hid (b_cl HW3.out (Nat.le_refl _) hb4); have HS4 := Lib.hid r4; have HS3' := Lib.hid (HS3.out.below hb4); clear r4 q4 hb4))
      (try go_frame)
      obtain ⟨d, hd⟩ : ∃ d, l4.length = d := ⟨_, rfl⟩
      rw [hd]
      have HD := Lib.hid hd
      have hdm : d ≤ m := by
        have h9 := nodup_len (pair_nodup HE3.out.1) (fun x hx => (HE3.out.2 x).1 hx)
        rw [List.length_map, HM.out] at h9
        omega
      have ed : ((d : Int) != (d : Int)) = false := by simp
      clear hd
      go_wp2
      go_loopw [124] (fun i wr => ∃ i' : Nat, i = .int .i64 i' ∧ i' ≤ d ∧ Hid (Below w4.heap.size w4 wr)) (fun i _ => d - (intOf i).toNat)
      case atStart => exact ⟨0, rfl, Nat.zero_le _, Lib.hid (Below.refl _ _)⟩
      case round =>
        obtain ⟨i, rfl, hi, HI⟩ := hrel
        by_cases hlti : i < d
        · have gi : (i : Int) < (d : Int) := by omega
          obtain ⟨b1, o1, u, rfl, hb1, hc1, hx1⟩ := (HS3'.out.below HI.out).at_ (j := i) (by rw [HD.out]; exact hlti)
          obtain ⟨b2, o2, u2, rfl, hb2, hc2, hx2⟩ := (HS4.out.below HI.out).at_ (j := i) (by rw [HD.out]; exact hlti)
          obtain rfl : u2 = u := Option.some.inj (hx2.out.symm.trans hx1.out)
          have hc1 : wr.rangeAt b1 (o1 + i * 3) (sp u2).toList := hc1
          have hc2 : wr.rangeAt b2 (o2 + i * 3) (sp u2).toList := hc2
          go_upto_region 24 with fail
          (try go_frame)
          refine wp_region_noPanic ?_
          refine wp_region_held_drew (S := fun w' => Below wr.heap.size wr w') (by kernel_rfl) ?_ (fun hHeld => ?_)
          · exact b_dr (Below.refl _ _)
          refine wpAnyH_take (i := 0) (oi := ⟨some 127, _, _, _, _, _⟩) (v := ?_) rfl (by kernel_rfl) (by kernel_rfl) (by kernel_rfl) (fun _ _ _ h => h) (Or.inl ⟨by rfl, ?_⟩) (by assumption) ?_
          rotate_left
          · (intro w' hSw; clear hSw; go_simp; try (with_reducible rfl))
          (try simp only [Act.put, List.setIfInBounds_toArray, List.set_cons_zero, List.set_cons_succ])
          refine wpAnyH_take (i := 1) (oi := ⟨some 128, _, _, _, _, _⟩) (v := ?_) rfl (by kernel_rfl) (by kernel_rfl) (by kernel_rfl) (fun _ _ _ h => h) (Or.inl ⟨by rfl, ?_⟩) (by assumption) ?_
          rotate_left
          · (intro w' hSw; clear hSw; go_simp; try (with_reducible rfl))
          (try simp only [Act.put, List.setIfInBounds_toArray, List.set_cons_zero, List.set_cons_succ])
          refine wpAnyH_take (i := 2) (oi := ⟨some 129, _, _, _, _, _⟩) (v := ?_) rfl (by kernel_rfl) (by kernel_rfl) (by kernel_rfl) (fun _ _ _ h => h) (Or.inl ⟨by rfl, ?_⟩) (by assumption) ?_
          rotate_left
          · (intro w' hSw; clear hSw; go_simp; try (with_reducible rfl))
          (try simp only [Act.put, List.setIfInBounds_toArray, List.set_cons_zero, List.set_cons_succ])
          refine wpAnyH_take (i := 3) (oi := ⟨some 130, _, _, _, _, _⟩) (v := .agg (sp u2)) rfl (by kernel_rfl) (by kernel_rfl) (by kernel_rfl) (fun _ _ _ h => h) (Or.inl ⟨by rfl, fun w' hSw => exec_load_mid (b1) (o1 + i * 3) (sp u2) _ w' rfl rfl (rangeAt_below hc1 hSw hb1) Try.underlying26 rfl (by kernel_rfl)⟩) (by assumption) ?_
          (try simp only [Act.put, List.setIfInBounds_toArray, List.set_cons_zero, List.set_cons_succ])
          refine wpAnyH_take (i := 4) (oi := ⟨some 131, _, _, _, _, _⟩) (v := ?_) rfl (by kernel_rfl) (by kernel_rfl) (by kernel_rfl) (fun _ _ _ h => h) (Or.inl ⟨by rfl, ?_⟩) (by assumption) ?_
          rotate_left
          · (intro w' hSw; clear hSw; go_simp; try (with_reducible rfl))
          (try simp only [Act.put, List.setIfInBounds_toArray, List.set_cons_zero, List.set_cons_succ])
          refine wpAnyH_take (i := 5) (oi := ⟨some 132, _, _, _, _, _⟩) (v := ?_) rfl (by kernel_rfl) (by kernel_rfl) (by kernel_rfl) (fun _ _ _ h => h) (Or.inl ⟨by rfl, ?_⟩) (by assumption) ?_
          rotate_left
          · (intro w' hSw; clear hSw; go_simp; try (with_reducible rfl))
          (try simp only [Act.put, List.setIfInBounds_toArray, List.set_cons_zero, List.set_cons_succ])
          refine wpAnyH_take (i := 6) (oi := ⟨some 133, _, _, _, _, _⟩) (v := ?_) rfl (by kernel_rfl) (by kernel_rfl) (by kernel_rfl) (fun _ _ _ h => h) (Or.inl ⟨by rfl, ?_⟩) (by assumption) ?_
          rotate_left
          · (intro w' hSw; clear hSw; go_simp; try (with_reducible rfl))
          (try simp only [Act.put, List.setIfInBounds_toArray, List.set_cons_zero, List.set_cons_succ])
          refine wpAnyH_take (i := 7) (oi := ⟨some 134, _, _, _, _, _⟩) (v := .agg (sp u2)) rfl (by kernel_rfl) (by kernel_rfl) (by kernel_rfl) (fun _ _ _ h => h) (Or.inl ⟨by rfl, fun w' hSw => exec_load_mid (b2) (o2 + i * 3) (sp u2) _ w' rfl rfl (rangeAt_below hc2 hSw hb2) Try.underlying26 rfl (by kernel_rfl)⟩) (by assumption) ?_
          (try simp only [Act.put, List.setIfInBounds_toArray, List.set_cons_zero, List.set_cons_succ])
          refine wpAnyH_take (i := 8) (oi := ⟨some 135, _, _, _, _, _⟩) (v := .bool (!true)) rfl (by kernel_rfl) (by kernel_rfl) (by kernel_rfl) (fun _ _ _ h => h) (Or.inl ⟨by rfl, fun w' hSw => exec_nev_sp u2 u2 (decide_eq_true rfl) w' rfl rfl rfl⟩) (by assumption) ?_
          (try simp only [Act.put, List.setIfInBounds_toArray, List.set_cons_zero, List.set_cons_succ])
          refine wpAnyH_done (by kernel_rfl) ?_ _
          refine NoPanic.normal ?_
          have HI9 := Lib.hid (b_cl HI.out (Nat.le_refl _) hHeld)
          clear hHeld
          go_wp2
          go_roundw
          case rel => exact ⟨i + 1, by go_num, by omega, HI9⟩
          case measure => simp [intOf]; omega
        · have gi : ¬ (i : Int) < (d : Int) := by omega
          have HF5 := Lib.hid (HF4.out.below HI.out)
          have HR5 := Lib.hid (HR4.out.below HI.out)
          have HW5 := Lib.hid (b_cl HW4.out (Nat.le_refl _) HI.out)
          have XS5 := XS.below HW5.out
          have HB5 := Lib.hid (b_cl B0 (Nat.le_refl _) HW5.out)
          obtain ⟨w5, hw5⟩ : ∃ w5 : World, w5 = wr := ⟨_, rfl⟩
          subst hw5
          go_upto_region 27 with fail
          (try go_frame)
          refine wp_region_noPanic ?_
          refine wp_region_held_drew (S := fun w' => Below w5.heap.size w5 w') (by kernel_rfl) ?_ (fun hHeld => ?_)
          · exact b_dr (Below.refl _ _)
          refine wpAnyH_take (i := 0) (oi := ⟨some 137, _, _, _, _, _⟩) (v := ?_) rfl (by kernel_rfl) (by kernel_rfl) (by kernel_rfl) (fun _ _ _ h => h) (Or.inl ⟨by rfl, ?_⟩) (by assumption) ?_
          rotate_left
          · (intro w' hSw; clear hSw; go_simp; try (with_reducible rfl))
          (try simp only [Act.put, List.setIfInBounds_toArray, List.set_cons_zero, List.set_cons_succ])
          refine wpAnyH_take (i := 1) (oi := ⟨some 138, _, _, _, _, _⟩) (v := .agg (sp s2)) rfl (by kernel_rfl) (by kernel_rfl) (by kernel_rfl) (fun _ _ _ h => h) (Or.inl ⟨by rfl, fun w' hSw => exec_load_box (w.heap.size + 1) 26 (sp s2) _ w' rfl rfl (XS5.keep hSw XS5.lt) Try.underlying26 rfl (by kernel_rfl)⟩) (by assumption) ?_
          (try simp only [Act.put, List.setIfInBounds_toArray, List.set_cons_zero, List.set_cons_succ])
          refine wpAnyH_take (i := 3) (oi := ⟨some 140, _, _, _, _, _⟩) (v := ?_) rfl (by kernel_rfl) (by kernel_rfl) (by kernel_rfl) (fun _ _ _ h => h) (Or.inl ⟨by rfl, ?_⟩) (by assumption) ?_
          rotate_left
          · (intro w' hSw; clear hSw; go_simp; try (with_reducible rfl))
          (try simp only [Act.put, List.setIfInBounds_toArray, List.set_cons_zero, List.set_cons_succ])
          refine wpAnyH_take (i := 4) (oi := ⟨some 141, _, _, _, _, _⟩) (v := .agg (sp s2)) rfl (by kernel_rfl) (by kernel_rfl) (by kernel_rfl) (fun _ _ _ h => h) (Or.inl ⟨by rfl, fun w' hSw => exec_load_box (w.heap.size + 1) 26 (sp s2) _ w' rfl rfl (XS5.keep hSw XS5.lt) Try.underlying26 rfl (by kernel_rfl)⟩) (by assumption) ?_
          (try simp only [Act.put, List.setIfInBounds_toArray, List.set_cons_zero, List.set_cons_succ])
          refine wpAnyH_ready (rs := [2]) (by kernel_rfl) (by simp) ?_
          refine AllReadyH.cons (o := ⟨some 139, _, _, _, _, _⟩) rfl (fun K hK => ?_) AllReadyH.nil
          go_simp
          (go_at_call 10; refine (all24_any (HF5.out.below hHeld) (by have := HM.out; omega) s2).mono ?_; rintro e wa ⟨va, rfl, oa, ba⟩)
          obtain ⟨Aa, ca, rfl, rra, _⟩ := oa.read
          go_wp2_with fail
          refine hK.out _ _ (b_cl hHeld (Nat.le_refl _) ba) (fun hHeld => ?_)
          clear hK K
          (try simp only [Act.put, List.setIfInBounds_toArray, List.set_cons_zero, List.set_cons_succ])
          refine wpAnyH_ready (rs := [5]) (by kernel_rfl) (by simp) ?_
          refine AllReadyH.cons (o := ⟨some 142, _, _, _, _, _⟩) rfl (fun K hK => ?_) AllReadyH.nil
          go_simp
          (go_at_call 14; refine (refall24_any A9 c9 m (y) s2 _ HM.out (HR5.out.below hHeld) (by omega)).mono ?_; rintro e wb ⟨vb, rfl, ob, bb⟩)
          obtain ⟨Ab, cb, rfl, rrb, _⟩ := ob.read
          go_wp2_with fail
          refine hK.out _ _ (b_cl hHeld (Nat.le_refl _) bb) (fun hHeld => ?_)
          clear hK K
          (try simp only [Act.put, List.setIfInBounds_toArray, List.set_cons_zero, List.set_cons_succ])
          refine wpAnyH_ready (rs := [6]) (by kernel_rfl) (by simp) ?_
          refine AllReadyH.cons (o := ⟨some 143, _, _, _, _, _⟩) rfl (fun K hK => ?_) AllReadyH.nil
          go_simp
          (go_at_call 13; refine (same24_any Aa Ab ca cb (allF (y) s2).length (allF (y) s2) _ rfl (rra.below bb) rrb (by have h1 := allF_le (y) s2; have := HM.out; omega)).mono ?_; rintro e wc ⟨rfl, bc⟩)
          go_wp2_with fail
          refine hK.out _ _ (b_cl hHeld (Nat.le_refl _) bc) (fun hHeld => ?_)
          clear hK K
          (try simp only [Act.put, List.setIfInBounds_toArray, List.set_cons_zero, List.set_cons_succ])
          refine wpAnyH_take (i := 7) (oi := ⟨some 144, _, _, _, _, _⟩) (v := ?_) rfl (by kernel_rfl) (by kernel_rfl) (by kernel_rfl) (fun _ _ _ h => h) (Or.inl ⟨by rfl, ?_⟩) (by assumption) ?_
          rotate_left
          · (intro w' hSw; clear hSw; go_simp; try (with_reducible rfl))
          (try simp only [Act.put, List.setIfInBounds_toArray, List.set_cons_zero, List.set_cons_succ])
          refine wpAnyH_ready (rs := [8]) (by kernel_rfl) (by simp) ?_
          refine AllReadyH.cons (o := ⟨some 145, _, _, _, _, _⟩) rfl (fun K hK => ?_) AllReadyH.nil
          go_simp
          (go_at_call 5; refine (alive24_any _).mono ?_; rintro e wd ⟨rfl, bd⟩)
          go_wp2_with fail
          refine hK.out _ _ (b_cl hHeld (Nat.le_refl _) bd) (fun hHeld => ?_)
          clear hK K
          (try simp only [Act.put, List.setIfInBounds_toArray, List.set_cons_zero, List.set_cons_succ])
          refine wpAnyH_take (i := 9) (oi := ⟨some 146, _, _, _, _, _⟩) (v := ?_) rfl (by kernel_rfl) (by kernel_rfl) (by kernel_rfl) (fun _ _ _ h => h) (Or.inl ⟨by rfl, ?_⟩) (by assumption) ?_
          rotate_left
          · (intro w' hSw; clear hSw; go_simp; try (with_reducible rfl))
          (try simp only [Act.put, List.setIfInBounds_toArray, List.set_cons_zero, List.set_cons_succ])
          refine wpAnyH_take (i := 10) (oi := ⟨some 6, _, _, _, _, _⟩) (v := ?_) rfl (by kernel_rfl) (by kernel_rfl) (by kernel_rfl) (fun _ _ _ h => h) (Or.inl ⟨by rfl, ?_⟩) (by assumption) ?_
          rotate_left
          · (intro w' hSw; clear hSw; go_simp; try (with_reducible rfl))
          (try simp only [Act.put, List.setIfInBounds_toArray, List.set_cons_zero, List.set_cons_succ])
          refine wpAnyH_done (by kernel_rfl) ?_ _
          refine NoPanic.normal ?_
          go_wp2
          go_ret
          exact ⟨rfl, b_cl HB5.out (Nat.le_refl _) hHeld⟩

end Go.Proofs.Ytglgifhpacmhiaa
