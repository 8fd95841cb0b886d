/- The law LabelPlays: each way. Conditions: as the theorems say. -/
import Derived.Test.YtolbihfnogbjaaaRows
import Derived.Test.YtolbihfnogbjaaaBase
import Derived.Test.YtolbihfnogbjaaaZ2
import Derived.Test.YtolbihfnogbjaaaBookLim
import Derived.Test.YtolbihfnogbjaaaZ1
import Derived.Test.YtolbihfnogbjaaaZ4
import Derived.Test.YtolbihfnogbjaaaZ6
import Derived.Test.YtolbihfnogbjaaaZ3
import Derived.Test.YtolbihfnogbjaaaErrandChk
import Derived.Test.YtolbihfnogbjaaaZ7
import Derived.Test.YtolbihfnogbjaaaErrandSpot
import Derived.Test.YtolbihfnogbjaaaZ8
import Derived.Test.YtolbihfnogbjaaaZ9
import Derived.Test.YtolbihfnogbjaaaZ10
import Derived.Test.YtolbihfnogbjaaaLabelRPlay
import Derived.Test.YtolbihfnogbjaaaLabelRef
import Derived.Test.YtolbihfnogbjaaaBookMayR
import Derived.Test.YtolbihfnogbjaaaErrandFits
import Derived.Test.YtolbihfnogbjaaaErrandRStep
import Derived.WalkKit
import Derived.WalkSpells
import Derived.WalkSmall
import Derived.Below
import Derived.Lib.Hide
import Derived.BigQuiet
import Derived.OwnWalk
import Derived.Outline
import Derived.Maps.RangeWalk
import Derived.Deep.DeepCutAuto
import Derived.OrdersHeld
import Derived.Deep.RegionHeld3
namespace Go.Proofs.Ytolbihfnogbjaaa
open Go.RowKit

set_option linter.unusedVariables false

open Classical in
set_option maxRecDepth 100000 in
set_option maxHeartbeats 8000000 in
theorem plays_heavy (w : World) (x : Nat → Int) (A : Option Addr) (n c : Nat) (l : List Tk) (hn : l.length = n) (h : RdK w A l) (hcn : n ≤ c) (hz : A = none → c = 0) (a : Lb) (hi : In64 a) (A2 : Option Addr) (n2 c2 : Nat) (ks : List Int) (hn2 : ks.length = n2) (r2 : RdN w A2 ks) (hli : ¬ LightK l) :
    Calls Try.prog 4 #[.agg (bk x), .agg (sr A n c a), .slice A2 n2 c2] w fun e w' => e = .returned (.bool true) ∧ Below w.heap.size w w' := by
  have XB : Bx ((w.alloc (.cells (bk x) 23)).alloc (.cells (sr A n c a) 47)) (w.heap.size) 23 (bk x) := (Bx.new (W := w) _ _ (by simp)).alloc _
  have XS : Bx ((w.alloc (.cells (bk x) 23)).alloc (.cells (sr A n c a) 47)) (w.heap.size + 1) 47 (sr A n c a) := (Bx.new (W := (w.alloc (.cells (bk x) 23))) _ _ (by simp))
  have B0 : Below w.heap.size w ((w.alloc (.cells (bk x) 23)).alloc (.cells (sr A n c a) 47)) := b_al (b_al (Below.refl _ _) (Nat.le_refl _) _) (Nat.le_refl _) _
  have HB0 := Lib.hid B0
  have HK := Lib.hid h
  have HN := Lib.hid r2
  have t0 : ((w.alloc (.cells (bk x) 23)).alloc (.cells (sr A n c a) 47)).cell? ⟨w.heap.size + 1, 0, none⟩ = some (.slice A n c) := XS.srT
  have CL := fun W (h : RdK W A l) => light19_any A n c l hn W h
  rw [decide_eq_false hli] at CL
  clear h hn hcn hz hi hli r2 hn2
  go_enter Try.func4, Try.ntmps4
  go_wp2_with (first
    | go_skip
    | (go_at_call 6; (with_reducible refine (CL _ (HK.out.below HB0.out)).mono ?_); rintro e w1 ⟨rfl, hb1⟩; have HB1 := Lib.hid (b_cl HB0.out (Nat.le_refl _) hb1); have XB_1 := XB.below hb1; have XS_1 := XS.below hb1; have t1 : w1.cell? ⟨w.heap.size + 1, 0, none⟩ = some (.slice A n c) := XS_1.srT)
    | (go_at_call 7; (with_reducible refine (alive25_any _).mono ?_); rintro e w2 ⟨rfl, hb2⟩; have HB2 := Lib.hid (b_cl HB1.out (Nat.le_refl _) hb2); have XB_2 := XB_1.below hb2; have XS_2 := XS_1.below hb2))
  go_ret
  exact ⟨rfl, HB2.out⟩

open Classical in
set_option maxRecDepth 100000 in
set_option maxHeartbeats 8000000 in
theorem plays_long (w : World) (x : Nat → Int) (A : Option Addr) (n c : Nat) (l : List Tk) (hn : l.length = n) (h : RdK w A l) (hcn : n ≤ c) (hz : A = none → c = 0) (a : Lb) (hi : In64 a) (A2 : Option Addr) (n2 c2 : Nat) (ks : List Int) (hn2 : ks.length = n2) (r2 : RdN w A2 ks) (hli : LightK l) (hlong : 300 < n2) :
    Calls Try.prog 4 #[.agg (bk x), .agg (sr A n c a), .slice A2 n2 c2] w fun e w' => e = .returned (.bool true) ∧ Below w.heap.size w w' := by
  have XB : Bx ((w.alloc (.cells (bk x) 23)).alloc (.cells (sr A n c a) 47)) (w.heap.size) 23 (bk x) := (Bx.new (W := w) _ _ (by simp)).alloc _
  have XS : Bx ((w.alloc (.cells (bk x) 23)).alloc (.cells (sr A n c a) 47)) (w.heap.size + 1) 47 (sr A n c a) := (Bx.new (W := (w.alloc (.cells (bk x) 23))) _ _ (by simp))
  have B0 : Below w.heap.size w ((w.alloc (.cells (bk x) 23)).alloc (.cells (sr A n c a) 47)) := b_al (b_al (Below.refl _ _) (Nat.le_refl _) _) (Nat.le_refl _) _
  have HB0 := Lib.hid B0
  have HK := Lib.hid h
  have HN := Lib.hid r2
  have t0 : ((w.alloc (.cells (bk x) 23)).alloc (.cells (sr A n c a) 47)).cell? ⟨w.heap.size + 1, 0, none⟩ = some (.slice A n c) := XS.srT
  have CL := fun W (h : RdK W A l) => light19_any A n c l hn W h
  rw [decide_eq_true hli] at CL
  have gl : (300 : Int) < (n2 : Int) := by omega
  clear h hn hcn hz hi hli r2 hn2 hlong
  go_enter Try.func4, Try.ntmps4
  go_wp2_with (first
    | go_skip
    | (go_at_call 6; (with_reducible refine (CL _ (HK.out.below HB0.out)).mono ?_); rintro e w1 ⟨rfl, hb1⟩; have HB1 := Lib.hid (b_cl HB0.out (Nat.le_refl _) hb1); have XB_1 := XB.below hb1; have XS_1 := XS.below hb1; have t1 : w1.cell? ⟨w.heap.size + 1, 0, none⟩ = some (.slice A n c) := XS_1.srT)
    | (go_at_call 7; (with_reducible refine (alive25_any _).mono ?_); rintro e w2 ⟨rfl, hb2⟩; have HB2 := Lib.hid (b_cl HB1.out (Nat.le_refl _) hb2); have XB_2 := XB_1.below hb2; have XS_2 := XS_1.below hb2))
  go_ret
  exact ⟨rfl, HB2.out⟩

open Classical in
set_option maxRecDepth 100000 in
set_option maxHeartbeats 8000000 in
theorem plays_both (w : World) (x : Nat → Int) (A : Option Addr) (n c : Nat) (l : List Tk) (hn : l.length = n) (h : RdK w A l) (hcn : n ≤ c) (hz : A = none → c = 0) (a : Lb) (hi : In64 a) (A2 : Option Addr) (n2 c2 : Nat) (ks : List Int) (hn2 : ks.length = n2) (r2 : RdN w A2 ks) (hli : LightK l) (hlong : n2 ≤ 300) (e0 e1 : Int) (he : chk25 x l a = e0) (hb : bndE l a = e1) (h0 : e0 ≠ 0) (h1 : e1 ≠ 0) :
    Calls Try.prog 4 #[.agg (bk x), .agg (sr A n c a), .slice A2 n2 c2] w fun e w' => e = .returned (.bool true) ∧ Below w.heap.size w w' := by
  have XB : Bx ((w.alloc (.cells (bk x) 23)).alloc (.cells (sr A n c a) 47)) (w.heap.size) 23 (bk x) := (Bx.new (W := w) _ _ (by simp)).alloc _
  have XS : Bx ((w.alloc (.cells (bk x) 23)).alloc (.cells (sr A n c a) 47)) (w.heap.size + 1) 47 (sr A n c a) := (Bx.new (W := (w.alloc (.cells (bk x) 23))) _ _ (by simp))
  have B0 : Below w.heap.size w ((w.alloc (.cells (bk x) 23)).alloc (.cells (sr A n c a) 47)) := b_al (b_al (Below.refl _ _) (Nat.le_refl _) _) (Nat.le_refl _) _
  have HB0 := Lib.hid B0
  have HK := Lib.hid h
  have HN := Lib.hid r2
  have t0 : ((w.alloc (.cells (bk x) 23)).alloc (.cells (sr A n c a) 47)).cell? ⟨w.heap.size + 1, 0, none⟩ = some (.slice A n c) := XS.srT
  have CL := fun W (h : RdK W A l) => light19_any A n c l hn W h
  rw [decide_eq_true hli] at CL
  have few := hli.few
  have gl : ¬ (300 : Int) < (n2 : Int) := by omega
  have C2 := fun W (h : RdK W A l) => bound25_any A n c l hn a W h few hcn hz hi.1 hi.2
  have C3 := fun W (h : RdK W A l) => refcheck25_any x A n c l hn a W h few
  have C4 := fun W (h : RdK W A l) => refcheck25_any euV A n c l hn a W h few
  rw [chk25_may may_eu, hb] at C4
  rw [he] at C3
  rw [hb] at C2
  have C1 := fun W (h : RdK W A l) => play25_bad x A n c l hn a A2 n2 c2 ks hn2 (by omega) W h few hcn hz hi.1 hi.2 e0 he h0
  have g2 : (e0 != 0) = true := by simp [h0]
  have eb : Lbeq lz lz = true := Lbeq_self lz
  rw [if_neg h1] at C2
  have g3 : (e1 == 0) = false := by simp [h1]
  have g4 : (e1 != 0) = true := by simp [h1]
  have g5 : (e1 != e1) = false := by simp
  have g7 : (e0 != e0) = false := by simp
  clear h hn hcn hz hi hli few he hb r2 hn2 hlong
  clear h0 h1
  go_enter Try.func4, Try.ntmps4
  go_upto_region 7 with (first
    | go_skip
    | (go_at_call 6; (with_reducible refine (CL _ (HK.out.below HB0.out)).mono ?_); rintro e w1 ⟨rfl, hb1⟩; have HB1 := Lib.hid (b_cl HB0.out (Nat.le_refl _) hb1); have XB_1 := XB.below hb1; have XS_1 := XS.below hb1; have t1 : w1.cell? ⟨w.heap.size + 1, 0, none⟩ = some (.slice A n c) := XS_1.srT)
    | refine wpList_loadG (by rfl) 30 _ rfl (w.heap.size + 1) (1) rfl (lb a) _ XS_1.srL Try.underlying30 rfl (by kernel_rfl) ?_
    | (refine wpList_store_box rfl 33 _ _ rfl w1.heap.size (lb a) rfl rfl 33 (lb lz) (Bx.new (W := w1) 33 (lb lz) rfl) (by kernel_rfl) rfl (lb_one _) (fun w2 u2 => ?_); have hn2 := u2.box; have b2 := ((b_al (Below.refl w1.heap.size w1) (Nat.le_refl _) _).trans (u2.bel _ (Nat.le_refl _))); have HB2 := Lib.hid (b_cl HB1.out (Nat.le_refl _) b2); have XB_2 := XB_1.below b2; have XS_2 := XS_1.below b2; have t2 : w2.cell? ⟨w.heap.size + 1, 0, none⟩ = some (.slice A n c) := XS_2.srT; clear b2)
    | refine wpList_load_box (by rfl) 23 _ rfl (w.heap.size) rfl 23 (bk x) _ XB_2 Try.underlying23 rfl (by kernel_rfl) ?_
    | refine wpList_load_box (by rfl) 33 _ rfl (w1.heap.size) rfl 33 (lb a) _ hn2 Try.underlying33 rfl (by kernel_rfl) ?_
    | (go_at_call 12; (with_reducible refine (C1 _ (HK.out.below HB2.out)).mono ?_); rintro e w3 ⟨rfl, hb3⟩; have HB3 := Lib.hid (b_cl HB2.out (Nat.le_refl _) hb3); have XB_3 := XB_2.below hb3; have XS_3 := XS_2.below hb3; have XO_3 := hn2.below hb3; have t3 : w3.cell? ⟨w.heap.size + 1, 0, none⟩ = some (.slice A n c) := XS_3.srT)
    | (refine wpList_store_box rfl 33 _ _ rfl w3.heap.size (lb lz) rfl rfl 33 (lb lz) (Bx.new (W := w3) 33 (lb lz) rfl) (by kernel_rfl) rfl (lb_one _) (fun w4 u4 => ?_); have hn4 := u4.box; have b4 := ((b_al (Below.refl w3.heap.size w3) (Nat.le_refl _) _).trans (u4.bel _ (Nat.le_refl _))); have HB4 := Lib.hid (b_cl HB3.out (Nat.le_refl _) b4); have XB_4 := XB_3.below b4; have XS_4 := XS_3.below b4; have XO_4 := XO_3.below b4; have t4 : w4.cell? ⟨w.heap.size + 1, 0, none⟩ = some (.slice A n c) := XS_4.srT; clear b4)
    | refine wpList_load_box (by rfl) 33 _ rfl (w1.heap.size) rfl 33 (lb a) _ XO_4 Try.underlying33 rfl (by kernel_rfl) ?_
    | (go_at_call 13; (with_reducible refine (C2 _ (HK.out.below HB4.out)).mono ?_); rintro e w5 ⟨rfl, hb5⟩; have HB5 := Lib.hid (b_cl HB4.out (Nat.le_refl _) hb5); have XB_5 := XB_4.below hb5; have XS_5 := XS_4.below hb5; have XO_5 := XO_4.below hb5; have XP_5 := hn4.below hb5; have t5 : w5.cell? ⟨w.heap.size + 1, 0, none⟩ = some (.slice A n c) := XS_5.srT)
    | refine wpList_load_box (by rfl) 23 _ rfl (w.heap.size) rfl 23 (bk x) _ XB_5 Try.underlying23 rfl (by kernel_rfl) ?_
    | refine wpList_loadG (by rfl) 30 _ rfl (w.heap.size + 1) (1) rfl (lb a) _ XS_5.srL Try.underlying30 rfl (by kernel_rfl) ?_
    | (go_at_call 9; (with_reducible refine (C3 _ (HK.out.below HB5.out)).mono ?_); rintro e w6 ⟨rfl, hb6⟩; have HB6 := Lib.hid (b_cl HB5.out (Nat.le_refl _) hb6); have XB_6 := XB_5.below hb6; have XS_6 := XS_5.below hb6; have XO_6 := XO_5.below hb6; have XP_6 := XP_5.below hb6; have t6 : w6.cell? ⟨w.heap.size + 1, 0, none⟩ = some (.slice A n c) := XS_6.srT))
  (try go_frame)
  refine wp_region_noPanic ?_
  refine wp_region_held_drew (S := fun w' => Below w6.heap.size w6 w') (by kernel_rfl) ?_ (fun hHeld => ?_)
  · exact b_dr (Below.refl _ _)
  refine wpAnyH_take (i := 1) (oi := ⟨some 53, _, _, _, _, _⟩) (v := ?_) rfl (by kernel_rfl) (by kernel_rfl) (by kernel_rfl) (fun _ _ _ h => h) (Or.inl ⟨by rfl, ?_⟩) (by assumption) ?_
  rotate_left
  · (intro w' hSw; clear hSw; go_simp; try (with_reducible rfl))
  (try simp only [Act.put, List.setIfInBounds_toArray, List.set_cons_zero, List.set_cons_succ])
  refine wpAnyH_take (i := 2) (oi := ⟨some 54, _, _, _, _, _⟩) (v := ?_) rfl (by kernel_rfl) (by kernel_rfl) (by kernel_rfl) (fun _ _ _ h => h) (Or.inl ⟨by rfl, ?_⟩) (by assumption) ?_
  rotate_left
  · (intro w' hSw; have q2 : w'.cell? ⟨w.heap.size + 1, 0, none⟩ = some (.slice A n c) := (hSw.cell (p := ⟨w.heap.size + 1, 0, none⟩) XS_6.lt).trans t6; clear hSw; go_simp; try (with_reducible rfl))
  (try simp only [Act.put, List.setIfInBounds_toArray, List.set_cons_zero, List.set_cons_succ])
  refine wpAnyH_take (i := 3) (oi := ⟨some 55, _, _, _, _, _⟩) (v := ?_) rfl (by kernel_rfl) (by kernel_rfl) (by kernel_rfl) (fun _ _ _ h => h) (Or.inl ⟨by rfl, ?_⟩) (by assumption) ?_
  rotate_left
  · (intro w' hSw; clear hSw; go_simp; try (with_reducible rfl))
  (try simp only [Act.put, List.setIfInBounds_toArray, List.set_cons_zero, List.set_cons_succ])
  refine wpAnyH_take (i := 4) (oi := ⟨some 56, _, _, _, _, _⟩) (v := .agg (lb a)) rfl (by kernel_rfl) (by kernel_rfl) (by kernel_rfl) (fun _ _ _ h => h) (Or.inl ⟨by rfl, fun w' hSw => exec_load_mid (w.heap.size + 1) (1) (lb a) _ w' rfl rfl ((XS_6.keep hSw XS_6.lt).srL) Try.underlying30 rfl (by kernel_rfl)⟩) (by assumption) ?_
  (try simp only [Act.put, List.setIfInBounds_toArray, List.set_cons_zero, List.set_cons_succ])
  refine wpAnyH_ready (rs := [0]) (by kernel_rfl) (by simp) ?_
  refine AllReadyH.cons (o := ⟨some 52, _, _, _, _, _⟩) rfl (fun K hK => ?_) AllReadyH.nil
  go_simp
  (go_at_call 14; (with_reducible refine (refeurope_any _).mono ?_); rintro e wa ⟨rfl, hba⟩)
  have HKa := Lib.hid ((HK.out.below HB6.out).below hHeld)
  have HKb := Lib.hid (HKa.out.below hba)
  go_wp2_with fail
  refine hK.out _ _ (b_cl hHeld (Nat.le_refl _) hba) (fun hHeld => ?_)
  clear hK K
  (try simp only [Act.put, List.setIfInBounds_toArray, List.set_cons_zero, List.set_cons_succ])
  refine wpAnyH_ready (rs := [5]) (by kernel_rfl) (by simp) ?_
  refine AllReadyH.cons (o := ⟨some 57, _, _, _, _, _⟩) rfl (fun K hK => ?_) AllReadyH.nil
  go_simp
  (go_at_call 9; (with_reducible refine (C4 _ HKb.out).mono ?_); rintro e wb ⟨rfl, hbb⟩)
  go_wp2_with fail
  refine hK.out _ _ (b_cl hHeld (Nat.le_refl _) hbb) (fun hHeld => ?_)
  clear hK K
  (try simp only [Act.put, List.setIfInBounds_toArray, List.set_cons_zero, List.set_cons_succ])
  refine wpAnyH_take (i := 6) (oi := ⟨some 14, _, _, _, _, _⟩) (v := ?_) rfl (by kernel_rfl) (by kernel_rfl) (by kernel_rfl) (fun _ _ _ h => h) (Or.inl ⟨by rfl, ?_⟩) (by assumption) ?_
  rotate_left
  · (intro w' hSw; clear hSw; go_simp; try (with_reducible rfl))
  (try simp only [Act.put, List.setIfInBounds_toArray, List.set_cons_zero, List.set_cons_succ])
  refine wpAnyH_done (by kernel_rfl) ?_ _
  refine NoPanic.normal ?_
  have HBq := Lib.hid (b_cl HB6.out (Nat.le_refl _) hHeld)
  have XBq := XB_6.keep hHeld XB_6.lt
  have XSq := XS_6.keep hHeld XS_6.lt
  have XOq := XO_6.keep hHeld XO_6.lt
  have XPq := XP_6.keep hHeld XP_6.lt
  have tq : wb.cell? ⟨w.heap.size + 1, 0, none⟩ = some (.slice A n c) := XSq.srT
  clear hHeld
  go_wp2_with (first
    | go_skip
    | refine wpList_load_box (by rfl) 33 _ rfl (w3.heap.size) rfl 33 (lb lz) _ XPq Try.underlying33 rfl (by kernel_rfl) ?_
    | refine wpList_build_as rfl 33 _ rfl (lb lz) (by kernel_rfl) ?_
    | refine wpList_build_g (by rfl) 33 _ rfl (lb lz) (by kernel_rfl) ?_
    | refine wpList_eql_lb (by rfl) rfl lz lz true rfl rfl eb ?_
    | (go_at_call 7; (with_reducible refine (alive25_any _).mono ?_); rintro e w21 ⟨rfl, hb21⟩; have HB21 := Lib.hid (b_cl HBq.out (Nat.le_refl _) hb21); have XB_21 := XBq.below hb21; have XS_21 := XSq.below hb21; have XO_21 := XOq.below hb21; have XP_21 := XPq.below hb21))
  go_ret
  exact ⟨rfl, HB21.out⟩

end Go.Proofs.Ytolbihfnogbjaaa
