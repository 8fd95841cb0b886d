/- What the document's Over says. Conditions: the tasks can be read. -/
import Derived.Test.YthgieanhlmnneaaRows
import Derived.Test.YthgieanhlmnneaaBase
import Derived.Test.YthgieanhlmnneaaRow
import Derived.Test.YthgieanhlmnneaaIvalsWords
import Derived.Test.YthgieanhlmnneaaWindowMath
import Derived.Test.YthgieanhlmnneaaErrandMath
import Derived.Test.YthgieanhlmnneaaErrandHeap
import Derived.Test.YthgieanhlmnneaaErrandMath2
import Derived.Test.YthgieanhlmnneaaRecMath
import Derived.Test.YthgieanhlmnneaaBox
import Derived.Test.YthgieanhlmnneaaBoxRes
import Derived.Test.YthgieanhlmnneaaChg
import Derived.Test.YthgieanhlmnneaaRecOne
import Derived.Test.YthgieanhlmnneaaErrandChk
import Derived.Test.YthgieanhlmnneaaErrandPast
import Derived.Test.YthgieanhlmnneaaErrandSpot
import Derived.Test.YthgieanhlmnneaaErrandRStep0
import Derived.Test.YthgieanhlmnneaaErrandRStep
import Derived.Test.YthgieanhlmnneaaErrandOverC
import Derived.WalkKit
import Derived.WalkSpells
import Derived.WalkSmall
import Derived.Below
import Derived.Lib.Hide
import Derived.Outline
import Derived.Deep.DeepCutAuto
import Derived.OwnWalk
import Derived.BigQuiet
import Derived.Deep.QuietTactic
import Derived.Deep.LoopGhost
import Derived.WalkMore
import Derived.OrdersHeld
import Derived.Deep.RegionHeld3
namespace Go.Proofs.Ythgieanhlmnneaa
open Go.RowKit

set_option maxRecDepth 20000 in
set_option maxHeartbeats 4000000 in
theorem refover19_any (A : Option Addr) (n c : Nat) (l : List Tk) (hn : l.length = n) (i x y k a b : Int) (w : World) (h : RdK w A l) (hf : Few l) :
    Calls Try.prog 21 #[.slice A n c, .agg #[.int .i64 i, .int .i64 x, .int .i64 y], .agg #[.int .i64 k, .int .i64 a, .int .i64 b]] w fun e w' => e = .returned (.tuple #[.agg (sp3 (overV l (i, x, y) k a b).1), .agg (fs4 (overV l (i, x, y) k a b).2.1), .int .i64 (overV l (i, x, y) k a b).2.2]) ∧ Below w.heap.size w w' := by
  have CC := fun W (h : RdK W A l) => refcheck19_any A n c l hn W h hf
  have CF := fun W (h : RdK W A l) => reffits19_any A n c l hn i x y W h
  have HK := Lib.hid h
  by_cases c0 : checkT l = 0
  case neg =>
    obtain ⟨e0, he⟩ : ∃ e0, checkT l = e0 := ⟨_, rfl⟩
    rw [he] at CC c0
    rw [over_spot (spot_bad he c0) c0]
    have hne : (e0 != 0) = true := by simp [c0]
    clear he c0 h hf hn CF
    have S0 : Bx (((((w.alloc (.cells #[.int .i64 i, .int .i64 x, .int .i64 y] 24)).alloc (.cells #[.int .i64 k, .int .i64 a, .int .i64 b] 46)).alloc (.cells #[.int .i64 0, .int .i64 0, .int .i64 0] 24)).alloc (.cells #[.int .i64 0, .int .i64 0, .int .i64 0, .int .i64 0] 47)).alloc (.cells #[.int .i64 0, .int .i64 0, .int .i64 0, .int .i64 0] 47)) (w.heap.size) 24 #[.int .i64 i, .int .i64 x, .int .i64 y] := ((((Bx.new (W := w) _ _ rfl).alloc _).alloc _).alloc _).alloc _
    have R0 : Bx (((((w.alloc (.cells #[.int .i64 i, .int .i64 x, .int .i64 y] 24)).alloc (.cells #[.int .i64 k, .int .i64 a, .int .i64 b] 46)).alloc (.cells #[.int .i64 0, .int .i64 0, .int .i64 0] 24)).alloc (.cells #[.int .i64 0, .int .i64 0, .int .i64 0, .int .i64 0] 47)).alloc (.cells #[.int .i64 0, .int .i64 0, .int .i64 0, .int .i64 0] 47)) (w.heap.size + 1) 46 #[.int .i64 k, .int .i64 a, .int .i64 b] := (((Bx.new (W := w.alloc (.cells #[.int .i64 i, .int .i64 x, .int .i64 y] 24)) _ _ (by simp)).alloc _).alloc _).alloc _
    have P0 : Bx (((((w.alloc (.cells #[.int .i64 i, .int .i64 x, .int .i64 y] 24)).alloc (.cells #[.int .i64 k, .int .i64 a, .int .i64 b] 46)).alloc (.cells #[.int .i64 0, .int .i64 0, .int .i64 0] 24)).alloc (.cells #[.int .i64 0, .int .i64 0, .int .i64 0, .int .i64 0] 47)).alloc (.cells #[.int .i64 0, .int .i64 0, .int .i64 0, .int .i64 0] 47)) (w.heap.size + 1 + 1) 24 #[.int .i64 0, .int .i64 0, .int .i64 0] := ((Bx.new (W := (w.alloc (.cells #[.int .i64 i, .int .i64 x, .int .i64 y] 24)).alloc (.cells #[.int .i64 k, .int .i64 a, .int .i64 b] 46)) _ _ (by simp)).alloc _).alloc _
    have Q0 : Bx (((((w.alloc (.cells #[.int .i64 i, .int .i64 x, .int .i64 y] 24)).alloc (.cells #[.int .i64 k, .int .i64 a, .int .i64 b] 46)).alloc (.cells #[.int .i64 0, .int .i64 0, .int .i64 0] 24)).alloc (.cells #[.int .i64 0, .int .i64 0, .int .i64 0, .int .i64 0] 47)).alloc (.cells #[.int .i64 0, .int .i64 0, .int .i64 0, .int .i64 0] 47)) (w.heap.size + 1 + 1 + 1) 47 #[.int .i64 0, .int .i64 0, .int .i64 0, .int .i64 0] := (Bx.new (W := ((w.alloc (.cells #[.int .i64 i, .int .i64 x, .int .i64 y] 24)).alloc (.cells #[.int .i64 k, .int .i64 a, .int .i64 b] 46)).alloc (.cells #[.int .i64 0, .int .i64 0, .int .i64 0] 24)) _ _ (by simp)).alloc _
    have X0 : Bx (((((w.alloc (.cells #[.int .i64 i, .int .i64 x, .int .i64 y] 24)).alloc (.cells #[.int .i64 k, .int .i64 a, .int .i64 b] 46)).alloc (.cells #[.int .i64 0, .int .i64 0, .int .i64 0] 24)).alloc (.cells #[.int .i64 0, .int .i64 0, .int .i64 0, .int .i64 0] 47)).alloc (.cells #[.int .i64 0, .int .i64 0, .int .i64 0, .int .i64 0] 47)) (w.heap.size + 1 + 1 + 1 + 1) 47 #[.int .i64 0, .int .i64 0, .int .i64 0, .int .i64 0] := Bx.new (W := (((w.alloc (.cells #[.int .i64 i, .int .i64 x, .int .i64 y] 24)).alloc (.cells #[.int .i64 k, .int .i64 a, .int .i64 b] 46)).alloc (.cells #[.int .i64 0, .int .i64 0, .int .i64 0] 24)).alloc (.cells #[.int .i64 0, .int .i64 0, .int .i64 0, .int .i64 0] 47)) _ _ (by simp)
    have B0 : Below w.heap.size w (((((w.alloc (.cells #[.int .i64 i, .int .i64 x, .int .i64 y] 24)).alloc (.cells #[.int .i64 k, .int .i64 a, .int .i64 b] 46)).alloc (.cells #[.int .i64 0, .int .i64 0, .int .i64 0] 24)).alloc (.cells #[.int .i64 0, .int .i64 0, .int .i64 0, .int .i64 0] 47)).alloc (.cells #[.int .i64 0, .int .i64 0, .int .i64 0, .int .i64 0] 47)) := by (repeat (first | exact Below.refl _ _ | (refine b_st ?_ (by first | (simp; done) | (simp; omega))) | (refine b_al ?_ (Nat.le_refl _) _) | refine b_dn ?_ | refine b_dr ?_ | (refine b_cl ?_ (Nat.le_refl _) (by assumption))))
    have HS0 := Lib.hid S0
    have HR0 := Lib.hid R0
    have HP0 := Lib.hid P0
    have HQ0 := Lib.hid Q0
    have HX0 := Lib.hid X0
    have HB0 := Lib.hid B0
    clear S0 R0 P0 Q0 X0 B0
    go_enter Try.func21, Try.ntmps21
    go_upto_region 4 with (go_at_call 9; refine (CC _ (HK.out.below HB0.out)).mono ?_; rintro e w1 ⟨rfl, hb1⟩; have HS1 := Lib.hid (HS0.out.below hb1); have HR1 := Lib.hid (HR0.out.below hb1); have HP1 := Lib.hid (HP0.out.below hb1); have HQ1 := Lib.hid (HQ0.out.below hb1); have HX1 := Lib.hid (HX0.out.below hb1); have HB1 := Lib.hid (b_cl HB0.out (Nat.le_refl _) hb1); clear hb1; have lt1 : w.heap.size + 1 + 1 + 1 + 1 < w1.heap.size := HX1.out.lt; have lta1 : w.heap.size < w1.heap.size := (by omega); have ltb1 : w.heap.size + 1 < w1.heap.size := (by omega); have s0_1 := HS1.out.cell (k := 0) rfl; have s1_1 := HS1.out.cell (k := 1) rfl; have s2_1 := HS1.out.cell (k := 2) rfl; have r0_1 := HR1.out.cell (k := 0) rfl; have r1_1 := HR1.out.cell (k := 1) rfl; have r2_1 := HR1.out.cell (k := 2) rfl)
    refine wp_region_noPanic ?_
    refine wp_region_held_drew (S := fun w' => Bx w' (w.heap.size + 1 + 1 + 1 + 1) 47 #[.int .i64 0, .int .i64 0, .int .i64 0, .int .i64 0] ∧ Bx w' (w.heap.size) 24 #[.int .i64 i, .int .i64 x, .int .i64 y]) (by kernel_rfl) ?_ (fun hHeld => ?_)
    · exact ⟨HX1.out.drew, HS1.out.drew⟩
    refine wpAnyH_take (i := 0) (oi := ⟨some 20, _, _, _, _, _⟩) (v := ?_) rfl (by kernel_rfl) (by kernel_rfl) (by kernel_rfl) (fun _ _ _ h => h) (Or.inl ⟨by rfl, ?_⟩) (by assumption) ?_
    rotate_left
    · (intro w' hSw; clear hSw; go_simp; try (with_reducible rfl))
    (try simp only [Act.put, List.setIfInBounds_toArray, List.set_cons_zero, List.set_cons_succ])
    refine wpAnyH_take (i := 1) (oi := ⟨some 21, _, _, _, _, _⟩) (v := .agg #[.int .i64 0, .int .i64 0, .int .i64 0, .int .i64 0]) rfl (by kernel_rfl) (by kernel_rfl) (by kernel_rfl) (fun _ _ _ h => h) (Or.inl ⟨by rfl, fun w' hSw => exec_load_box (w.heap.size + 1 + 1 + 1 + 1) 47 #[.int .i64 0, .int .i64 0, .int .i64 0, .int .i64 0] _ w' rfl rfl hSw.1 Try.underlying47 rfl (by kernel_rfl)⟩) (by assumption) ?_
    (try simp only [Act.put, List.setIfInBounds_toArray, List.set_cons_zero, List.set_cons_succ])
    refine wpAnyH_take (i := 2) (oi := ⟨some 22, _, _, _, _, _⟩) (v := ?_) rfl (by kernel_rfl) (by kernel_rfl) (by kernel_rfl) (fun _ _ _ h => h) (Or.inl ⟨by rfl, ?_⟩) (by assumption) ?_
    rotate_left
    · (intro w' hSw; clear hSw; go_simp; try (with_reducible rfl))
    (try simp only [Act.put, List.setIfInBounds_toArray, List.set_cons_zero, List.set_cons_succ])
    refine wpAnyH_ready (rs := [3]) (by kernel_rfl) (by simp) ?_
    refine AllReadyH.cons (o := ⟨none, _, _, _, _, _⟩) rfl (fun K hK => ?_) AllReadyH.nil
    refine wp_store_any 24 _ _ rfl (w.heap.size + 1 + 1) #[.int .i64 0, .int .i64 0, .int .i64 0] rfl rfl 24 #[.int .i64 0, .int .i64 0, .int .i64 0] (HP1.out.drew) (by kernel_rfl) rfl (one3 _ _ _) (fun w8 u => ?_)
    refine hK.out _ _ (⟨u.bx hHeld.1 (by omega), u.bx hHeld.2 (by omega)⟩) (fun hHeld => ?_)
    clear hK K
    (try simp only [Act.put])
    refine wpAnyH_ready (rs := [4]) (by kernel_rfl) (by simp) ?_
    refine AllReadyH.cons (o := ⟨none, _, _, _, _, _⟩) rfl (fun K hK => ?_) AllReadyH.nil
    refine wp_store_any 47 _ _ rfl (w.heap.size + 1 + 1 + 1) #[.int .i64 0, .int .i64 0, .int .i64 0, .int .i64 0] rfl rfl 47 #[.int .i64 0, .int .i64 0, .int .i64 0, .int .i64 0] (u.bx HQ1.out.drew (by omega)) (by kernel_rfl) rfl (one4 _ _ _ _) (fun w9 u2 => ?_)
    refine hK.out _ _ (⟨u2.bx hHeld.1 (by omega), u2.bx hHeld.2 (by omega)⟩) (fun hHeld => ?_)
    clear hK K
    (try simp only [Act.put])
    refine wpAnyH_take (i := 5) (oi := ⟨some 8, _, _, _, _, _⟩) (v := ?_) rfl (by kernel_rfl) (by kernel_rfl) (by kernel_rfl) (fun _ _ _ h => h) (Or.inl ⟨by rfl, ?_⟩) (by assumption) ?_
    rotate_left
    · (intro w' hSw; clear hSw; go_simp; try (with_reducible rfl))
    (try simp only [Act.put, List.setIfInBounds_toArray, List.set_cons_zero, List.set_cons_succ])
    refine wpAnyH_done (by kernel_rfl) ?_ _
    refine NoPanic.normal ?_
    go_wp2_with fail
    refine bodyPost_ret (results_box22 Try.results21 _ _ (w.heap.size + 1 + 1) (w.heap.size + 1 + 1 + 1) 24 47 #[.int .i64 0, .int .i64 0, .int .i64 0] #[.int .i64 0, .int .i64 0, .int .i64 0, .int .i64 0] _ _ (.int .i64 e0) rfl (u2.bx u.box (by omega)) rfl u2.box rfl Try.underlying24 rfl (by kernel_rfl) Try.underlying47 rfl (by kernel_rfl)) rfl ⟨rfl, ?_⟩
    exact ((b_dr HB1.out).trans (u.bel _ (by omega))).trans (u2.bel _ (by omega))
  rw [c0] at CC
  by_cases c1 : Fits l (i, x, y)
  case neg =>
    rw [decide_eq_false c1] at CF
    rw [over_spot (spot_no c0 c1) (by decide)]
    clear c0 c1 h hf hn
    have S0 : Bx (((((w.alloc (.cells #[.int .i64 i, .int .i64 x, .int .i64 y] 24)).alloc (.cells #[.int .i64 k, .int .i64 a, .int .i64 b] 46)).alloc (.cells #[.int .i64 0, .int .i64 0, .int .i64 0] 24)).alloc (.cells #[.int .i64 0, .int .i64 0, .int .i64 0, .int .i64 0] 47)).alloc (.cells #[.int .i64 0, .int .i64 0, .int .i64 0, .int .i64 0] 47)) (w.heap.size) 24 #[.int .i64 i, .int .i64 x, .int .i64 y] := ((((Bx.new (W := w) _ _ rfl).alloc _).alloc _).alloc _).alloc _
    have R0 : Bx (((((w.alloc (.cells #[.int .i64 i, .int .i64 x, .int .i64 y] 24)).alloc (.cells #[.int .i64 k, .int .i64 a, .int .i64 b] 46)).alloc (.cells #[.int .i64 0, .int .i64 0, .int .i64 0] 24)).alloc (.cells #[.int .i64 0, .int .i64 0, .int .i64 0, .int .i64 0] 47)).alloc (.cells #[.int .i64 0, .int .i64 0, .int .i64 0, .int .i64 0] 47)) (w.heap.size + 1) 46 #[.int .i64 k, .int .i64 a, .int .i64 b] := (((Bx.new (W := w.alloc (.cells #[.int .i64 i, .int .i64 x, .int .i64 y] 24)) _ _ (by simp)).alloc _).alloc _).alloc _
    have P0 : Bx (((((w.alloc (.cells #[.int .i64 i, .int .i64 x, .int .i64 y] 24)).alloc (.cells #[.int .i64 k, .int .i64 a, .int .i64 b] 46)).alloc (.cells #[.int .i64 0, .int .i64 0, .int .i64 0] 24)).alloc (.cells #[.int .i64 0, .int .i64 0, .int .i64 0, .int .i64 0] 47)).alloc (.cells #[.int .i64 0, .int .i64 0, .int .i64 0, .int .i64 0] 47)) (w.heap.size + 1 + 1) 24 #[.int .i64 0, .int .i64 0, .int .i64 0] := ((Bx.new (W := (w.alloc (.cells #[.int .i64 i, .int .i64 x, .int .i64 y] 24)).alloc (.cells #[.int .i64 k, .int .i64 a, .int .i64 b] 46)) _ _ (by simp)).alloc _).alloc _
    have Q0 : Bx (((((w.alloc (.cells #[.int .i64 i, .int .i64 x, .int .i64 y] 24)).alloc (.cells #[.int .i64 k, .int .i64 a, .int .i64 b] 46)).alloc (.cells #[.int .i64 0, .int .i64 0, .int .i64 0] 24)).alloc (.cells #[.int .i64 0, .int .i64 0, .int .i64 0, .int .i64 0] 47)).alloc (.cells #[.int .i64 0, .int .i64 0, .int .i64 0, .int .i64 0] 47)) (w.heap.size + 1 + 1 + 1) 47 #[.int .i64 0, .int .i64 0, .int .i64 0, .int .i64 0] := (Bx.new (W := ((w.alloc (.cells #[.int .i64 i, .int .i64 x, .int .i64 y] 24)).alloc (.cells #[.int .i64 k, .int .i64 a, .int .i64 b] 46)).alloc (.cells #[.int .i64 0, .int .i64 0, .int .i64 0] 24)) _ _ (by simp)).alloc _
    have X0 : Bx (((((w.alloc (.cells #[.int .i64 i, .int .i64 x, .int .i64 y] 24)).alloc (.cells #[.int .i64 k, .int .i64 a, .int .i64 b] 46)).alloc (.cells #[.int .i64 0, .int .i64 0, .int .i64 0] 24)).alloc (.cells #[.int .i64 0, .int .i64 0, .int .i64 0, .int .i64 0] 47)).alloc (.cells #[.int .i64 0, .int .i64 0, .int .i64 0, .int .i64 0] 47)) (w.heap.size + 1 + 1 + 1 + 1) 47 #[.int .i64 0, .int .i64 0, .int .i64 0, .int .i64 0] := Bx.new (W := (((w.alloc (.cells #[.int .i64 i, .int .i64 x, .int .i64 y] 24)).alloc (.cells #[.int .i64 k, .int .i64 a, .int .i64 b] 46)).alloc (.cells #[.int .i64 0, .int .i64 0, .int .i64 0] 24)).alloc (.cells #[.int .i64 0, .int .i64 0, .int .i64 0, .int .i64 0] 47)) _ _ (by simp)
    have B0 : Below w.heap.size w (((((w.alloc (.cells #[.int .i64 i, .int .i64 x, .int .i64 y] 24)).alloc (.cells #[.int .i64 k, .int .i64 a, .int .i64 b] 46)).alloc (.cells #[.int .i64 0, .int .i64 0, .int .i64 0] 24)).alloc (.cells #[.int .i64 0, .int .i64 0, .int .i64 0, .int .i64 0] 47)).alloc (.cells #[.int .i64 0, .int .i64 0, .int .i64 0, .int .i64 0] 47)) := by (repeat (first | exact Below.refl _ _ | (refine b_st ?_ (by first | (simp; done) | (simp; omega))) | (refine b_al ?_ (Nat.le_refl _) _) | refine b_dn ?_ | refine b_dr ?_ | (refine b_cl ?_ (Nat.le_refl _) (by assumption))))
    have HS0 := Lib.hid S0
    have HR0 := Lib.hid R0
    have HP0 := Lib.hid P0
    have HQ0 := Lib.hid Q0
    have HX0 := Lib.hid X0
    have HB0 := Lib.hid B0
    clear S0 R0 P0 Q0 X0 B0
    go_enter Try.func21, Try.ntmps21
    go_upto_region 6 with (first
      | (go_at_call 9; refine (CC _ (HK.out.below HB0.out)).mono ?_; rintro e w1 ⟨rfl, hb1⟩; have HS1 := Lib.hid (HS0.out.below hb1); have HR1 := Lib.hid (HR0.out.below hb1); have HP1 := Lib.hid (HP0.out.below hb1); have HQ1 := Lib.hid (HQ0.out.below hb1); have HX1 := Lib.hid (HX0.out.below hb1); have HB1 := Lib.hid (b_cl HB0.out (Nat.le_refl _) hb1); clear hb1; have lt1 : w.heap.size + 1 + 1 + 1 + 1 < w1.heap.size := HX1.out.lt; have lta1 : w.heap.size < w1.heap.size := (by omega); have ltb1 : w.heap.size + 1 < w1.heap.size := (by omega); have s0_1 := HS1.out.cell (k := 0) rfl; have s1_1 := HS1.out.cell (k := 1) rfl; have s2_1 := HS1.out.cell (k := 2) rfl; have r0_1 := HR1.out.cell (k := 0) rfl; have r1_1 := HR1.out.cell (k := 1) rfl; have r2_1 := HR1.out.cell (k := 2) rfl)
      | (go_at_call 12; refine (CF _ (HK.out.below HB1.out)).mono ?_; rintro e w2 ⟨rfl, hb2⟩; have HS2 := Lib.hid (HS1.out.below hb2); have HR2 := Lib.hid (HR1.out.below hb2); have HP2 := Lib.hid (HP1.out.below hb2); have HQ2 := Lib.hid (HQ1.out.below hb2); have HX2 := Lib.hid (HX1.out.below hb2); have HB2 := Lib.hid (b_cl HB1.out (Nat.le_refl _) hb2); clear hb2; have lt2 : w.heap.size + 1 + 1 + 1 + 1 < w2.heap.size := HX2.out.lt; have lta2 : w.heap.size < w2.heap.size := (by omega); have ltb2 : w.heap.size + 1 < w2.heap.size := (by omega); have s0_2 := HS2.out.cell (k := 0) rfl; have s1_2 := HS2.out.cell (k := 1) rfl; have s2_2 := HS2.out.cell (k := 2) rfl; have r0_2 := HR2.out.cell (k := 0) rfl; have r1_2 := HR2.out.cell (k := 1) rfl; have r2_2 := HR2.out.cell (k := 2) rfl))
    refine wp_region_noPanic ?_
    refine wp_region_held_drew (S := fun w' => Bx w' (w.heap.size + 1 + 1 + 1 + 1) 47 #[.int .i64 0, .int .i64 0, .int .i64 0, .int .i64 0] ∧ Bx w' (w.heap.size) 24 #[.int .i64 i, .int .i64 x, .int .i64 y]) (by kernel_rfl) ?_ (fun hHeld => ?_)
    · exact ⟨HX2.out.drew, HS2.out.drew⟩
    refine wpAnyH_take (i := 0) (oi := ⟨some 27, _, _, _, _, _⟩) (v := ?_) rfl (by kernel_rfl) (by kernel_rfl) (by kernel_rfl) (fun _ _ _ h => h) (Or.inl ⟨by rfl, ?_⟩) (by assumption) ?_
    rotate_left
    · (intro w' hSw; clear hSw; go_simp; try (with_reducible rfl))
    (try simp only [Act.put, List.setIfInBounds_toArray, List.set_cons_zero, List.set_cons_succ])
    refine wpAnyH_take (i := 1) (oi := ⟨some 28, _, _, _, _, _⟩) (v := .agg #[.int .i64 0, .int .i64 0, .int .i64 0, .int .i64 0]) rfl (by kernel_rfl) (by kernel_rfl) (by kernel_rfl) (fun _ _ _ h => h) (Or.inl ⟨by rfl, fun w' hSw => exec_load_box (w.heap.size + 1 + 1 + 1 + 1) 47 #[.int .i64 0, .int .i64 0, .int .i64 0, .int .i64 0] _ w' rfl rfl hSw.1 Try.underlying47 rfl (by kernel_rfl)⟩) (by assumption) ?_
    (try simp only [Act.put, List.setIfInBounds_toArray, List.set_cons_zero, List.set_cons_succ])
    refine wpAnyH_ready (rs := [2]) (by kernel_rfl) (by simp) ?_
    refine AllReadyH.cons (o := ⟨none, _, _, _, _, _⟩) rfl (fun K hK => ?_) AllReadyH.nil
    refine wp_store_any 24 _ _ rfl (w.heap.size + 1 + 1) #[.int .i64 0, .int .i64 0, .int .i64 0] rfl rfl 24 #[.int .i64 0, .int .i64 0, .int .i64 0] (HP2.out.drew) (by kernel_rfl) rfl (one3 _ _ _) (fun w8 u => ?_)
    refine hK.out _ _ (⟨u.bx hHeld.1 (by omega), u.bx hHeld.2 (by omega)⟩) (fun hHeld => ?_)
    clear hK K
    (try simp only [Act.put])
    refine wpAnyH_ready (rs := [3]) (by kernel_rfl) (by simp) ?_
    refine AllReadyH.cons (o := ⟨none, _, _, _, _, _⟩) rfl (fun K hK => ?_) AllReadyH.nil
    refine wp_store_any 47 _ _ rfl (w.heap.size + 1 + 1 + 1) #[.int .i64 0, .int .i64 0, .int .i64 0, .int .i64 0] rfl rfl 47 #[.int .i64 0, .int .i64 0, .int .i64 0, .int .i64 0] (u.bx HQ2.out.drew (by omega)) (by kernel_rfl) rfl (one4 _ _ _ _) (fun w9 u2 => ?_)
    refine hK.out _ _ (⟨u2.bx hHeld.1 (by omega), u2.bx hHeld.2 (by omega)⟩) (fun hHeld => ?_)
    clear hK K
    (try simp only [Act.put])
    refine wpAnyH_take (i := 4) (oi := ⟨some 8, _, _, _, _, _⟩) (v := ?_) rfl (by kernel_rfl) (by kernel_rfl) (by kernel_rfl) (fun _ _ _ h => h) (Or.inl ⟨by rfl, ?_⟩) (by assumption) ?_
    rotate_left
    · (intro w' hSw; clear hSw; go_simp; try (with_reducible rfl))
    (try simp only [Act.put, List.setIfInBounds_toArray, List.set_cons_zero, List.set_cons_succ])
    refine wpAnyH_done (by kernel_rfl) ?_ _
    refine NoPanic.normal ?_
    go_wp2_with fail
    refine bodyPost_ret (results_box22 Try.results21 _ _ (w.heap.size + 1 + 1) (w.heap.size + 1 + 1 + 1) 24 47 #[.int .i64 0, .int .i64 0, .int .i64 0] #[.int .i64 0, .int .i64 0, .int .i64 0, .int .i64 0] _ _ (.int .i64 1) rfl (u2.bx u.box (by omega)) rfl u2.box rfl Try.underlying24 rfl (by kernel_rfl) Try.underlying47 rfl (by kernel_rfl)) rfl ⟨rfl, ?_⟩
    exact ((b_dr HB2.out).trans (u.bel _ (by omega))).trans (u2.bel _ (by omega))
  rw [decide_eq_true c1] at CF
  by_cases c2 : aloneV k a b = 0
  case neg =>
    obtain ⟨e0, he⟩ : ∃ e0, aloneV k a b = e0 := ⟨_, rfl⟩
    rw [he] at c2
    rw [over_rec (spot_yes c0 c1) he c2]
    have HE0 := Lib.hid he
    have hne : (e0 != 0) = true := by simp [c2]
    clear he c0 c1 c2 h hf hn
    have S0 : Bx (((((w.alloc (.cells #[.int .i64 i, .int .i64 x, .int .i64 y] 24)).alloc (.cells #[.int .i64 k, .int .i64 a, .int .i64 b] 46)).alloc (.cells #[.int .i64 0, .int .i64 0, .int .i64 0] 24)).alloc (.cells #[.int .i64 0, .int .i64 0, .int .i64 0, .int .i64 0] 47)).alloc (.cells #[.int .i64 0, .int .i64 0, .int .i64 0, .int .i64 0] 47)) (w.heap.size) 24 #[.int .i64 i, .int .i64 x, .int .i64 y] := ((((Bx.new (W := w) _ _ rfl).alloc _).alloc _).alloc _).alloc _
    have R0 : Bx (((((w.alloc (.cells #[.int .i64 i, .int .i64 x, .int .i64 y] 24)).alloc (.cells #[.int .i64 k, .int .i64 a, .int .i64 b] 46)).alloc (.cells #[.int .i64 0, .int .i64 0, .int .i64 0] 24)).alloc (.cells #[.int .i64 0, .int .i64 0, .int .i64 0, .int .i64 0] 47)).alloc (.cells #[.int .i64 0, .int .i64 0, .int .i64 0, .int .i64 0] 47)) (w.heap.size + 1) 46 #[.int .i64 k, .int .i64 a, .int .i64 b] := (((Bx.new (W := w.alloc (.cells #[.int .i64 i, .int .i64 x, .int .i64 y] 24)) _ _ (by simp)).alloc _).alloc _).alloc _
    have P0 : Bx (((((w.alloc (.cells #[.int .i64 i, .int .i64 x, .int .i64 y] 24)).alloc (.cells #[.int .i64 k, .int .i64 a, .int .i64 b] 46)).alloc (.cells #[.int .i64 0, .int .i64 0, .int .i64 0] 24)).alloc (.cells #[.int .i64 0, .int .i64 0, .int .i64 0, .int .i64 0] 47)).alloc (.cells #[.int .i64 0, .int .i64 0, .int .i64 0, .int .i64 0] 47)) (w.heap.size + 1 + 1) 24 #[.int .i64 0, .int .i64 0, .int .i64 0] := ((Bx.new (W := (w.alloc (.cells #[.int .i64 i, .int .i64 x, .int .i64 y] 24)).alloc (.cells #[.int .i64 k, .int .i64 a, .int .i64 b] 46)) _ _ (by simp)).alloc _).alloc _
    have Q0 : Bx (((((w.alloc (.cells #[.int .i64 i, .int .i64 x, .int .i64 y] 24)).alloc (.cells #[.int .i64 k, .int .i64 a, .int .i64 b] 46)).alloc (.cells #[.int .i64 0, .int .i64 0, .int .i64 0] 24)).alloc (.cells #[.int .i64 0, .int .i64 0, .int .i64 0, .int .i64 0] 47)).alloc (.cells #[.int .i64 0, .int .i64 0, .int .i64 0, .int .i64 0] 47)) (w.heap.size + 1 + 1 + 1) 47 #[.int .i64 0, .int .i64 0, .int .i64 0, .int .i64 0] := (Bx.new (W := ((w.alloc (.cells #[.int .i64 i, .int .i64 x, .int .i64 y] 24)).alloc (.cells #[.int .i64 k, .int .i64 a, .int .i64 b] 46)).alloc (.cells #[.int .i64 0, .int .i64 0, .int .i64 0] 24)) _ _ (by simp)).alloc _
    have X0 : Bx (((((w.alloc (.cells #[.int .i64 i, .int .i64 x, .int .i64 y] 24)).alloc (.cells #[.int .i64 k, .int .i64 a, .int .i64 b] 46)).alloc (.cells #[.int .i64 0, .int .i64 0, .int .i64 0] 24)).alloc (.cells #[.int .i64 0, .int .i64 0, .int .i64 0, .int .i64 0] 47)).alloc (.cells #[.int .i64 0, .int .i64 0, .int .i64 0, .int .i64 0] 47)) (w.heap.size + 1 + 1 + 1 + 1) 47 #[.int .i64 0, .int .i64 0, .int .i64 0, .int .i64 0] := Bx.new (W := (((w.alloc (.cells #[.int .i64 i, .int .i64 x, .int .i64 y] 24)).alloc (.cells #[.int .i64 k, .int .i64 a, .int .i64 b] 46)).alloc (.cells #[.int .i64 0, .int .i64 0, .int .i64 0] 24)).alloc (.cells #[.int .i64 0, .int .i64 0, .int .i64 0, .int .i64 0] 47)) _ _ (by simp)
    have B0 : Below w.heap.size w (((((w.alloc (.cells #[.int .i64 i, .int .i64 x, .int .i64 y] 24)).alloc (.cells #[.int .i64 k, .int .i64 a, .int .i64 b] 46)).alloc (.cells #[.int .i64 0, .int .i64 0, .int .i64 0] 24)).alloc (.cells #[.int .i64 0, .int .i64 0, .int .i64 0, .int .i64 0] 47)).alloc (.cells #[.int .i64 0, .int .i64 0, .int .i64 0, .int .i64 0] 47)) := by (repeat (first | exact Below.refl _ _ | (refine b_st ?_ (by first | (simp; done) | (simp; omega))) | (refine b_al ?_ (Nat.le_refl _) _) | refine b_dn ?_ | refine b_dr ?_ | (refine b_cl ?_ (Nat.le_refl _) (by assumption))))
    have HS0 := Lib.hid S0
    have HR0 := Lib.hid R0
    have HP0 := Lib.hid P0
    have HQ0 := Lib.hid Q0
    have HX0 := Lib.hid X0
    have HB0 := Lib.hid B0
    clear S0 R0 P0 Q0 X0 B0
    go_enter Try.func21, Try.ntmps21
    go_upto_region 9 with (first
      | (go_at_call 9; refine (CC _ (HK.out.below HB0.out)).mono ?_; rintro e w1 ⟨rfl, hb1⟩; have HS1 := Lib.hid (HS0.out.below hb1); have HR1 := Lib.hid (HR0.out.below hb1); have HP1 := Lib.hid (HP0.out.below hb1); have HQ1 := Lib.hid (HQ0.out.below hb1); have HX1 := Lib.hid (HX0.out.below hb1); have HB1 := Lib.hid (b_cl HB0.out (Nat.le_refl _) hb1); clear hb1; have lt1 : w.heap.size + 1 + 1 + 1 + 1 < w1.heap.size := HX1.out.lt; have lta1 : w.heap.size < w1.heap.size := (by omega); have ltb1 : w.heap.size + 1 < w1.heap.size := (by omega); have s0_1 := HS1.out.cell (k := 0) rfl; have s1_1 := HS1.out.cell (k := 1) rfl; have s2_1 := HS1.out.cell (k := 2) rfl; have r0_1 := HR1.out.cell (k := 0) rfl; have r1_1 := HR1.out.cell (k := 1) rfl; have r2_1 := HR1.out.cell (k := 2) rfl)
      | (go_at_call 12; refine (CF _ (HK.out.below HB1.out)).mono ?_; rintro e w2 ⟨rfl, hb2⟩; have HS2 := Lib.hid (HS1.out.below hb2); have HR2 := Lib.hid (HR1.out.below hb2); have HP2 := Lib.hid (HP1.out.below hb2); have HQ2 := Lib.hid (HQ1.out.below hb2); have HX2 := Lib.hid (HX1.out.below hb2); have HB2 := Lib.hid (b_cl HB1.out (Nat.le_refl _) hb2); clear hb2; have lt2 : w.heap.size + 1 + 1 + 1 + 1 < w2.heap.size := HX2.out.lt; have lta2 : w.heap.size < w2.heap.size := (by omega); have ltb2 : w.heap.size + 1 < w2.heap.size := (by omega); have s0_2 := HS2.out.cell (k := 0) rfl; have s1_2 := HS2.out.cell (k := 1) rfl; have s2_2 := HS2.out.cell (k := 2) rfl; have r0_2 := HR2.out.cell (k := 0) rfl; have r1_2 := HR2.out.cell (k := 1) rfl; have r2_2 := HR2.out.cell (k := 2) rfl)
      | (go_at_call 31; (with_reducible refine (refcheck_alone k a b _ _ ?_ ?_ ?_).mono ?_); (focus simp); (focus simp); (focus simp); rintro e w3 ⟨rfl, hb3⟩; rw [HE0.out]; have HS3 := Lib.hid ((HS2.out.alloc _).below hb3); have HR3 := Lib.hid ((HR2.out.alloc _).below hb3); have HP3 := Lib.hid ((HP2.out.alloc _).below hb3); have HQ3 := Lib.hid ((HQ2.out.alloc _).below hb3); have HX3 := Lib.hid ((HX2.out.alloc _).below hb3); have HB3 := Lib.hid (b_cl (b_al HB2.out (Nat.le_refl _) _) (Nat.le_refl _) hb3); clear hb3; have lt3 : w.heap.size + 1 + 1 + 1 + 1 < w3.heap.size := HX3.out.lt; have lta3 : w.heap.size < w3.heap.size := (by omega); have ltb3 : w.heap.size + 1 < w3.heap.size := (by omega); have s0_3 := HS3.out.cell (k := 0) rfl; have s1_3 := HS3.out.cell (k := 1) rfl; have s2_3 := HS3.out.cell (k := 2) rfl; have r0_3 := HR3.out.cell (k := 0) rfl; have r1_3 := HR3.out.cell (k := 1) rfl; have r2_3 := HR3.out.cell (k := 2) rfl))
    refine wp_region_noPanic ?_
    refine wp_region_held_drew (S := fun w' => Bx w' (w.heap.size + 1 + 1 + 1 + 1) 47 #[.int .i64 0, .int .i64 0, .int .i64 0, .int .i64 0] ∧ Bx w' (w.heap.size) 24 #[.int .i64 i, .int .i64 x, .int .i64 y]) (by kernel_rfl) ?_ (fun hHeld => ?_)
    · exact ⟨HX3.out.drew, HS3.out.drew⟩
    refine wpAnyH_take (i := 0) (oi := ⟨some 37, _, _, _, _, _⟩) (v := ?_) rfl (by kernel_rfl) (by kernel_rfl) (by kernel_rfl) (fun _ _ _ h => h) (Or.inl ⟨by rfl, ?_⟩) (by assumption) ?_
    rotate_left
    · (intro w' hSw; clear hSw; go_simp; try (with_reducible rfl))
    (try simp only [Act.put, List.setIfInBounds_toArray, List.set_cons_zero, List.set_cons_succ])
    refine wpAnyH_take (i := 1) (oi := ⟨some 38, _, _, _, _, _⟩) (v := .agg #[.int .i64 0, .int .i64 0, .int .i64 0, .int .i64 0]) rfl (by kernel_rfl) (by kernel_rfl) (by kernel_rfl) (fun _ _ _ h => h) (Or.inl ⟨by rfl, fun w' hSw => exec_load_box (w.heap.size + 1 + 1 + 1 + 1) 47 #[.int .i64 0, .int .i64 0, .int .i64 0, .int .i64 0] _ w' rfl rfl hSw.1 Try.underlying47 rfl (by kernel_rfl)⟩) (by assumption) ?_
    (try simp only [Act.put, List.setIfInBounds_toArray, List.set_cons_zero, List.set_cons_succ])
    refine wpAnyH_take (i := 2) (oi := ⟨some 39, _, _, _, _, _⟩) (v := ?_) rfl (by kernel_rfl) (by kernel_rfl) (by kernel_rfl) (fun _ _ _ h => h) (Or.inl ⟨by rfl, ?_⟩) (by assumption) ?_
    rotate_left
    · (intro w' hSw; clear hSw; go_simp; try (with_reducible rfl))
    (try simp only [Act.put, List.setIfInBounds_toArray, List.set_cons_zero, List.set_cons_succ])
    refine wpAnyH_ready (rs := [3]) (by kernel_rfl) (by simp) ?_
    refine AllReadyH.cons (o := ⟨none, _, _, _, _, _⟩) rfl (fun K hK => ?_) AllReadyH.nil
    refine wp_store_any 24 _ _ rfl (w.heap.size + 1 + 1) #[.int .i64 0, .int .i64 0, .int .i64 0] rfl rfl 24 #[.int .i64 0, .int .i64 0, .int .i64 0] (HP3.out.drew) (by kernel_rfl) rfl (one3 _ _ _) (fun w8 u => ?_)
    refine hK.out _ _ (⟨u.bx hHeld.1 (by omega), u.bx hHeld.2 (by omega)⟩) (fun hHeld => ?_)
    clear hK K
    (try simp only [Act.put])
    refine wpAnyH_ready (rs := [4]) (by kernel_rfl) (by simp) ?_
    refine AllReadyH.cons (o := ⟨none, _, _, _, _, _⟩) rfl (fun K hK => ?_) AllReadyH.nil
    refine wp_store_any 47 _ _ rfl (w.heap.size + 1 + 1 + 1) #[.int .i64 0, .int .i64 0, .int .i64 0, .int .i64 0] rfl rfl 47 #[.int .i64 0, .int .i64 0, .int .i64 0, .int .i64 0] (u.bx HQ3.out.drew (by omega)) (by kernel_rfl) rfl (one4 _ _ _ _) (fun w9 u2 => ?_)
    refine hK.out _ _ (⟨u2.bx hHeld.1 (by omega), u2.bx hHeld.2 (by omega)⟩) (fun hHeld => ?_)
    clear hK K
    (try simp only [Act.put])
    refine wpAnyH_take (i := 5) (oi := ⟨some 8, _, _, _, _, _⟩) (v := ?_) rfl (by kernel_rfl) (by kernel_rfl) (by kernel_rfl) (fun _ _ _ h => h) (Or.inl ⟨by rfl, ?_⟩) (by assumption) ?_
    rotate_left
    · (intro w' hSw; clear hSw; go_simp; try (with_reducible rfl))
    (try simp only [Act.put, List.setIfInBounds_toArray, List.set_cons_zero, List.set_cons_succ])
    refine wpAnyH_done (by kernel_rfl) ?_ _
    refine NoPanic.normal ?_
    go_wp2_with fail
    refine bodyPost_ret (results_box22 Try.results21 _ _ (w.heap.size + 1 + 1) (w.heap.size + 1 + 1 + 1) 24 47 #[.int .i64 0, .int .i64 0, .int .i64 0] #[.int .i64 0, .int .i64 0, .int .i64 0, .int .i64 0] _ _ (.int .i64 e0) rfl (u2.bx u.box (by omega)) rfl u2.box rfl Try.underlying24 rfl (by kernel_rfl) Try.underlying47 rfl (by kernel_rfl)) rfl ⟨rfl, ?_⟩
    exact ((b_dr HB3.out).trans (u.bel _ (by omega))).trans (u2.bel _ (by omega))
  obtain ⟨ok, hl⟩ := checkt_zero c0
  obtain ⟨⟨k0, k1⟩, a0, ab, bh⟩ := alone_zero.1 c2
  rw [hn] at hl
  have HN := Lib.hid hn
  have HFT := Lib.hid c1
  have HOK := Lib.hid ok
  have HFW := Lib.hid hf
  have HC2 := Lib.hid c2
  obtain ⟨⟨⟨i2, x2, y2⟩, e0, e1, e2, e3⟩, hR⟩ : ∃ R, runK l k (b - a).toNat a ((i, x, y), -1, -1, -1, -1) = R := ⟨_, rfl⟩
  rw [over_ok (spot_yes c0 c1) c2 hR]
  unfold sp3 fs4
  simp only
  have HR9 := Lib.hid hR
  clear hR ok c0 c1 c2 h hf hn
  have S0 : Bx (((((w.alloc (.cells #[.int .i64 i, .int .i64 x, .int .i64 y] 24)).alloc (.cells #[.int .i64 k, .int .i64 a, .int .i64 b] 46)).alloc (.cells #[.int .i64 0, .int .i64 0, .int .i64 0] 24)).alloc (.cells #[.int .i64 0, .int .i64 0, .int .i64 0, .int .i64 0] 47)).alloc (.cells #[.int .i64 0, .int .i64 0, .int .i64 0, .int .i64 0] 47)) (w.heap.size) 24 #[.int .i64 i, .int .i64 x, .int .i64 y] := ((((Bx.new (W := w) _ _ rfl).alloc _).alloc _).alloc _).alloc _
  have R0 : Bx (((((w.alloc (.cells #[.int .i64 i, .int .i64 x, .int .i64 y] 24)).alloc (.cells #[.int .i64 k, .int .i64 a, .int .i64 b] 46)).alloc (.cells #[.int .i64 0, .int .i64 0, .int .i64 0] 24)).alloc (.cells #[.int .i64 0, .int .i64 0, .int .i64 0, .int .i64 0] 47)).alloc (.cells #[.int .i64 0, .int .i64 0, .int .i64 0, .int .i64 0] 47)) (w.heap.size + 1) 46 #[.int .i64 k, .int .i64 a, .int .i64 b] := (((Bx.new (W := w.alloc (.cells #[.int .i64 i, .int .i64 x, .int .i64 y] 24)) _ _ (by simp)).alloc _).alloc _).alloc _
  have P0 : Bx (((((w.alloc (.cells #[.int .i64 i, .int .i64 x, .int .i64 y] 24)).alloc (.cells #[.int .i64 k, .int .i64 a, .int .i64 b] 46)).alloc (.cells #[.int .i64 0, .int .i64 0, .int .i64 0] 24)).alloc (.cells #[.int .i64 0, .int .i64 0, .int .i64 0, .int .i64 0] 47)).alloc (.cells #[.int .i64 0, .int .i64 0, .int .i64 0, .int .i64 0] 47)) (w.heap.size + 1 + 1) 24 #[.int .i64 0, .int .i64 0, .int .i64 0] := ((Bx.new (W := (w.alloc (.cells #[.int .i64 i, .int .i64 x, .int .i64 y] 24)).alloc (.cells #[.int .i64 k, .int .i64 a, .int .i64 b] 46)) _ _ (by simp)).alloc _).alloc _
  have Q0 : Bx (((((w.alloc (.cells #[.int .i64 i, .int .i64 x, .int .i64 y] 24)).alloc (.cells #[.int .i64 k, .int .i64 a, .int .i64 b] 46)).alloc (.cells #[.int .i64 0, .int .i64 0, .int .i64 0] 24)).alloc (.cells #[.int .i64 0, .int .i64 0, .int .i64 0, .int .i64 0] 47)).alloc (.cells #[.int .i64 0, .int .i64 0, .int .i64 0, .int .i64 0] 47)) (w.heap.size + 1 + 1 + 1) 47 #[.int .i64 0, .int .i64 0, .int .i64 0, .int .i64 0] := (Bx.new (W := ((w.alloc (.cells #[.int .i64 i, .int .i64 x, .int .i64 y] 24)).alloc (.cells #[.int .i64 k, .int .i64 a, .int .i64 b] 46)).alloc (.cells #[.int .i64 0, .int .i64 0, .int .i64 0] 24)) _ _ (by simp)).alloc _
  have X0 : Bx (((((w.alloc (.cells #[.int .i64 i, .int .i64 x, .int .i64 y] 24)).alloc (.cells #[.int .i64 k, .int .i64 a, .int .i64 b] 46)).alloc (.cells #[.int .i64 0, .int .i64 0, .int .i64 0] 24)).alloc (.cells #[.int .i64 0, .int .i64 0, .int .i64 0, .int .i64 0] 47)).alloc (.cells #[.int .i64 0, .int .i64 0, .int .i64 0, .int .i64 0] 47)) (w.heap.size + 1 + 1 + 1 + 1) 47 #[.int .i64 0, .int .i64 0, .int .i64 0, .int .i64 0] := Bx.new (W := (((w.alloc (.cells #[.int .i64 i, .int .i64 x, .int .i64 y] 24)).alloc (.cells #[.int .i64 k, .int .i64 a, .int .i64 b] 46)).alloc (.cells #[.int .i64 0, .int .i64 0, .int .i64 0] 24)).alloc (.cells #[.int .i64 0, .int .i64 0, .int .i64 0, .int .i64 0] 47)) _ _ (by simp)
  have B0 : Below w.heap.size w (((((w.alloc (.cells #[.int .i64 i, .int .i64 x, .int .i64 y] 24)).alloc (.cells #[.int .i64 k, .int .i64 a, .int .i64 b] 46)).alloc (.cells #[.int .i64 0, .int .i64 0, .int .i64 0] 24)).alloc (.cells #[.int .i64 0, .int .i64 0, .int .i64 0, .int .i64 0] 47)).alloc (.cells #[.int .i64 0, .int .i64 0, .int .i64 0, .int .i64 0] 47)) := by (repeat (first | exact Below.refl _ _ | (refine b_st ?_ (by first | (simp; done) | (simp; omega))) | (refine b_al ?_ (Nat.le_refl _) _) | refine b_dn ?_ | refine b_dr ?_ | (refine b_cl ?_ (Nat.le_refl _) (by assumption))))
  have HS0 := Lib.hid S0
  have HR0 := Lib.hid R0
  have HP0 := Lib.hid P0
  have HQ0 := Lib.hid Q0
  have HX0 := Lib.hid X0
  have HB0 := Lib.hid B0
  clear S0 R0 P0 Q0 X0 B0
  go_enter Try.func21, Try.ntmps21
  go_wp2_with (first
    | (go_at_call 9; refine (CC _ (HK.out.below HB0.out)).mono ?_; rintro e w1 ⟨rfl, hb1⟩; have HS1 := Lib.hid (HS0.out.below hb1); have HR1 := Lib.hid (HR0.out.below hb1); have HP1 := Lib.hid (HP0.out.below hb1); have HQ1 := Lib.hid (HQ0.out.below hb1); have HX1 := Lib.hid (HX0.out.below hb1); have HB1 := Lib.hid (b_cl HB0.out (Nat.le_refl _) hb1); clear hb1; have lt1 : w.heap.size + 1 + 1 + 1 + 1 < w1.heap.size := HX1.out.lt; have lta1 : w.heap.size < w1.heap.size := (by omega); have ltb1 : w.heap.size + 1 < w1.heap.size := (by omega); have s0_1 := HS1.out.cell (k := 0) rfl; have s1_1 := HS1.out.cell (k := 1) rfl; have s2_1 := HS1.out.cell (k := 2) rfl; have r0_1 := HR1.out.cell (k := 0) rfl; have r1_1 := HR1.out.cell (k := 1) rfl; have r2_1 := HR1.out.cell (k := 2) rfl)
    | (go_at_call 12; refine (CF _ (HK.out.below HB1.out)).mono ?_; rintro e w2 ⟨rfl, hb2⟩; have HS2 := Lib.hid (HS1.out.below hb2); have HR2 := Lib.hid (HR1.out.below hb2); have HP2 := Lib.hid (HP1.out.below hb2); have HQ2 := Lib.hid (HQ1.out.below hb2); have HX2 := Lib.hid (HX1.out.below hb2); have HB2 := Lib.hid (b_cl HB1.out (Nat.le_refl _) hb2); clear hb2; have lt2 : w.heap.size + 1 + 1 + 1 + 1 < w2.heap.size := HX2.out.lt; have lta2 : w.heap.size < w2.heap.size := (by omega); have ltb2 : w.heap.size + 1 < w2.heap.size := (by omega); have s0_2 := HS2.out.cell (k := 0) rfl; have s1_2 := HS2.out.cell (k := 1) rfl; have s2_2 := HS2.out.cell (k := 2) rfl; have r0_2 := HR2.out.cell (k := 0) rfl; have r1_2 := HR2.out.cell (k := 1) rfl; have r2_2 := HR2.out.cell (k := 2) rfl)
    | (go_at_call 31; (with_reducible refine (refcheck_alone k a b _ _ ?_ ?_ ?_).mono ?_); (focus simp); (focus simp); (focus simp); rintro e w3 ⟨rfl, hb3⟩; rw [HC2.out]; have HS3 := Lib.hid ((HS2.out.alloc _).below hb3); have HR3 := Lib.hid ((HR2.out.alloc _).below hb3); have HP3 := Lib.hid ((HP2.out.alloc _).below hb3); have HQ3 := Lib.hid ((HQ2.out.alloc _).below hb3); have HX3 := Lib.hid ((HX2.out.alloc _).below hb3); have HB3 := Lib.hid (b_cl (b_al HB2.out (Nat.le_refl _) _) (Nat.le_refl _) hb3); clear hb3; have lt3 : w.heap.size + 1 + 1 + 1 + 1 < w3.heap.size := HX3.out.lt; have lta3 : w.heap.size < w3.heap.size := (by omega); have ltb3 : w.heap.size + 1 < w3.heap.size := (by omega); have s0_3 := HS3.out.cell (k := 0) rfl; have s1_3 := HS3.out.cell (k := 1) rfl; have s2_3 := HS3.out.cell (k := 2) rfl; have r0_3 := HR3.out.cell (k := 0) rfl; have r1_3 := HR3.out.cell (k := 1) rfl; have r2_3 := HR3.out.cell (k := 2) rfl))
  have HFr := Lib.hid (HX3.out.free)
  go_loopw [11] (fun s11 wr => (s11 = .int .i64 0 ∧ Hid (Upd w3 (w.heap.size + 1 + 1 + 1 + 1) 47 #[.int .i64 0, .int .i64 0, .int .i64 0, .int .i64 0] wr)) ∨ (s11 = .int .i64 1 ∧ Hid (Upd w3 (w.heap.size + 1 + 1 + 1 + 1) 47 #[.int .i64 (-1), .int .i64 0, .int .i64 0, .int .i64 0] wr)) ∨ (s11 = .int .i64 2 ∧ Hid (Upd w3 (w.heap.size + 1 + 1 + 1 + 1) 47 #[.int .i64 (-1), .int .i64 (-1), .int .i64 0, .int .i64 0] wr)) ∨ (s11 = .int .i64 3 ∧ Hid (Upd w3 (w.heap.size + 1 + 1 + 1 + 1) 47 #[.int .i64 (-1), .int .i64 (-1), .int .i64 (-1), .int .i64 0] wr)) ∨ (s11 = .int .i64 4 ∧ Hid (Upd w3 (w.heap.size + 1 + 1 + 1 + 1) 47 #[.int .i64 (-1), .int .i64 (-1), .int .i64 (-1), .int .i64 (-1)] wr))) (fun s11 _ => 4 - (intOf s11).toNat)
  case atStart => exact Or.inl ⟨rfl, Lib.hid (Upd.same HX3.out)⟩
  case round =>
    rcases hrel with ⟨rfl, U⟩ | ⟨rfl, U⟩ | ⟨rfl, U⟩ | ⟨rfl, U⟩ | ⟨rfl, U⟩
    · have z : wr.frozen? ⟨w.heap.size + 1 + 1 + 1 + 1, 0, none⟩ = false := U.out.box.free 0
      have zc := U.out.box.cell (k := 0) rfl
      have zl := U.out.box.lt
      go_wp2
      go_roundw
      case rel => exact Or.inr (Or.inl ⟨by go_num, Lib.hid (U.out.trans (U.out.box.setOne (k := 0) (v := .int .i64 (-1))))⟩)
      case measure => simp [intOf]
    · have z : wr.frozen? ⟨w.heap.size + 1 + 1 + 1 + 1, 1, none⟩ = false := U.out.box.free 1
      have zc := U.out.box.cell (k := 1) rfl
      have zl := U.out.box.lt
      go_wp2
      go_roundw
      case rel => exact Or.inr (Or.inr (Or.inl ⟨by go_num, Lib.hid (U.out.trans (U.out.box.setOne (k := 1) (v := .int .i64 (-1))))⟩))
      case measure => simp [intOf]
    · have z : wr.frozen? ⟨w.heap.size + 1 + 1 + 1 + 1, 2, none⟩ = false := U.out.box.free 2
      have zc := U.out.box.cell (k := 2) rfl
      have zl := U.out.box.lt
      go_wp2
      go_roundw
      case rel => exact Or.inr (Or.inr (Or.inr (Or.inl ⟨by go_num, Lib.hid (U.out.trans (U.out.box.setOne (k := 2) (v := .int .i64 (-1))))⟩)))
      case measure => simp [intOf]
    · have z : wr.frozen? ⟨w.heap.size + 1 + 1 + 1 + 1, 3, none⟩ = false := U.out.box.free 3
      have zc := U.out.box.cell (k := 3) rfl
      have zl := U.out.box.lt
      go_wp2
      go_roundw
      case rel => exact Or.inr (Or.inr (Or.inr (Or.inr (⟨by go_num, Lib.hid (U.out.trans (U.out.box.setOne (k := 3) (v := .int .i64 (-1))))⟩))))
      case measure => simp [intOf]
    have HS4 := Lib.hid (U.out.bx HS3.out (by omega))
    have HR4 := Lib.hid (U.out.bx HR3.out (by omega))
    have HP4 := Lib.hid (U.out.bx HP3.out (by omega))
    have HQ4 := Lib.hid (U.out.bx HQ3.out (by omega))
    have HX4 := Lib.hid U.out.box
    have HB4 := Lib.hid (HB3.out.trans (U.out.bel _ (by omega)))
    have r1_4 := HR4.out.cell (k := 1) rfl
    have lt4 := HX4.out.lt
    clear U
    go_wp2
    go_loopw [12] (fun s12 wr => ∃ (m : Int) (t : Pt) (g0 g1 g2 g3 : Int), s12 = .int .i64 m ∧ a ≤ m ∧ m ≤ b ∧ Hid (runK l k (m - a).toNat a ((i, x, y), -1, -1, -1, -1) = (t, g0, g1, g2, g3)) ∧ Hid (Fits l t) ∧ Hid (Bx wr (w.heap.size) 24 #[.int .i64 t.1, .int .i64 t.2.1, .int .i64 t.2.2]) ∧ Hid (Bx wr (w.heap.size + 1) 46 #[.int .i64 k, .int .i64 a, .int .i64 b]) ∧ Hid (Bx wr (w.heap.size + 1 + 1) 24 #[.int .i64 0, .int .i64 0, .int .i64 0]) ∧ Hid (Bx wr (w.heap.size + 1 + 1 + 1) 47 #[.int .i64 0, .int .i64 0, .int .i64 0, .int .i64 0]) ∧ Hid (Bx wr (w.heap.size + 1 + 1 + 1 + 1) 47 #[.int .i64 g0, .int .i64 g1, .int .i64 g2, .int .i64 g3]) ∧ Hid (Below w.heap.size w wr)) (fun s12 _ => (b - intOf s12).toNat)
    case atStart => exact ⟨a, (i, x, y), -1, -1, -1, -1, rfl, by omega, by omega, Lib.hid (by rw [Int.sub_self]; rfl), HFT, HS4, HR4, HP4, HQ4, HX4, HB4⟩
    case round =>
      clear HS4 HR4 HP4 HQ4 HX4 HB4 r1_4 lt4 HS3 HR3 HP3 HQ3 HX3 HB3
      obtain ⟨m, ⟨j, p, q⟩, g0, g1, g2, g3, rfl, m0, m1, HRR, FT, HS4, HR4, HP4, HQ4, HX4, HB4⟩ := hrel
      obtain ⟨w4, rfl⟩ : ∃ w4 : World, w4 = wr := ⟨_, rfl⟩
      simp only at HS4
      have lt4 : w.heap.size + 1 + 1 + 1 + 1 < w4.heap.size := HX4.out.lt
      have lta4 : w.heap.size < w4.heap.size := by omega
      have ltb4 : w.heap.size + 1 < w4.heap.size := by omega
      have q0 := HS4.out.cell (k := 0) rfl
      have q1 := HS4.out.cell (k := 1) rfl
      have q2 := HS4.out.cell (k := 2) rfl
      have v0 := HR4.out.cell (k := 0) rfl
      have v2 := HR4.out.cell (k := 2) rfl
      by_cases hm : m < b
      case neg =>
        obtain rfl : m = b := by omega
        obtain ⟨⟨rfl, rfl, rfl⟩, rfl, rfl, rfl, rfl⟩ : (j = i2 ∧ p = x2 ∧ q = y2) ∧ g0 = e0 ∧ g1 = e1 ∧ g2 = e2 ∧ g3 = e3 := by
          have := HRR.out.symm.trans HR9.out
          simp only [Prod.mk.injEq] at this
          exact ⟨⟨this.1.1, this.1.2.1, this.1.2.2⟩, this.2.1, this.2.2.1, this.2.2.2.1, this.2.2.2.2⟩
        go_upto_region 24 with fail
        refine wp_region_noPanic ?_
        refine wp_region_held_drew (S := fun w' => Bx w' (w.heap.size + 1 + 1 + 1 + 1) 47 #[.int .i64 g0, .int .i64 g1, .int .i64 g2, .int .i64 g3] ∧ Bx w' (w.heap.size) 24 #[.int .i64 j, .int .i64 p, .int .i64 q]) (by kernel_rfl) ?_ (fun hHeld => ?_)
        · exact ⟨HX4.out.drew, HS4.out.drew⟩
        refine wpAnyH_take (i := 0) (oi := ⟨some 80, _, _, _, _, _⟩) (v := .agg #[.int .i64 j, .int .i64 p, .int .i64 q]) rfl (by kernel_rfl) (by kernel_rfl) (by kernel_rfl) (fun _ _ _ h => h) (Or.inl ⟨by rfl, fun w' hSw => exec_load_box (w.heap.size) 24 #[.int .i64 j, .int .i64 p, .int .i64 q] _ w' rfl rfl hSw.2 Try.underlying24 rfl (by kernel_rfl)⟩) (by assumption) ?_
        (try simp only [Act.put, List.setIfInBounds_toArray, List.set_cons_zero, List.set_cons_succ])
        refine wpAnyH_take (i := 1) (oi := ⟨some 81, _, _, _, _, _⟩) (v := .agg #[.int .i64 g0, .int .i64 g1, .int .i64 g2, .int .i64 g3]) rfl (by kernel_rfl) (by kernel_rfl) (by kernel_rfl) (fun _ _ _ h => h) (Or.inl ⟨by rfl, fun w' hSw => exec_load_box (w.heap.size + 1 + 1 + 1 + 1) 47 #[.int .i64 g0, .int .i64 g1, .int .i64 g2, .int .i64 g3] _ w' rfl rfl hSw.1 Try.underlying47 rfl (by kernel_rfl)⟩) (by assumption) ?_
        (try simp only [Act.put, List.setIfInBounds_toArray, List.set_cons_zero, List.set_cons_succ])
        refine wpAnyH_ready (rs := [2]) (by kernel_rfl) (by simp) ?_
        refine AllReadyH.cons (o := ⟨none, _, _, _, _, _⟩) rfl (fun K hK => ?_) AllReadyH.nil
        refine wp_store_any 24 _ _ rfl (w.heap.size + 1 + 1) #[.int .i64 j, .int .i64 p, .int .i64 q] rfl rfl 24 #[.int .i64 0, .int .i64 0, .int .i64 0] (HP4.out.drew) (by kernel_rfl) rfl (one3 _ _ _) (fun w8 u => ?_)
        refine hK.out _ _ (⟨u.bx hHeld.1 (by omega), u.bx hHeld.2 (by omega)⟩) (fun hHeld => ?_)
        clear hK K
        (try simp only [Act.put])
        refine wpAnyH_ready (rs := [3]) (by kernel_rfl) (by simp) ?_
        refine AllReadyH.cons (o := ⟨none, _, _, _, _, _⟩) rfl (fun K hK => ?_) AllReadyH.nil
        refine wp_store_any 47 _ _ rfl (w.heap.size + 1 + 1 + 1) #[.int .i64 g0, .int .i64 g1, .int .i64 g2, .int .i64 g3] rfl rfl 47 #[.int .i64 0, .int .i64 0, .int .i64 0, .int .i64 0] (u.bx HQ4.out.drew (by omega)) (by kernel_rfl) rfl (one4 _ _ _ _) (fun w9 u2 => ?_)
        refine hK.out _ _ (⟨u2.bx hHeld.1 (by omega), u2.bx hHeld.2 (by omega)⟩) (fun hHeld => ?_)
        clear hK K
        (try simp only [Act.put])
        refine wpAnyH_take (i := 4) (oi := ⟨some 8, _, _, _, _, _⟩) (v := ?_) rfl (by kernel_rfl) (by kernel_rfl) (by kernel_rfl) (fun _ _ _ h => h) (Or.inl ⟨by rfl, ?_⟩) (by assumption) ?_
        rotate_left
        · (intro w' hSw; clear hSw; go_simp; try (with_reducible rfl))
        (try simp only [Act.put, List.setIfInBounds_toArray, List.set_cons_zero, List.set_cons_succ])
        refine wpAnyH_done (by kernel_rfl) ?_ _
        refine NoPanic.normal ?_
        go_wp2_with fail
        refine bodyPost_ret (results_box22 Try.results21 _ _ (w.heap.size + 1 + 1) (w.heap.size + 1 + 1 + 1) 24 47 #[.int .i64 j, .int .i64 p, .int .i64 q] #[.int .i64 g0, .int .i64 g1, .int .i64 g2, .int .i64 g3] _ _ (.int .i64 0) rfl (u2.bx u.box (by omega)) rfl u2.box rfl Try.underlying24 rfl (by kernel_rfl) Try.underlying47 rfl (by kernel_rfl)) rfl ⟨rfl, ?_⟩
        exact ((b_dr HB4.out).trans (u.bel _ (by omega))).trans (u2.bel _ (by omega))
      have HNX := Lib.hid (show runK l k (m + 1 - a).toNat a ((i, x, y), -1, -1, -1, -1) = minT l k m ((j, p, q), g0, g1, g2, g3) by
        rw [show (m + 1 - a).toNat = (m - a).toNat + 1 by omega, runK_snoc, HRR.out, show a + ((m - a).toNat : Int) = m by omega])
      have NF := Lib.hid (step_fits HOK.out FT.out k)
      have CST := fun W (h : RdK W A l) => refstep19_any A n c l HN.out j p q m k W h HFW.out hl HOK.out FT.out
      unfold minT at HNX
      obtain ⟨⟨i3, x3, y3⟩, hP⟩ : ∃ P, stepT l (j, p, q) k = P := ⟨_, rfl⟩
      simp only at HNX NF
      rw [hP] at HNX CST NF
      unfold sp3 at CST
      simp only at CST
      generalize b0 l (j, p, q) k = t0 at HNX CST
      generalize b1 l (j, p, q) k = t1 at HNX CST
      generalize b2 l (j, p, q) m k = t2 at HNX CST
      generalize b3 (j, p, q) k = t3 at HNX CST
      have mb : m + 1 ≤ 40320 := by omega
      have mz : 0 ≤ m := by omega
      clear hP FT HRR
      go_wp2_with (first
        | (go_at_call 19; refine (CST _ (HK.out.below HB4.out)).mono ?_; rintro e w5 ⟨rfl, hb5⟩; have HS5 := Lib.hid (HS4.out.below hb5); have HR5 := Lib.hid (HR4.out.below hb5); have HP5 := Lib.hid (HP4.out.below hb5); have HQ5 := Lib.hid (HQ4.out.below hb5); have HX5 := Lib.hid (HX4.out.below hb5); have HB5 := Lib.hid (b_cl HB4.out (Nat.le_refl _) hb5); have lt5 : w.heap.size + 1 + 1 + 1 + 1 < w5.heap.size := HX5.out.lt; clear hb5 q0 q1 q2 v0 v2)
        | (refine wpList_store_box rfl 24 (.tmp 13) (.tmp 61) rfl w5.heap.size #[.int .i64 i3, .int .i64 x3, .int .i64 y3] rfl rfl 24 #[.int .i64 0, .int .i64 0, .int .i64 0] ((Bx.new (W := w5) _ _ rfl).alloc _) (by kernel_rfl) rfl (one3 _ _ _) (fun w6 u6 => ?_); have HM6 := Lib.hid u6.box; have HT6 := Lib.hid (u6.bx (Bx.new (W := w5.alloc (.cells #[.int .i64 0, .int .i64 0, .int .i64 0] 24)) 41 #[.bool false, .bool false, .bool false, .bool false] (show w5.heap.size + 1 = _ by simp)) (by omega)); have HS6 := Lib.hid (u6.bx ((HS5.out.alloc _).alloc _) (by omega)); have HR6 := Lib.hid (u6.bx ((HR5.out.alloc _).alloc _) (by omega)); have HP6 := Lib.hid (u6.bx ((HP5.out.alloc _).alloc _) (by omega)); have HQ6 := Lib.hid (u6.bx ((HQ5.out.alloc _).alloc _) (by omega)); have HX6 := Lib.hid (u6.bx ((HX5.out.alloc _).alloc _) (by omega)); have HB6 := Lib.hid ((b_al (b_al HB5.out (Nat.le_refl _) _) (Nat.le_refl _) _).trans (u6.bel _ (by omega))); have z6 := u6.size; (try simp at z6); clear u6)
        | (refine wpList_store_box rfl 41 (.tmp 14) (.tmp 62) rfl (w5.heap.size + 1) #[.bool t0, .bool t1, .bool t2, .bool t3] rfl rfl 41 #[.bool false, .bool false, .bool false, .bool false] HT6.out (by kernel_rfl) rfl (oneb _ _ _ _) (fun w7 u7 => ?_); have HT7 := Lib.hid u7.box; have HM7 := Lib.hid (u7.bx HM6.out (by omega)); have HS7 := Lib.hid (u7.bx HS6.out (by omega)); have HR7 := Lib.hid (u7.bx HR6.out (by omega)); have HP7 := Lib.hid (u7.bx HP6.out (by omega)); have HQ7 := Lib.hid (u7.bx HQ6.out (by omega)); have HX7 := Lib.hid (u7.bx HX6.out (by omega)); have HB7 := Lib.hid (HB6.out.trans (u7.bel _ (by omega))); have z7 := u7.size; (try simp at z7); clear u7 HM6 HT6 HS6 HR6 HP6 HQ6 HX6 HB6 HS5 HR5 HP5 HQ5 HX5 HB5))
      go_loopw [15] (fun s wr => (s = .int .i64 0 ∧ Hid (Upd w7 (w.heap.size + 1 + 1 + 1 + 1) 47 #[.int .i64 g0, .int .i64 g1, .int .i64 g2, .int .i64 g3] wr)) ∨ (s = .int .i64 1 ∧ Hid (Upd w7 (w.heap.size + 1 + 1 + 1 + 1) 47 #[.int .i64 (noteF g0 t0 m), .int .i64 g1, .int .i64 g2, .int .i64 g3] wr)) ∨ (s = .int .i64 2 ∧ Hid (Upd w7 (w.heap.size + 1 + 1 + 1 + 1) 47 #[.int .i64 (noteF g0 t0 m), .int .i64 (noteF g1 t1 m), .int .i64 g2, .int .i64 g3] wr)) ∨ (s = .int .i64 3 ∧ Hid (Upd w7 (w.heap.size + 1 + 1 + 1 + 1) 47 #[.int .i64 (noteF g0 t0 m), .int .i64 (noteF g1 t1 m), .int .i64 (noteF g2 t2 m), .int .i64 g3] wr)) ∨ (s = .int .i64 4 ∧ Hid (Upd w7 (w.heap.size + 1 + 1 + 1 + 1) 47 #[.int .i64 (noteF g0 t0 m), .int .i64 (noteF g1 t1 m), .int .i64 (noteF g2 t2 m), .int .i64 (noteF g3 t3 m)] wr))) (fun s _ => 4 - (intOf s).toNat)
      case atStart => exact Or.inl ⟨rfl, Lib.hid (Upd.same HX7.out)⟩
      case round =>
        rcases hrel with ⟨rfl, U⟩ | ⟨rfl, U⟩ | ⟨rfl, U⟩ | ⟨rfl, U⟩ | ⟨rfl, U⟩
        · have z : wr.frozen? ⟨w.heap.size + 1 + 1 + 1 + 1, 0, none⟩ = false := U.out.box.free 0
          have zc : wr.cell? ⟨w.heap.size + 1 + 1 + 1 + 1, 0, none⟩ = some (.int .i64 g0) := U.out.box.cell (k := 0) rfl
          have zt : wr.cell? ⟨w5.heap.size + 1, 0, none⟩ = some (.bool t0) := (U.out.bx HT7.out (by omega)).cell (k := 0) rfl
          have zl := U.out.box.lt
          have zm : w5.heap.size + 1 < wr.heap.size := (U.out.bx HT7.out (by omega)).lt
          by_cases ht : t0 = true
          · subst ht
            by_cases hg : g0 < 0
            · have HT := Lib.hid (note_yes (m := m) hg)
              have hg' : decide (g0 < 0) = true := decide_eq_true hg
              go_wp2
              go_roundw
              case rel => exact Or.inr (Or.inl ⟨by go_num, Lib.hid (by rw [HT.out]; exact U.out.trans (U.out.box.setOne (k := 0) (v := .int .i64 m)))⟩)
              case measure => simp [intOf]
            · have hg' : 0 ≤ g0 := by omega
              have HT := Lib.hid (note_old hg' true m)
              clear hg
              go_wp2
              go_roundw
              case rel => exact Or.inr (Or.inl ⟨by go_num, Lib.hid (by rw [HT.out]; exact U.out)⟩)
              case measure => simp [intOf]
          · have ht2 : t0 = false := by simpa using ht
            subst ht2
            have HT := Lib.hid (note_no g0 m)
            clear ht
            go_wp2
            go_roundw
            case rel => exact Or.inr (Or.inl ⟨by go_num, Lib.hid (by rw [HT.out]; exact U.out)⟩)
            case measure => simp [intOf]
        · have z : wr.frozen? ⟨w.heap.size + 1 + 1 + 1 + 1, 1, none⟩ = false := U.out.box.free 1
          have zc : wr.cell? ⟨w.heap.size + 1 + 1 + 1 + 1, 1, none⟩ = some (.int .i64 g1) := U.out.box.cell (k := 1) rfl
          have zt : wr.cell? ⟨w5.heap.size + 1, 1, none⟩ = some (.bool t1) := (U.out.bx HT7.out (by omega)).cell (k := 1) rfl
          have zl := U.out.box.lt
          have zm : w5.heap.size + 1 < wr.heap.size := (U.out.bx HT7.out (by omega)).lt
          by_cases ht : t1 = true
          · subst ht
            by_cases hg : g1 < 0
            · have HT := Lib.hid (note_yes (m := m) hg)
              have hg' : decide (g1 < 0) = true := decide_eq_true hg
              go_wp2
              go_roundw
              case rel => exact Or.inr (Or.inr (Or.inl ⟨by go_num, Lib.hid (by rw [HT.out]; exact U.out.trans (U.out.box.setOne (k := 1) (v := .int .i64 m)))⟩))
              case measure => simp [intOf]
            · have hg' : 0 ≤ g1 := by omega
              have HT := Lib.hid (note_old hg' true m)
              clear hg
              go_wp2
              go_roundw
              case rel => exact Or.inr (Or.inr (Or.inl ⟨by go_num, Lib.hid (by rw [HT.out]; exact U.out)⟩))
              case measure => simp [intOf]
          · have ht2 : t1 = false := by simpa using ht
            subst ht2
            have HT := Lib.hid (note_no g1 m)
            clear ht
            go_wp2
            go_roundw
            case rel => exact Or.inr (Or.inr (Or.inl ⟨by go_num, Lib.hid (by rw [HT.out]; exact U.out)⟩))
            case measure => simp [intOf]
        · have z : wr.frozen? ⟨w.heap.size + 1 + 1 + 1 + 1, 2, none⟩ = false := U.out.box.free 2
          have zc : wr.cell? ⟨w.heap.size + 1 + 1 + 1 + 1, 2, none⟩ = some (.int .i64 g2) := U.out.box.cell (k := 2) rfl
          have zt : wr.cell? ⟨w5.heap.size + 1, 2, none⟩ = some (.bool t2) := (U.out.bx HT7.out (by omega)).cell (k := 2) rfl
          have zl := U.out.box.lt
          have zm : w5.heap.size + 1 < wr.heap.size := (U.out.bx HT7.out (by omega)).lt
          by_cases ht : t2 = true
          · subst ht
            by_cases hg : g2 < 0
            · have HT := Lib.hid (note_yes (m := m) hg)
              have hg' : decide (g2 < 0) = true := decide_eq_true hg
              go_wp2
              go_roundw
              case rel => exact Or.inr (Or.inr (Or.inr (Or.inl ⟨by go_num, Lib.hid (by rw [HT.out]; exact U.out.trans (U.out.box.setOne (k := 2) (v := .int .i64 m)))⟩)))
              case measure => simp [intOf]
            · have hg' : 0 ≤ g2 := by omega
              have HT := Lib.hid (note_old hg' true m)
              clear hg
              go_wp2
              go_roundw
              case rel => exact Or.inr (Or.inr (Or.inr (Or.inl ⟨by go_num, Lib.hid (by rw [HT.out]; exact U.out)⟩)))
              case measure => simp [intOf]
          · have ht2 : t2 = false := by simpa using ht
            subst ht2
            have HT := Lib.hid (note_no g2 m)
            clear ht
            go_wp2
            go_roundw
            case rel => exact Or.inr (Or.inr (Or.inr (Or.inl ⟨by go_num, Lib.hid (by rw [HT.out]; exact U.out)⟩)))
            case measure => simp [intOf]
        · have z : wr.frozen? ⟨w.heap.size + 1 + 1 + 1 + 1, 3, none⟩ = false := U.out.box.free 3
          have zc : wr.cell? ⟨w.heap.size + 1 + 1 + 1 + 1, 3, none⟩ = some (.int .i64 g3) := U.out.box.cell (k := 3) rfl
          have zt : wr.cell? ⟨w5.heap.size + 1, 3, none⟩ = some (.bool t3) := (U.out.bx HT7.out (by omega)).cell (k := 3) rfl
          have zl := U.out.box.lt
          have zm : w5.heap.size + 1 < wr.heap.size := (U.out.bx HT7.out (by omega)).lt
          by_cases ht : t3 = true
          · subst ht
            by_cases hg : g3 < 0
            · have HT := Lib.hid (note_yes (m := m) hg)
              have hg' : decide (g3 < 0) = true := decide_eq_true hg
              go_wp2
              go_roundw
              case rel => exact Or.inr (Or.inr (Or.inr (Or.inr (⟨by go_num, Lib.hid (by rw [HT.out]; exact U.out.trans (U.out.box.setOne (k := 3) (v := .int .i64 m)))⟩))))
              case measure => simp [intOf]
            · have hg' : 0 ≤ g3 := by omega
              have HT := Lib.hid (note_old hg' true m)
              clear hg
              go_wp2
              go_roundw
              case rel => exact Or.inr (Or.inr (Or.inr (Or.inr (⟨by go_num, Lib.hid (by rw [HT.out]; exact U.out)⟩))))
              case measure => simp [intOf]
          · have ht2 : t3 = false := by simpa using ht
            subst ht2
            have HT := Lib.hid (note_no g3 m)
            clear ht
            go_wp2
            go_roundw
            case rel => exact Or.inr (Or.inr (Or.inr (Or.inr (⟨by go_num, Lib.hid (by rw [HT.out]; exact U.out)⟩))))
            case measure => simp [intOf]
        · have HS8 := Lib.hid (U.out.bx HS7.out (by omega))
          have HM8 := Lib.hid (U.out.bx HM7.out (by omega))
          have HR8 := Lib.hid (U.out.bx HR7.out (by omega))
          have HP8 := Lib.hid (U.out.bx HP7.out (by omega))
          have HQ8 := Lib.hid (U.out.bx HQ7.out (by omega))
          have HX8 := Lib.hid U.out.box
          have HB8 := Lib.hid (HB7.out.trans (U.out.bel _ (by omega)))
          clear U
          go_wp2_with (first
            | refine wpList_load_box (by rfl) 24 _ rfl w5.heap.size rfl 24 #[.int .i64 i3, .int .i64 x3, .int .i64 y3] _ HM8.out Try.underlying24 rfl (by kernel_rfl) ?_
            | (refine wpList_store_box rfl 24 _ _ rfl w.heap.size #[.int .i64 i3, .int .i64 x3, .int .i64 y3] rfl rfl 24 #[.int .i64 j, .int .i64 p, .int .i64 q] HS8.out (by kernel_rfl) rfl (one3 _ _ _) (fun w9 u9 => ?_)))
          go_roundw
          case rel => exact ⟨m + 1, (i3, x3, y3), _, _, _, _, rfl, by omega, by omega, HNX, NF, Lib.hid u9.box, Lib.hid (u9.bx HR8.out (by omega)), Lib.hid (u9.bx HP8.out (by omega)), Lib.hid (u9.bx HQ8.out (by omega)), Lib.hid (u9.bx HX8.out (by omega)), Lib.hid (HB8.out.trans (u9.bel _ (Nat.le_refl _)))⟩
          case measure => simp [intOf]; omega

end Go.Proofs.Ythgieanhlmnneaa
