/- What over of layer 20 returns: a piece, told by layer 19 of the tasks that it may end alone. Conditions: the tasks can be read and may be, the spot is right, and the minutes are a piece. -/
import Derived.Test.YthiiipbfdgaemaaRows
import Derived.Test.YthiiipbfdgaemaaZ1
import Derived.Test.YthiiipbfdgaemaaZ2
import Derived.Test.YthiiipbfdgaemaaErrandPast
import Derived.Test.YthiiipbfdgaemaaErrandFits
import Derived.Test.YthiiipbfdgaemaaErrandSpot
import Derived.Test.YthiiipbfdgaemaaErrandLeftC
import Derived.Test.YthiiipbfdgaemaaErrandOverC
import Derived.Test.YthiiipbfdgaemaaZ4
import Derived.Test.YthiiipbfdgaemaaTrailLeaf
import Derived.WalkKit
import Derived.WalkSpells
import Derived.WalkSmall
import Derived.Below
import Derived.Lib.Hide
import Derived.Outline
import Derived.Deep.DeepCutAuto
import Derived.OwnWalk
import Derived.BigQuiet
import Derived.Deep.QuietTactic
import Derived.Deep.LoopGhost
import Derived.WalkMore
import Derived.OrdersHeld
import Derived.Deep.RegionHeld3
namespace Go.Proofs.Ythiiipbfdgaemaa
open Go.RowKit

set_option maxRecDepth 20000 in
set_option maxHeartbeats 2000000 in
theorem over20_any (A : Option Addr) (n c : Nat) (l : List Tk) (hn : l.length = n) (i x y k m b : Int) (w : World) (h : RdK w A l) (few : Few l) (hcn : n ≤ c) (hz : A = none → c = 0) (ck : checkT l = 0) (fit : Fits l (i, x, y)) (nn : Nat)
    (hp : Pc l (i, x, y) k nn) (hal : aloneV k m b = 0) (hb : b = m + nn) (s' : Pt) (f : Fs) (hr : runK l k nn m ((i, x, y), none4) = (s', f)) :
    Calls Try.prog 38 #[.slice A n c, .agg #[.int .i64 i, .int .i64 x, .int .i64 y], .agg #[.int .i64 k, .int .i64 m, .int .i64 b]] w fun e w' => e = .returned (.agg (pc13 k m b (i, x, y) s' f)) ∧ Below w.heap.size w w' := by
  obtain ⟨ok, hl⟩ := checkt_zero ck
  obtain ⟨i0, i1, x0, x1, y0, y1⟩ := fits_cells ok fit
  obtain ⟨j, rfl⟩ : ∃ j : Nat, i = j := ⟨i.toNat, by omega⟩
  have hj : j ≤ l.length := by omega
  have NE := nearV_is hj
  obtain ⟨e, he⟩ : ∃ e, nearV l j = e := ⟨_, rfl⟩
  have CN := fun W (h : RdK W A l) => near20_any A n c l hn j (by omega) (by omega) W h
  rw [he] at CN NE
  obtain ⟨q, hq, hs'⟩ := cut_over ck NE fit hp hal hb hr
  obtain ⟨q1, q2, q3⟩ := q
  unfold upP at hs'
  simp only at hs'
  subst hs'
  have CO := fun (A' : Option Addr) (cc : Nat) W (h : RdK W A' (cutK l j e)) => over19_any A' (e - j) cc (cutK l j e) (cut_len NE.1) 0 x y k m b W h (few.cut j e) (by omega) (by omega)
  rw [hq] at CO
  obtain ⟨f0, f1, f2, f3⟩ := f
  have e1 := NE.1
  have e2 := NE.2.2.1
  rw [hn] at e1 hj hl
  have j1 : (j : Int) ≤ 2001 := by omega
  have q0 : 0 ≤ q1 ∧ q1 ≤ 2001 := by
    have := over_fits ck NE fit hq
    omega
  obtain ⟨qlo, qhi⟩ := q0
  have HK := Lib.hid h
  unfold sp3 fs4 at CO
  simp only at CO
  clear ok hq hr hp hal hb few ck NE i0 i1 he
  by_cases hlt : j < n
  case pos =>
    obtain ⟨b0, off, rfl, hbb, _⟩ := h (by rintro rfl; simp at hn; omega)
    have hne : ¬ c = j := by omega
    have HC := Lib.hid (fun W (h : RdK W (some ⟨b0, off, none⟩) l) => h.cut j e)
    clear h hn fit hz
    go_enter Try.func38, Try.ntmps38
    go_upto_region 1 with fail
    have HS0 := Lib.hid (show Bx (((w.alloc (.cells #[.int .i64 (j : Int), .int .i64 x, .int .i64 y] 24)).alloc (.cells #[.int .i64 k, .int .i64 m, .int .i64 b] 59)).alloc (.cells (pc13 0 0 0 (0, 0, 0) (0, 0, 0) (0, 0, 0, 0)) 68)) w.heap.size 24 #[.int .i64 (j : Int), .int .i64 x, .int .i64 y] from ((Bx.new (W := w) _ _ rfl).alloc _).alloc _)
    have HR0 := Lib.hid (show Bx (((w.alloc (.cells #[.int .i64 (j : Int), .int .i64 x, .int .i64 y] 24)).alloc (.cells #[.int .i64 k, .int .i64 m, .int .i64 b] 59)).alloc (.cells (pc13 0 0 0 (0, 0, 0) (0, 0, 0) (0, 0, 0, 0)) 68)) (w.heap.size + 1) 59 #[.int .i64 k, .int .i64 m, .int .i64 b] from (Bx.new (W := w.alloc (.cells #[.int .i64 (j : Int), .int .i64 x, .int .i64 y] 24)) _ _ (by simp)).alloc _)
    have HP0 := Lib.hid (show Bx (((w.alloc (.cells #[.int .i64 (j : Int), .int .i64 x, .int .i64 y] 24)).alloc (.cells #[.int .i64 k, .int .i64 m, .int .i64 b] 59)).alloc (.cells (pc13 0 0 0 (0, 0, 0) (0, 0, 0) (0, 0, 0, 0)) 68)) (w.heap.size + 1 + 1) 68 (pc13 0 0 0 (0, 0, 0) (0, 0, 0) (0, 0, 0, 0)) from Bx.new (W := (w.alloc (.cells #[.int .i64 (j : Int), .int .i64 x, .int .i64 y] 24)).alloc (.cells #[.int .i64 k, .int .i64 m, .int .i64 b] 59)) _ _ (by simp))
    have HB0 := Lib.hid (show Below w.heap.size w (((w.alloc (.cells #[.int .i64 (j : Int), .int .i64 x, .int .i64 y] 24)).alloc (.cells #[.int .i64 k, .int .i64 m, .int .i64 b] 59)).alloc (.cells (pc13 0 0 0 (0, 0, 0) (0, 0, 0) (0, 0, 0, 0)) 68)) by (repeat (first | exact Below.refl _ _ | (refine b_st ?_ (by first | (simp; done) | (simp; omega))) | (refine b_al ?_ (Nat.le_refl _) _) | refine b_dn ?_ | refine b_dr ?_ | (refine b_cl ?_ (Nat.le_refl _) (by assumption)))))
    have HK0 := Lib.hid (HK.out.below HB0.out)
    simp only [pc13] at HS0 HR0 HP0 HB0 HK0
    have cs0 := HS0.out.cell (k := 0) rfl
    have ls0 := HS0.out.lt
    generalize ((w.alloc (.cells #[.int .i64 (j : Int), .int .i64 x, .int .i64 y] 24)).alloc (.cells #[.int .i64 k, .int .i64 m, .int .i64 b] 59)).alloc _ = W1 at *
    go_quiet ((go_at_call 50; exact Calls.quiet_of_same ((CN _ (HK0.out.below (by (repeat (first | exact Below.refl _ _ | (refine b_st ?_ (by first | (simp; done) | (simp; omega))) | (refine b_al ?_ (Nat.le_refl _) _) | refine b_dn ?_ | refine b_dr ?_ | (refine b_cl ?_ (Nat.le_refl _) (by assumption))))))).mono (fun _ _ h => ⟨h.1, h.2.symm⟩))))
    have d1 : (W1.drewN nq).cell? ⟨w.heap.size, 1, none⟩ = some (.int .i64 x) := HS0.out.cell (k := 1) rfl
    have d2 : (W1.drewN nq).cell? ⟨w.heap.size, 2, none⟩ = some (.int .i64 y) := HS0.out.cell (k := 2) rfl
    clear cs0
    have HC2 := Lib.hid (show RdK (W1.drewN nq) (some ⟨b0, off + j * 3, none⟩) (cutK l j e) from HC.out _ (HK0.out.below (b_dn (Below.refl _ _))))
    go_wp2_with (first | (refine wpList_load_box (by rfl) 59 _ rfl (w.heap.size + 1) rfl 59 #[.int .i64 k, .int .i64 m, .int .i64 b] _ HR0.out.drewN Try.underlying59 rfl (by kernel_rfl) ?_) | (go_at_call 51; refine (CO (some ⟨b0, off + j * 3, none⟩) _ _ HC2.out).mono ?_; rintro e w3 ⟨rfl, hb3⟩; have HS3 := Lib.hid (HS0.out.drewN.below hb3); have HR3 := Lib.hid (HR0.out.drewN.below hb3); have HP3 := Lib.hid (HP0.out.drewN.below hb3); have HB3 := Lib.hid (b_cl (b_dn (k := nq) HB0.out) (Nat.le_refl _) hb3); have lt3 := HP3.out.lt; have ls3 : w.heap.size < w3.heap.size := (by omega); have lr3 : w.heap.size + 1 < w3.heap.size := (by omega); have HX3 := Lib.hid ((Bx.new (W := w3) 24 #[.int .i64 0, .int .i64 0, .int .i64 0] rfl).alloc (.cells #[.int .i64 0, .int .i64 0, .int .i64 0, .int .i64 0] 66)); have HY3 := Lib.hid (Bx.new (W := w3.alloc (.cells #[.int .i64 0, .int .i64 0, .int .i64 0] 24)) (g := w3.heap.size + 1) 66 #[.int .i64 0, .int .i64 0, .int .i64 0, .int .i64 0] (by simp)); clear hb3) | (refine wpList_store_box rfl 24 _ _ rfl w3.heap.size #[.int .i64 q1, .int .i64 q2, .int .i64 q3] rfl rfl 24 #[.int .i64 0, .int .i64 0, .int .i64 0] HX3.out size_spot rfl (one3 _ _ _) (fun w4 u4 => ?_); have HS4 := Lib.hid (u4.bx ((HS3.out.alloc _).alloc _) (by omega)); have HR4 := Lib.hid (u4.bx ((HR3.out.alloc _).alloc _) (by omega)); have HP4 := Lib.hid (u4.bx ((HP3.out.alloc _).alloc _) (by omega)); have HY4 := Lib.hid (u4.bx HY3.out (by omega)); have HX4 := Lib.hid u4.box; have HB4 := Lib.hid ((b_al (b_al HB3.out (Nat.le_refl _) _) (Nat.le_refl _) _).trans (u4.bel _ (by omega))); clear u4) | (refine wpList_store_box rfl 66 _ _ rfl (w3.heap.size + 1) #[.int .i64 f0, .int .i64 f1, .int .i64 f2, .int .i64 f3] rfl rfl 66 #[.int .i64 0, .int .i64 0, .int .i64 0, .int .i64 0] HY4.out (by kernel_rfl) rfl (one4 _ _ _ _) (fun w5 u5 => ?_); have HS5 := Lib.hid (u5.bx HS4.out (by omega)); have HR5 := Lib.hid (u5.bx HR4.out (by omega)); have HP5 := Lib.hid (u5.bx HP4.out (by omega)); have HX5 := Lib.hid (u5.bx HX4.out (by omega)); have HY5 := Lib.hid u5.box; have HB5 := Lib.hid (HB4.out.trans (u5.bel _ (by omega))); have t0 := HX5.out.cell (k := 0) rfl; have s0 := HS5.out.cell (k := 0) rfl; have tl := HX5.out.lt; have sl := HS5.out.lt; clear u5) | (refine wpList_store_fld (by rfl) 3 _ _ rfl w3.heap.size 0 (.int .i64 (q1 + (j : Int))) rfl rfl rfl 24 #[.int .i64 q1, .int .i64 q2, .int .i64 q3] HX5.out (by simp) (by kernel_rfl) (fun w6 u6 => ?_); have HS6 := Lib.hid (u6.bx HS5.out (by omega)); have HR6 := Lib.hid (u6.bx HR5.out (by omega)); have HP6 := Lib.hid (u6.bx HP5.out (by omega)); have HY6 := Lib.hid (u6.bx HY5.out (by omega)); have HX6 := Lib.hid (show Bx w6 w3.heap.size 24 #[.int .i64 (q1 + (j : Int)), .int .i64 q2, .int .i64 q3] from u6.box); have HB6 := Lib.hid (HB5.out.trans (u6.bel _ (by omega))); clear u6 t0 s0) | (refine wpList_load_box (by rfl) 59 _ rfl (w.heap.size + 1) rfl 59 #[.int .i64 k, .int .i64 m, .int .i64 b] _ HR6.out Try.underlying59 rfl (by kernel_rfl) ?_) | (refine wpList_load_box (by rfl) 24 _ rfl (w.heap.size) rfl 24 #[.int .i64 (j : Int), .int .i64 x, .int .i64 y] _ HS6.out Try.underlying24 rfl size_spot ?_) | (refine wpList_load_box (by rfl) 24 _ rfl (w3.heap.size) rfl 24 #[.int .i64 (q1 + (j : Int)), .int .i64 q2, .int .i64 q3] _ HX6.out Try.underlying24 rfl size_spot ?_) | (refine wpList_load_box (by rfl) 66 _ rfl (w3.heap.size + 1) rfl 66 #[.int .i64 f0, .int .i64 f1, .int .i64 f2, .int .i64 f3] _ HY6.out Try.underlying66 rfl (by kernel_rfl) ?_) | (refine wpList_build_as rfl 68 _ rfl (pc13 k m b ((j : Int), x, y) (q1 + (j : Int), q2, q3) (f0, f1, f2, f3)) (by kernel_rfl) ?_) | (refine wpList_store_box rfl 68 _ _ rfl (w.heap.size + 1 + 1) (pc13 k m b ((j : Int), x, y) (q1 + (j : Int), q2, q3) (f0, f1, f2, f3)) rfl rfl 68 (pc13 0 0 0 (0, 0, 0) (0, 0, 0) (0, 0, 0, 0)) HP6.out size_piece rfl (pc13_one _ _ _ _ _ _) (fun w7 u7 => ?_)))
    refine bodyPost_ret (v := .agg (pc13 k m b ((j : Int), x, y) (q1 + (j : Int), q2, q3) (f0, f1, f2, f3))) (results_box1 Try.results38 _ _ (w.heap.size + 1 + 1) 68 (pc13 k m b ((j : Int), x, y) (q1 + (j : Int), q2, q3) (f0, f1, f2, f3)) _ rfl u7.box Try.underlying68 rfl size_piece) rfl ⟨rfl, ?_⟩
    exact HB6.out.trans (u7.bel _ (by omega))
  obtain rfl : j = n := by omega
  obtain rfl : j = e := by omega
  simp only [Nat.sub_self] at CO
  have HC := Lib.hid (fun (W : World) (A' : Option Addr) => (show RdK W A' (cutK l j j) from fun hne => absurd (by rw [List.eq_nil_iff_length_eq_zero]; unfold cutK; rw [List.length_drop, List.length_take]; omega) hne))
  clear h hn fit
  rcases Nat.lt_or_ge j c with h1 | h1
  · have hne : ¬ c = j := by omega
    have hc2 : (j : Int) ≤ (c : Int) := by omega
    go_enter Try.func38, Try.ntmps38
    go_upto_region 1 with fail
    have HS0 := Lib.hid (show Bx (((w.alloc (.cells #[.int .i64 (j : Int), .int .i64 x, .int .i64 y] 24)).alloc (.cells #[.int .i64 k, .int .i64 m, .int .i64 b] 59)).alloc (.cells (pc13 0 0 0 (0, 0, 0) (0, 0, 0) (0, 0, 0, 0)) 68)) w.heap.size 24 #[.int .i64 (j : Int), .int .i64 x, .int .i64 y] from ((Bx.new (W := w) _ _ rfl).alloc _).alloc _)
    have HR0 := Lib.hid (show Bx (((w.alloc (.cells #[.int .i64 (j : Int), .int .i64 x, .int .i64 y] 24)).alloc (.cells #[.int .i64 k, .int .i64 m, .int .i64 b] 59)).alloc (.cells (pc13 0 0 0 (0, 0, 0) (0, 0, 0) (0, 0, 0, 0)) 68)) (w.heap.size + 1) 59 #[.int .i64 k, .int .i64 m, .int .i64 b] from (Bx.new (W := w.alloc (.cells #[.int .i64 (j : Int), .int .i64 x, .int .i64 y] 24)) _ _ (by simp)).alloc _)
    have HP0 := Lib.hid (show Bx (((w.alloc (.cells #[.int .i64 (j : Int), .int .i64 x, .int .i64 y] 24)).alloc (.cells #[.int .i64 k, .int .i64 m, .int .i64 b] 59)).alloc (.cells (pc13 0 0 0 (0, 0, 0) (0, 0, 0) (0, 0, 0, 0)) 68)) (w.heap.size + 1 + 1) 68 (pc13 0 0 0 (0, 0, 0) (0, 0, 0) (0, 0, 0, 0)) from Bx.new (W := (w.alloc (.cells #[.int .i64 (j : Int), .int .i64 x, .int .i64 y] 24)).alloc (.cells #[.int .i64 k, .int .i64 m, .int .i64 b] 59)) _ _ (by simp))
    have HB0 := Lib.hid (show Below w.heap.size w (((w.alloc (.cells #[.int .i64 (j : Int), .int .i64 x, .int .i64 y] 24)).alloc (.cells #[.int .i64 k, .int .i64 m, .int .i64 b] 59)).alloc (.cells (pc13 0 0 0 (0, 0, 0) (0, 0, 0) (0, 0, 0, 0)) 68)) by (repeat (first | exact Below.refl _ _ | (refine b_st ?_ (by first | (simp; done) | (simp; omega))) | (refine b_al ?_ (Nat.le_refl _) _) | refine b_dn ?_ | refine b_dr ?_ | (refine b_cl ?_ (Nat.le_refl _) (by assumption)))))
    have HK0 := Lib.hid (HK.out.below HB0.out)
    simp only [pc13] at HS0 HR0 HP0 HB0 HK0
    have cs0 := HS0.out.cell (k := 0) rfl
    have ls0 := HS0.out.lt
    generalize ((w.alloc (.cells #[.int .i64 (j : Int), .int .i64 x, .int .i64 y] 24)).alloc (.cells #[.int .i64 k, .int .i64 m, .int .i64 b] 59)).alloc _ = W1 at *
    go_quiet ((go_at_call 50; exact Calls.quiet_of_same ((CN _ (HK0.out.below (by (repeat (first | exact Below.refl _ _ | (refine b_st ?_ (by first | (simp; done) | (simp; omega))) | (refine b_al ?_ (Nat.le_refl _) _) | refine b_dn ?_ | refine b_dr ?_ | (refine b_cl ?_ (Nat.le_refl _) (by assumption))))))).mono (fun _ _ h => ⟨h.1, h.2.symm⟩))))
    have d1 : (W1.drewN nq).cell? ⟨w.heap.size, 1, none⟩ = some (.int .i64 x) := HS0.out.cell (k := 1) rfl
    have d2 : (W1.drewN nq).cell? ⟨w.heap.size, 2, none⟩ = some (.int .i64 y) := HS0.out.cell (k := 2) rfl
    clear cs0
    have HC2 := Lib.hid (fun A' => HC.out (W1.drewN nq) A')
    go_wp2_with (first | (refine wpList_load_box (by rfl) 59 _ rfl (w.heap.size + 1) rfl 59 #[.int .i64 k, .int .i64 m, .int .i64 b] _ HR0.out.drewN Try.underlying59 rfl (by kernel_rfl) ?_) | (go_at_call 51; refine (CO _ _ _ (HC2.out _)).mono ?_; rintro e w3 ⟨rfl, hb3⟩; have HS3 := Lib.hid (HS0.out.drewN.below hb3); have HR3 := Lib.hid (HR0.out.drewN.below hb3); have HP3 := Lib.hid (HP0.out.drewN.below hb3); have HB3 := Lib.hid (b_cl (b_dn (k := nq) HB0.out) (Nat.le_refl _) hb3); have lt3 := HP3.out.lt; have ls3 : w.heap.size < w3.heap.size := (by omega); have lr3 : w.heap.size + 1 < w3.heap.size := (by omega); have HX3 := Lib.hid ((Bx.new (W := w3) 24 #[.int .i64 0, .int .i64 0, .int .i64 0] rfl).alloc (.cells #[.int .i64 0, .int .i64 0, .int .i64 0, .int .i64 0] 66)); have HY3 := Lib.hid (Bx.new (W := w3.alloc (.cells #[.int .i64 0, .int .i64 0, .int .i64 0] 24)) (g := w3.heap.size + 1) 66 #[.int .i64 0, .int .i64 0, .int .i64 0, .int .i64 0] (by simp)); clear hb3) | (refine wpList_store_box rfl 24 _ _ rfl w3.heap.size #[.int .i64 q1, .int .i64 q2, .int .i64 q3] rfl rfl 24 #[.int .i64 0, .int .i64 0, .int .i64 0] HX3.out size_spot rfl (one3 _ _ _) (fun w4 u4 => ?_); have HS4 := Lib.hid (u4.bx ((HS3.out.alloc _).alloc _) (by omega)); have HR4 := Lib.hid (u4.bx ((HR3.out.alloc _).alloc _) (by omega)); have HP4 := Lib.hid (u4.bx ((HP3.out.alloc _).alloc _) (by omega)); have HY4 := Lib.hid (u4.bx HY3.out (by omega)); have HX4 := Lib.hid u4.box; have HB4 := Lib.hid ((b_al (b_al HB3.out (Nat.le_refl _) _) (Nat.le_refl _) _).trans (u4.bel _ (by omega))); clear u4) | (refine wpList_store_box rfl 66 _ _ rfl (w3.heap.size + 1) #[.int .i64 f0, .int .i64 f1, .int .i64 f2, .int .i64 f3] rfl rfl 66 #[.int .i64 0, .int .i64 0, .int .i64 0, .int .i64 0] HY4.out (by kernel_rfl) rfl (one4 _ _ _ _) (fun w5 u5 => ?_); have HS5 := Lib.hid (u5.bx HS4.out (by omega)); have HR5 := Lib.hid (u5.bx HR4.out (by omega)); have HP5 := Lib.hid (u5.bx HP4.out (by omega)); have HX5 := Lib.hid (u5.bx HX4.out (by omega)); have HY5 := Lib.hid u5.box; have HB5 := Lib.hid (HB4.out.trans (u5.bel _ (by omega))); have t0 := HX5.out.cell (k := 0) rfl; have s0 := HS5.out.cell (k := 0) rfl; have tl := HX5.out.lt; have sl := HS5.out.lt; clear u5) | (refine wpList_store_fld (by rfl) 3 _ _ rfl w3.heap.size 0 (.int .i64 (q1 + (j : Int))) rfl rfl rfl 24 #[.int .i64 q1, .int .i64 q2, .int .i64 q3] HX5.out (by simp) (by kernel_rfl) (fun w6 u6 => ?_); have HS6 := Lib.hid (u6.bx HS5.out (by omega)); have HR6 := Lib.hid (u6.bx HR5.out (by omega)); have HP6 := Lib.hid (u6.bx HP5.out (by omega)); have HY6 := Lib.hid (u6.bx HY5.out (by omega)); have HX6 := Lib.hid (show Bx w6 w3.heap.size 24 #[.int .i64 (q1 + (j : Int)), .int .i64 q2, .int .i64 q3] from u6.box); have HB6 := Lib.hid (HB5.out.trans (u6.bel _ (by omega))); clear u6 t0 s0) | (refine wpList_load_box (by rfl) 59 _ rfl (w.heap.size + 1) rfl 59 #[.int .i64 k, .int .i64 m, .int .i64 b] _ HR6.out Try.underlying59 rfl (by kernel_rfl) ?_) | (refine wpList_load_box (by rfl) 24 _ rfl (w.heap.size) rfl 24 #[.int .i64 (j : Int), .int .i64 x, .int .i64 y] _ HS6.out Try.underlying24 rfl size_spot ?_) | (refine wpList_load_box (by rfl) 24 _ rfl (w3.heap.size) rfl 24 #[.int .i64 (q1 + (j : Int)), .int .i64 q2, .int .i64 q3] _ HX6.out Try.underlying24 rfl size_spot ?_) | (refine wpList_load_box (by rfl) 66 _ rfl (w3.heap.size + 1) rfl 66 #[.int .i64 f0, .int .i64 f1, .int .i64 f2, .int .i64 f3] _ HY6.out Try.underlying66 rfl (by kernel_rfl) ?_) | (refine wpList_build_as rfl 68 _ rfl (pc13 k m b ((j : Int), x, y) (q1 + (j : Int), q2, q3) (f0, f1, f2, f3)) (by kernel_rfl) ?_) | (refine wpList_store_box rfl 68 _ _ rfl (w.heap.size + 1 + 1) (pc13 k m b ((j : Int), x, y) (q1 + (j : Int), q2, q3) (f0, f1, f2, f3)) rfl rfl 68 (pc13 0 0 0 (0, 0, 0) (0, 0, 0) (0, 0, 0, 0)) HP6.out size_piece rfl (pc13_one _ _ _ _ _ _) (fun w7 u7 => ?_)))
    refine bodyPost_ret (v := .agg (pc13 k m b ((j : Int), x, y) (q1 + (j : Int), q2, q3) (f0, f1, f2, f3))) (results_box1 Try.results38 _ _ (w.heap.size + 1 + 1) 68 (pc13 k m b ((j : Int), x, y) (q1 + (j : Int), q2, q3) (f0, f1, f2, f3)) _ rfl u7.box Try.underlying68 rfl size_piece) rfl ⟨rfl, ?_⟩
    exact HB6.out.trans (u7.bel _ (by omega))
  · obtain rfl : j = c := by omega
    go_enter Try.func38, Try.ntmps38
    go_upto_region 1 with fail
    have HS0 := Lib.hid (show Bx (((w.alloc (.cells #[.int .i64 (j : Int), .int .i64 x, .int .i64 y] 24)).alloc (.cells #[.int .i64 k, .int .i64 m, .int .i64 b] 59)).alloc (.cells (pc13 0 0 0 (0, 0, 0) (0, 0, 0) (0, 0, 0, 0)) 68)) w.heap.size 24 #[.int .i64 (j : Int), .int .i64 x, .int .i64 y] from ((Bx.new (W := w) _ _ rfl).alloc _).alloc _)
    have HR0 := Lib.hid (show Bx (((w.alloc (.cells #[.int .i64 (j : Int), .int .i64 x, .int .i64 y] 24)).alloc (.cells #[.int .i64 k, .int .i64 m, .int .i64 b] 59)).alloc (.cells (pc13 0 0 0 (0, 0, 0) (0, 0, 0) (0, 0, 0, 0)) 68)) (w.heap.size + 1) 59 #[.int .i64 k, .int .i64 m, .int .i64 b] from (Bx.new (W := w.alloc (.cells #[.int .i64 (j : Int), .int .i64 x, .int .i64 y] 24)) _ _ (by simp)).alloc _)
    have HP0 := Lib.hid (show Bx (((w.alloc (.cells #[.int .i64 (j : Int), .int .i64 x, .int .i64 y] 24)).alloc (.cells #[.int .i64 k, .int .i64 m, .int .i64 b] 59)).alloc (.cells (pc13 0 0 0 (0, 0, 0) (0, 0, 0) (0, 0, 0, 0)) 68)) (w.heap.size + 1 + 1) 68 (pc13 0 0 0 (0, 0, 0) (0, 0, 0) (0, 0, 0, 0)) from Bx.new (W := (w.alloc (.cells #[.int .i64 (j : Int), .int .i64 x, .int .i64 y] 24)).alloc (.cells #[.int .i64 k, .int .i64 m, .int .i64 b] 59)) _ _ (by simp))
    have HB0 := Lib.hid (show Below w.heap.size w (((w.alloc (.cells #[.int .i64 (j : Int), .int .i64 x, .int .i64 y] 24)).alloc (.cells #[.int .i64 k, .int .i64 m, .int .i64 b] 59)).alloc (.cells (pc13 0 0 0 (0, 0, 0) (0, 0, 0) (0, 0, 0, 0)) 68)) by (repeat (first | exact Below.refl _ _ | (refine b_st ?_ (by first | (simp; done) | (simp; omega))) | (refine b_al ?_ (Nat.le_refl _) _) | refine b_dn ?_ | refine b_dr ?_ | (refine b_cl ?_ (Nat.le_refl _) (by assumption)))))
    have HK0 := Lib.hid (HK.out.below HB0.out)
    simp only [pc13] at HS0 HR0 HP0 HB0 HK0
    have cs0 := HS0.out.cell (k := 0) rfl
    have ls0 := HS0.out.lt
    generalize ((w.alloc (.cells #[.int .i64 (j : Int), .int .i64 x, .int .i64 y] 24)).alloc (.cells #[.int .i64 k, .int .i64 m, .int .i64 b] 59)).alloc _ = W1 at *
    go_quiet ((go_at_call 50; exact Calls.quiet_of_same ((CN _ (HK0.out.below (by (repeat (first | exact Below.refl _ _ | (refine b_st ?_ (by first | (simp; done) | (simp; omega))) | (refine b_al ?_ (Nat.le_refl _) _) | refine b_dn ?_ | refine b_dr ?_ | (refine b_cl ?_ (Nat.le_refl _) (by assumption))))))).mono (fun _ _ h => ⟨h.1, h.2.symm⟩))))
    have d1 : (W1.drewN nq).cell? ⟨w.heap.size, 1, none⟩ = some (.int .i64 x) := HS0.out.cell (k := 1) rfl
    have d2 : (W1.drewN nq).cell? ⟨w.heap.size, 2, none⟩ = some (.int .i64 y) := HS0.out.cell (k := 2) rfl
    clear cs0
    have HC2 := Lib.hid (fun A' => HC.out (W1.drewN nq) A')
    go_wp2_with (first | (refine wpList_load_box (by rfl) 59 _ rfl (w.heap.size + 1) rfl 59 #[.int .i64 k, .int .i64 m, .int .i64 b] _ HR0.out.drewN Try.underlying59 rfl (by kernel_rfl) ?_) | (go_at_call 51; refine (CO _ _ _ (HC2.out _)).mono ?_; rintro e w3 ⟨rfl, hb3⟩; have HS3 := Lib.hid (HS0.out.drewN.below hb3); have HR3 := Lib.hid (HR0.out.drewN.below hb3); have HP3 := Lib.hid (HP0.out.drewN.below hb3); have HB3 := Lib.hid (b_cl (b_dn (k := nq) HB0.out) (Nat.le_refl _) hb3); have lt3 := HP3.out.lt; have ls3 : w.heap.size < w3.heap.size := (by omega); have lr3 : w.heap.size + 1 < w3.heap.size := (by omega); have HX3 := Lib.hid ((Bx.new (W := w3) 24 #[.int .i64 0, .int .i64 0, .int .i64 0] rfl).alloc (.cells #[.int .i64 0, .int .i64 0, .int .i64 0, .int .i64 0] 66)); have HY3 := Lib.hid (Bx.new (W := w3.alloc (.cells #[.int .i64 0, .int .i64 0, .int .i64 0] 24)) (g := w3.heap.size + 1) 66 #[.int .i64 0, .int .i64 0, .int .i64 0, .int .i64 0] (by simp)); clear hb3) | (refine wpList_store_box rfl 24 _ _ rfl w3.heap.size #[.int .i64 q1, .int .i64 q2, .int .i64 q3] rfl rfl 24 #[.int .i64 0, .int .i64 0, .int .i64 0] HX3.out size_spot rfl (one3 _ _ _) (fun w4 u4 => ?_); have HS4 := Lib.hid (u4.bx ((HS3.out.alloc _).alloc _) (by omega)); have HR4 := Lib.hid (u4.bx ((HR3.out.alloc _).alloc _) (by omega)); have HP4 := Lib.hid (u4.bx ((HP3.out.alloc _).alloc _) (by omega)); have HY4 := Lib.hid (u4.bx HY3.out (by omega)); have HX4 := Lib.hid u4.box; have HB4 := Lib.hid ((b_al (b_al HB3.out (Nat.le_refl _) _) (Nat.le_refl _) _).trans (u4.bel _ (by omega))); clear u4) | (refine wpList_store_box rfl 66 _ _ rfl (w3.heap.size + 1) #[.int .i64 f0, .int .i64 f1, .int .i64 f2, .int .i64 f3] rfl rfl 66 #[.int .i64 0, .int .i64 0, .int .i64 0, .int .i64 0] HY4.out (by kernel_rfl) rfl (one4 _ _ _ _) (fun w5 u5 => ?_); have HS5 := Lib.hid (u5.bx HS4.out (by omega)); have HR5 := Lib.hid (u5.bx HR4.out (by omega)); have HP5 := Lib.hid (u5.bx HP4.out (by omega)); have HX5 := Lib.hid (u5.bx HX4.out (by omega)); have HY5 := Lib.hid u5.box; have HB5 := Lib.hid (HB4.out.trans (u5.bel _ (by omega))); have t0 := HX5.out.cell (k := 0) rfl; have s0 := HS5.out.cell (k := 0) rfl; have tl := HX5.out.lt; have sl := HS5.out.lt; clear u5) | (refine wpList_store_fld (by rfl) 3 _ _ rfl w3.heap.size 0 (.int .i64 (q1 + (j : Int))) rfl rfl rfl 24 #[.int .i64 q1, .int .i64 q2, .int .i64 q3] HX5.out (by simp) (by kernel_rfl) (fun w6 u6 => ?_); have HS6 := Lib.hid (u6.bx HS5.out (by omega)); have HR6 := Lib.hid (u6.bx HR5.out (by omega)); have HP6 := Lib.hid (u6.bx HP5.out (by omega)); have HY6 := Lib.hid (u6.bx HY5.out (by omega)); have HX6 := Lib.hid (show Bx w6 w3.heap.size 24 #[.int .i64 (q1 + (j : Int)), .int .i64 q2, .int .i64 q3] from u6.box); have HB6 := Lib.hid (HB5.out.trans (u6.bel _ (by omega))); clear u6 t0 s0) | (refine wpList_load_box (by rfl) 59 _ rfl (w.heap.size + 1) rfl 59 #[.int .i64 k, .int .i64 m, .int .i64 b] _ HR6.out Try.underlying59 rfl (by kernel_rfl) ?_) | (refine wpList_load_box (by rfl) 24 _ rfl (w.heap.size) rfl 24 #[.int .i64 (j : Int), .int .i64 x, .int .i64 y] _ HS6.out Try.underlying24 rfl size_spot ?_) | (refine wpList_load_box (by rfl) 24 _ rfl (w3.heap.size) rfl 24 #[.int .i64 (q1 + (j : Int)), .int .i64 q2, .int .i64 q3] _ HX6.out Try.underlying24 rfl size_spot ?_) | (refine wpList_load_box (by rfl) 66 _ rfl (w3.heap.size + 1) rfl 66 #[.int .i64 f0, .int .i64 f1, .int .i64 f2, .int .i64 f3] _ HY6.out Try.underlying66 rfl (by kernel_rfl) ?_) | (refine wpList_build_as rfl 68 _ rfl (pc13 k m b ((j : Int), x, y) (q1 + (j : Int), q2, q3) (f0, f1, f2, f3)) (by kernel_rfl) ?_) | (refine wpList_store_box rfl 68 _ _ rfl (w.heap.size + 1 + 1) (pc13 k m b ((j : Int), x, y) (q1 + (j : Int), q2, q3) (f0, f1, f2, f3)) rfl rfl 68 (pc13 0 0 0 (0, 0, 0) (0, 0, 0) (0, 0, 0, 0)) HP6.out size_piece rfl (pc13_one _ _ _ _ _ _) (fun w7 u7 => ?_)))
    refine bodyPost_ret (v := .agg (pc13 k m b ((j : Int), x, y) (q1 + (j : Int), q2, q3) (f0, f1, f2, f3))) (results_box1 Try.results38 _ _ (w.heap.size + 1 + 1) 68 (pc13 k m b ((j : Int), x, y) (q1 + (j : Int), q2, q3) (f0, f1, f2, f3)) _ rfl u7.box Try.underlying68 rfl size_piece) rfl ⟨rfl, ?_⟩
    exact HB6.out.trans (u7.bel _ (by omega))

end Go.Proofs.Ythiiipbfdgaemaa
