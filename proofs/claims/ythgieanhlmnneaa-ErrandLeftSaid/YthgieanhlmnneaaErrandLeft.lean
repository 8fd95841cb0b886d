/- A minute that breaks nothing takes one off what is left, if it drives or works, else nothing; the spot stays right; nothing is left just if all is done. Conditions: none (of more than forty tasks, or of a task with more than twenty windows, the law asks the example alone). -/
import Derived.Test.YthgieanhlmnneaaRows
import Derived.Test.YthgieanhlmnneaaBase
import Derived.Test.YthgieanhlmnneaaRow
import Derived.Test.YthgieanhlmnneaaBox
import Derived.Test.YthgieanhlmnneaaBoxRes
import Derived.Test.YthgieanhlmnneaaErrandMath
import Derived.Test.YthgieanhlmnneaaErrandHeap
import Derived.Test.YthgieanhlmnneaaErrandMath2
import Derived.Test.YthgieanhlmnneaaErrandOpen
import Derived.Test.YthgieanhlmnneaaErrandLight
import Derived.Test.YthgieanhlmnneaaErrandAlive
import Derived.Test.YthgieanhlmnneaaErrandPast
import Derived.Test.YthgieanhlmnneaaErrandChk
import Derived.Test.YthgieanhlmnneaaErrandSpot
import Derived.Test.YthgieanhlmnneaaErrandLeftC
import Derived.Test.YthgieanhlmnneaaErrandStart
import Derived.Test.YthgieanhlmnneaaErrandStepC
import Derived.WalkKit
import Derived.WalkSmall
import Derived.WalkSpells
import Derived.ProofKit
import Derived.OpenShut
import Derived.ShutString
import Derived.ChangeOld
import Derived.Below
import Derived.Lib.Hide
import Derived.OwnWalk
namespace Go.Proofs.Ythgieanhlmnneaa.errandLeft
open Go.ChangeShapes Go.WideShapes Go.ChangeAt Go.RowKit
open Go.ChangeMaps (open_string shut_string)
set_option linter.unusedVariables false

theorem own : ownKnob Try.prog.godebug = none := by kernel_rfl
theorem laidOut : laidOutB Try.prog = true := by kernel_rfl

theorem and_top (t0 t1 t2 t3 : Bool) : bits .and .i64 (bitN t0 1024 + bitN t1 2048 + bitN t2 4096 + bitN t3 8192) 3072 = bitN t0 1024 + bitN t1 2048 := by
  cases t0 <;> cases t1 <;> cases t2 <;> cases t3 <;> decide

theorem left_top {l : List Tk} (ok : ∀ t ∈ l, TkOk t) (hl : l.length ≤ 40) {s : Pt} (h : Fits l s) : (leftT l s).1 ≤ 403200 ∧ (leftT l s).2 ≤ 57600 := by
  have hs := sum_top (l := l.drop s.1.toNat) fun u hu => ok u (List.mem_of_mem_drop hu)
  have hz : (l.drop s.1.toNat).length ≤ 40 := by rw [List.length_drop]; omega
  obtain ⟨i, x, y⟩ := s
  have fc := fits_cells ok h
  unfold leftT
  simp only at hs hz ⊢
  omega

open Classical in
set_option maxRecDepth 20000 in
set_option maxHeartbeats 8000000 in
theorem walk (w : World) (A0 : Option Addr) (n0 c0 : Nat) (l0 : List Tk) (hn0 : l0.length = n0) (r0 : RdK w A0 l0) (q0 : n0 ≤ c0) (z0 : A0 = none → c0 = 0) (i1 x1 y1 : Int) (hx1 : -9223372036854775808 ≤ x1 ∧ x1 ≤ 9223372036854775807) (hy1 : -9223372036854775808 ≤ y1 ∧ y1 ≤ 9223372036854775807) (m2 j2 : Int) (hm2 : -9223372036854775808 ≤ m2 ∧ m2 ≤ 9223372036854775807) :
    Calls Try.prog 6 #[.slice A0 n0 c0, .agg #[.int .i64 i1, .int .i64 x1, .int .i64 y1], .agg #[.int .i64 m2, .int .i64 j2]] w fun e w' => e = .returned (.bool true) ∧ Below w.heap.size w w' := by
  have CL := fun W (h : RdK W A0 l0) => light19_any A0 n0 c0 l0 hn0 W h
  have HK := Lib.hid r0
  by_cases lk : LightK l0
  case neg =>
    rw [decide_eq_false lk] at CL
    clear lk r0
    have S0 := Lib.hid (show Bx ((w.alloc (.cells #[.int .i64 i1, .int .i64 x1, .int .i64 y1] 24)).alloc (.cells #[.int .i64 m2, .int .i64 j2] 38)) w.heap.size 24 #[.int .i64 i1, .int .i64 x1, .int .i64 y1] from (Bx.new (W := w) _ _ rfl).alloc _)
    have M0 := Lib.hid (show Bx ((w.alloc (.cells #[.int .i64 i1, .int .i64 x1, .int .i64 y1] 24)).alloc (.cells #[.int .i64 m2, .int .i64 j2] 38)) (w.heap.size + 1) 38 #[.int .i64 m2, .int .i64 j2] from Bx.new (W := w.alloc (.cells #[.int .i64 i1, .int .i64 x1, .int .i64 y1] 24)) _ _ (by simp))
    have B0 := Lib.hid (show Below w.heap.size w ((w.alloc (.cells #[.int .i64 i1, .int .i64 x1, .int .i64 y1] 24)).alloc (.cells #[.int .i64 m2, .int .i64 j2] 38)) by (repeat (first | exact Below.refl _ _ | (refine b_st ?_ (by first | (simp; done) | (simp; omega))) | (refine b_al ?_ (Nat.le_refl _) _) | refine b_dn ?_ | refine b_dr ?_ | (refine b_cl ?_ (Nat.le_refl _) (by assumption)))))
    go_enter Try.func6, Try.ntmps6
    go_wp2_with (first
      | go_skip
      | (go_at_call 7; refine (CL _ (HK.out.below B0.out)).mono ?_; rintro e w1 ⟨rfl, hb1⟩; have S1 := Lib.hid (S0.out.below hb1); have M1 := Lib.hid (M0.out.below hb1); have B1 := Lib.hid (b_cl B0.out (Nat.le_refl _) hb1); have lm1 : w.heap.size + 1 < w1.heap.size := M1.out.lt; have ls1 : w.heap.size < w1.heap.size := S1.out.lt; have s0_1 := S1.out.cell (k := 0) rfl; have s1_1 := S1.out.cell (k := 1) rfl; have s2_1 := S1.out.cell (k := 2) rfl; have m0_1 := M1.out.cell (k := 0) rfl; have m1_1 := M1.out.cell (k := 1) rfl; clear hb1)
      | (go_at_call 8; refine (alive19_any _).mono ?_; rintro e wz ⟨rfl, hbz⟩))
    go_ret
    exact ⟨rfl, b_cl B1.out (Nat.le_refl _) hbz⟩
  rw [decide_eq_true lk] at CL
  have few := lk.few
  have hl : n0 ≤ 40 := by have := lk.1; omega
  have CS := fun W (h : RdK W A0 l0) => step19_any A0 n0 c0 l0 hn0 i1 x1 y1 m2 j2 W h few hx1 hy1 hm2
  by_cases se : stepE l0 (i1, x1, y1) m2 j2 = 0
  case neg =>
    obtain ⟨e0, he⟩ : ∃ e0, stepE l0 (i1, x1, y1) m2 j2 = e0 := ⟨_, rfl⟩
    have hne : ¬ e0 = 0 := by rw [← he]; exact se
    rw [stepv_bad he hne] at CS
    unfold sp3 at CS
    simp only at CS
    have ne2 : (e0 != 0) = true := by simp [hne]
    clear he se lk r0 few hn0 hx1 hy1 hm2 q0 z0 hne
    have S0 := Lib.hid (show Bx ((w.alloc (.cells #[.int .i64 i1, .int .i64 x1, .int .i64 y1] 24)).alloc (.cells #[.int .i64 m2, .int .i64 j2] 38)) w.heap.size 24 #[.int .i64 i1, .int .i64 x1, .int .i64 y1] from (Bx.new (W := w) _ _ rfl).alloc _)
    have M0 := Lib.hid (show Bx ((w.alloc (.cells #[.int .i64 i1, .int .i64 x1, .int .i64 y1] 24)).alloc (.cells #[.int .i64 m2, .int .i64 j2] 38)) (w.heap.size + 1) 38 #[.int .i64 m2, .int .i64 j2] from Bx.new (W := w.alloc (.cells #[.int .i64 i1, .int .i64 x1, .int .i64 y1] 24)) _ _ (by simp))
    have B0 := Lib.hid (show Below w.heap.size w ((w.alloc (.cells #[.int .i64 i1, .int .i64 x1, .int .i64 y1] 24)).alloc (.cells #[.int .i64 m2, .int .i64 j2] 38)) by (repeat (first | exact Below.refl _ _ | (refine b_st ?_ (by first | (simp; done) | (simp; omega))) | (refine b_al ?_ (Nat.le_refl _) _) | refine b_dn ?_ | refine b_dr ?_ | (refine b_cl ?_ (Nat.le_refl _) (by assumption)))))
    go_enter Try.func6, Try.ntmps6
    go_wp2_with (first
      | go_skip
      | (go_at_call 7; refine (CL _ (HK.out.below B0.out)).mono ?_; rintro e w1 ⟨rfl, hb1⟩; have S1 := Lib.hid (S0.out.below hb1); have M1 := Lib.hid (M0.out.below hb1); have B1 := Lib.hid (b_cl B0.out (Nat.le_refl _) hb1); have lm1 : w.heap.size + 1 < w1.heap.size := M1.out.lt; have ls1 : w.heap.size < w1.heap.size := S1.out.lt; have s0_1 := S1.out.cell (k := 0) rfl; have s1_1 := S1.out.cell (k := 1) rfl; have s2_1 := S1.out.cell (k := 2) rfl; have m0_1 := M1.out.cell (k := 0) rfl; have m1_1 := M1.out.cell (k := 1) rfl; clear hb1)
      | (go_at_call 18; refine (CS _ (HK.out.below B1.out)).mono ?_; rintro e w2 ⟨rfl, hb2⟩; have S2 := Lib.hid ((S1.out.below hb2).alloc (.cells #[.int .i64 0, .int .i64 0, .int .i64 0] 24)); have M2 := Lib.hid ((M1.out.below hb2).alloc (.cells #[.int .i64 0, .int .i64 0, .int .i64 0] 24)); have B2 := Lib.hid (b_al (b_cl B1.out (Nat.le_refl _) hb2) (Nat.le_refl _) (.cells #[.int .i64 0, .int .i64 0, .int .i64 0] 24)); have A2 := Lib.hid (Bx.new (W := w2) 24 #[.int .i64 0, .int .i64 0, .int .i64 0] rfl); have ls2 : w.heap.size < w2.heap.size := (S1.out.below hb2).lt; have lm2 : w.heap.size + 1 < w2.heap.size := (M1.out.below hb2).lt; have s0_2 := (S1.out.below hb2).cell (k := 0) rfl; have s1_2 := (S1.out.below hb2).cell (k := 1) rfl; have s2_2 := (S1.out.below hb2).cell (k := 2) rfl; have m0_2 := (M1.out.below hb2).cell (k := 0) rfl; have m1_2 := (M1.out.below hb2).cell (k := 1) rfl; clear hb2)
      | (go_at_call 8; refine (alive19_any _).mono ?_; rintro e wz ⟨rfl, hbz⟩))
    go_ret
    exact ⟨rfl, b_cl B2.out (Nat.le_refl _) hbz⟩
  obtain ⟨_, sz, _, mb0, mb1⟩ := over_step_ok se
  obtain ⟨ck, ft⟩ := spot_zero sz
  have ok := (checkt_zero ck).1
  rw [stepv_ok se] at CS
  have CF := fun W (h : RdK W A0 l0) => leftL19_any A0 n0 c0 l0 hn0 i1 x1 y1 W h few q0 z0 hx1 hy1
  have CD := fun W (h : RdK W A0 l0) => done19_any A0 n0 c0 l0 hn0 i1 x1 y1 W h few hx1 hy1
  rw [leftv_ok sz] at CF
  have hd : doneV l0 (i1, x1, y1) = decide (i1 = (n0 : Int)) := by unfold doneV; rw [sz, hn0]; rfl
  rw [hd] at CD
  have NF := step_fits ok ft j2
  have SL := step_left ft j2
  have LN := left_none ok ft
  have LT := left_top ok (by omega : l0.length ≤ 40) ft
  have STL := fun h1 h2 => step_still ft (k := j2) h1 h2
  obtain ⟨⟨p0, p1, p2⟩, hP⟩ : ∃ P, stepT l0 (i1, x1, y1) j2 = P := ⟨_, rfl⟩
  rw [hP] at CS NF SL STL
  have fc := fits_cells ok NF
  have szn := spot_yes ck NF
  have CN := fun W (h : RdK W A0 l0) => leftL19_any A0 n0 c0 l0 hn0 p0 p1 p2 W h few q0 z0 (by omega) (by omega)
  have CG := fun W (h : RdK W A0 l0) => rightE19_any A0 n0 c0 l0 hn0 p0 p1 p2 W h few (by omega) (by omega)
  rw [leftv_ok szn] at CN
  rw [szn] at CG
  rw [decide_eq_true rfl] at CG
  unfold setT at CS
  unfold sp3 at CS
  simp only at CS CF CN
  obtain ⟨⟨a0, b0'⟩, hL⟩ : ∃ L, leftT l0 (i1, x1, y1) = L := ⟨_, rfl⟩
  obtain ⟨⟨a1, b1'⟩, hL2⟩ : ∃ L, leftT l0 (p0, p1, p2) = L := ⟨_, rfl⟩
  rw [hL] at CF SL LN LT
  rw [hL2] at CN SL
  simp only at CF CN LN LT
  obtain ⟨la0, lb0, LD⟩ := LN
  rw [hn0] at LD
  have hsum : a0 + b0' ≤ 40000000 ∧ 0 ≤ a0 + b0' := by omega
  obtain ⟨hs1, hs2⟩ := hsum
  have FD : decide (i1 = (n0 : Int)) = (a0 + b0' == 0) := by
    by_cases h : a0 + b0' = 0
    · rw [decide_eq_true (LD.1 h)]; simp [h]
    · rw [decide_eq_false (fun c => h (LD.2 c))]; simp [h]
  rw [FD] at CD
  have an := and_top (b0 l0 (i1, x1, y1) j2) (b1 l0 (i1, x1, y1) j2) (b2 l0 (i1, x1, y1) m2 j2) (b3 (i1, x1, y1) j2)
  have hb0 : b0 l0 (i1, x1, y1) j2 = decide (j2 = 3 ∧ ¬ CanD l0 (i1, x1, y1)) := rfl
  have hb1 : b1 l0 (i1, x1, y1) j2 = decide (j2 = 2 ∧ ¬ CanW l0 (i1, x1, y1)) := rfl
  rw [hb0, hb1] at an CS
  generalize hsv : bitN (decide (j2 = 3 ∧ ¬ CanD l0 (i1, x1, y1))) 1024 + bitN (decide (j2 = 2 ∧ ¬ CanW l0 (i1, x1, y1))) 2048 + bitN (b2 l0 (i1, x1, y1) m2 j2) 4096 + bitN (b3 (i1, x1, y1) j2) 8192 = sv at an CS
  cases hz : (a0 + b0' == 0) with
  | true =>
    rw [hz] at CD
    by_cases hk3 : j2 = 3
    case pos =>
      subst hk3
      rw [decide_eq_false (show ¬ ((3 : Int) = 2 ∧ ¬ CanW l0 (i1, x1, y1)) from fun c => absurd c.1 (by decide))] at an
      by_cases cd : CanD l0 (i1, x1, y1)
      case pos =>
        rw [decide_eq_false (fun c => c.2 cd)] at an
        rw [if_pos ⟨rfl, cd⟩] at SL
        simp only [Prod.mk.injEq] at SL
        obtain ⟨e1, e2⟩ := SL
        subst e1 e2
        have an2 : bits .and .i64 sv 3072 = 0 := an
        clear cd an STL hsv fc szn NF sz ck ft ok se hd LD FD LT hL hL2 hP hb0 hb1 mb0 mb1 lk r0 few hn0 hx1 hy1 hm2 q0 z0
        have S0 := Lib.hid (show Bx ((w.alloc (.cells #[.int .i64 i1, .int .i64 x1, .int .i64 y1] 24)).alloc (.cells #[.int .i64 m2, .int .i64 3] 38)) w.heap.size 24 #[.int .i64 i1, .int .i64 x1, .int .i64 y1] from (Bx.new (W := w) _ _ rfl).alloc _)
        have M0 := Lib.hid (show Bx ((w.alloc (.cells #[.int .i64 i1, .int .i64 x1, .int .i64 y1] 24)).alloc (.cells #[.int .i64 m2, .int .i64 3] 38)) (w.heap.size + 1) 38 #[.int .i64 m2, .int .i64 3] from Bx.new (W := w.alloc (.cells #[.int .i64 i1, .int .i64 x1, .int .i64 y1] 24)) _ _ (by simp))
        have B0 := Lib.hid (show Below w.heap.size w ((w.alloc (.cells #[.int .i64 i1, .int .i64 x1, .int .i64 y1] 24)).alloc (.cells #[.int .i64 m2, .int .i64 3] 38)) by (repeat (first | exact Below.refl _ _ | (refine b_st ?_ (by first | (simp; done) | (simp; omega))) | (refine b_al ?_ (Nat.le_refl _) _) | refine b_dn ?_ | refine b_dr ?_ | (refine b_cl ?_ (Nat.le_refl _) (by assumption)))))
        go_enter Try.func6, Try.ntmps6
        go_wp2_with (first
          | go_skip
          | (go_at_call 7; refine (CL _ (HK.out.below B0.out)).mono ?_; rintro e w1 ⟨rfl, hb1⟩; have S1 := Lib.hid (S0.out.below hb1); have M1 := Lib.hid (M0.out.below hb1); have B1 := Lib.hid (b_cl B0.out (Nat.le_refl _) hb1); have lm1 : w.heap.size + 1 < w1.heap.size := M1.out.lt; have ls1 : w.heap.size < w1.heap.size := S1.out.lt; have s0_1 := S1.out.cell (k := 0) rfl; have s1_1 := S1.out.cell (k := 1) rfl; have s2_1 := S1.out.cell (k := 2) rfl; have m0_1 := M1.out.cell (k := 0) rfl; have m1_1 := M1.out.cell (k := 1) rfl; clear hb1)
          | (go_at_call 18; refine (CS _ (HK.out.below B1.out)).mono ?_; rintro e w2 ⟨rfl, hb2⟩; have S2 := Lib.hid ((S1.out.below hb2).alloc (.cells #[.int .i64 p0, .int .i64 p1, .int .i64 p2] 24)); have M2 := Lib.hid ((M1.out.below hb2).alloc (.cells #[.int .i64 p0, .int .i64 p1, .int .i64 p2] 24)); have B2 := Lib.hid (b_al (b_cl B1.out (Nat.le_refl _) hb2) (Nat.le_refl _) (.cells #[.int .i64 p0, .int .i64 p1, .int .i64 p2] 24)); have A2 := Lib.hid (Bx.new (W := w2) 24 #[.int .i64 p0, .int .i64 p1, .int .i64 p2] rfl); have ls2 : w.heap.size < w2.heap.size := (S1.out.below hb2).lt; have lm2 : w.heap.size + 1 < w2.heap.size := (M1.out.below hb2).lt; have s0_2 := (S1.out.below hb2).cell (k := 0) rfl; have s1_2 := (S1.out.below hb2).cell (k := 1) rfl; have s2_2 := (S1.out.below hb2).cell (k := 2) rfl; have m0_2 := (M1.out.below hb2).cell (k := 0) rfl; have m1_2 := (M1.out.below hb2).cell (k := 1) rfl; clear hb2)
          | (go_at_call 11; (with_reducible refine (CF _ ?_).mono ?_); (focus exact HK.out.below B2.out); rintro e w3 ⟨rfl, hb3⟩; have S3 := Lib.hid (S2.out.below hb3); have M3 := Lib.hid (M2.out.below hb3); have A3 := Lib.hid (A2.out.below hb3); have B3 := Lib.hid (b_cl B2.out (Nat.le_refl _) hb3); have lm3 : w.heap.size + 1 < w3.heap.size := M3.out.lt; have ls3 : w.heap.size < w3.heap.size := S3.out.lt; have s0_3 := S3.out.cell (k := 0) rfl; have s1_3 := S3.out.cell (k := 1) rfl; have s2_3 := S3.out.cell (k := 2) rfl; have m0_3 := M3.out.cell (k := 0) rfl; have m1_3 := M3.out.cell (k := 1) rfl; have a0_3 := A3.out.cell (k := 0) rfl; have a1_3 := A3.out.cell (k := 1) rfl; have a2_3 := A3.out.cell (k := 2) rfl; have la3 : w2.heap.size < w3.heap.size := A3.out.lt; clear hb3)
          | (go_at_call 11; (with_reducible refine (CN _ ?_).mono ?_); (focus exact HK.out.below B3.out); rintro e w4 ⟨rfl, hb4⟩; have S4 := Lib.hid (S3.out.below hb4); have M4 := Lib.hid (M3.out.below hb4); have A4 := Lib.hid (A3.out.below hb4); have B4 := Lib.hid (b_cl B3.out (Nat.le_refl _) hb4); have lm4 : w.heap.size + 1 < w4.heap.size := M4.out.lt; have ls4 : w.heap.size < w4.heap.size := S4.out.lt; have s0_4 := S4.out.cell (k := 0) rfl; have s1_4 := S4.out.cell (k := 1) rfl; have s2_4 := S4.out.cell (k := 2) rfl; have m0_4 := M4.out.cell (k := 0) rfl; have m1_4 := M4.out.cell (k := 1) rfl; have a0_4 := A4.out.cell (k := 0) rfl; have a1_4 := A4.out.cell (k := 1) rfl; have a2_4 := A4.out.cell (k := 2) rfl; have la4 : w2.heap.size < w4.heap.size := A4.out.lt; clear hb4)
          | (go_at_call 14; refine (CG _ (HK.out.below B4.out)).mono ?_; rintro e w5 ⟨rfl, hb5⟩; have S5 := Lib.hid (S4.out.below hb5); have M5 := Lib.hid (M4.out.below hb5); have A5 := Lib.hid (A4.out.below hb5); have B5 := Lib.hid (b_cl B4.out (Nat.le_refl _) hb5); have lm5 : w.heap.size + 1 < w5.heap.size := M5.out.lt; have ls5 : w.heap.size < w5.heap.size := S5.out.lt; have s0_5 := S5.out.cell (k := 0) rfl; have s1_5 := S5.out.cell (k := 1) rfl; have s2_5 := S5.out.cell (k := 2) rfl; have m0_5 := M5.out.cell (k := 0) rfl; have m1_5 := M5.out.cell (k := 1) rfl; have a0_5 := A5.out.cell (k := 0) rfl; have a1_5 := A5.out.cell (k := 1) rfl; have a2_5 := A5.out.cell (k := 2) rfl; have la5 : w2.heap.size < w5.heap.size := A5.out.lt; clear hb5)
          | (go_at_call 15; refine (CD _ (HK.out.below B5.out)).mono ?_; rintro e w6 ⟨rfl, hb6⟩; have S6 := Lib.hid (S5.out.below hb6); have M6 := Lib.hid (M5.out.below hb6); have A6 := Lib.hid (A5.out.below hb6); have B6 := Lib.hid (b_cl B5.out (Nat.le_refl _) hb6); have lm6 : w.heap.size + 1 < w6.heap.size := M6.out.lt; have ls6 : w.heap.size < w6.heap.size := S6.out.lt; have s0_6 := S6.out.cell (k := 0) rfl; have s1_6 := S6.out.cell (k := 1) rfl; have s2_6 := S6.out.cell (k := 2) rfl; have m0_6 := M6.out.cell (k := 0) rfl; have m1_6 := M6.out.cell (k := 1) rfl; have a0_6 := A6.out.cell (k := 0) rfl; have a1_6 := A6.out.cell (k := 1) rfl; have a2_6 := A6.out.cell (k := 2) rfl; have la6 : w2.heap.size < w6.heap.size := A6.out.lt; clear hb6)
          | (go_at_call 8; refine (alive19_any _).mono ?_; rintro e wz ⟨rfl, hbz⟩))
        go_ret
        exact ⟨rfl, b_cl B6.out (Nat.le_refl _) hbz⟩
      case neg =>
        rw [decide_eq_true (show (3 : Int) = 3 ∧ ¬ CanD l0 (i1, x1, y1) from ⟨rfl, cd⟩)] at an
        rw [if_neg (fun c => cd c.2), if_neg (fun c => absurd c.1 (by decide))] at SL
        simp only [Prod.mk.injEq] at SL
        obtain ⟨e1, e2⟩ := SL
        subst e1 e2
        have an2 : bits .and .i64 sv 3072 = 1024 := an
        clear cd an STL hsv fc szn NF sz ck ft ok se hd LD FD LT hL hL2 hP hb0 hb1 mb0 mb1 lk r0 few hn0 hx1 hy1 hm2 q0 z0
        have S0 := Lib.hid (show Bx ((w.alloc (.cells #[.int .i64 i1, .int .i64 x1, .int .i64 y1] 24)).alloc (.cells #[.int .i64 m2, .int .i64 3] 38)) w.heap.size 24 #[.int .i64 i1, .int .i64 x1, .int .i64 y1] from (Bx.new (W := w) _ _ rfl).alloc _)
        have M0 := Lib.hid (show Bx ((w.alloc (.cells #[.int .i64 i1, .int .i64 x1, .int .i64 y1] 24)).alloc (.cells #[.int .i64 m2, .int .i64 3] 38)) (w.heap.size + 1) 38 #[.int .i64 m2, .int .i64 3] from Bx.new (W := w.alloc (.cells #[.int .i64 i1, .int .i64 x1, .int .i64 y1] 24)) _ _ (by simp))
        have B0 := Lib.hid (show Below w.heap.size w ((w.alloc (.cells #[.int .i64 i1, .int .i64 x1, .int .i64 y1] 24)).alloc (.cells #[.int .i64 m2, .int .i64 3] 38)) by (repeat (first | exact Below.refl _ _ | (refine b_st ?_ (by first | (simp; done) | (simp; omega))) | (refine b_al ?_ (Nat.le_refl _) _) | refine b_dn ?_ | refine b_dr ?_ | (refine b_cl ?_ (Nat.le_refl _) (by assumption)))))
        go_enter Try.func6, Try.ntmps6
        go_wp2_with (first
          | go_skip
          | (go_at_call 7; refine (CL _ (HK.out.below B0.out)).mono ?_; rintro e w1 ⟨rfl, hb1⟩; have S1 := Lib.hid (S0.out.below hb1); have M1 := Lib.hid (M0.out.below hb1); have B1 := Lib.hid (b_cl B0.out (Nat.le_refl _) hb1); have lm1 : w.heap.size + 1 < w1.heap.size := M1.out.lt; have ls1 : w.heap.size < w1.heap.size := S1.out.lt; have s0_1 := S1.out.cell (k := 0) rfl; have s1_1 := S1.out.cell (k := 1) rfl; have s2_1 := S1.out.cell (k := 2) rfl; have m0_1 := M1.out.cell (k := 0) rfl; have m1_1 := M1.out.cell (k := 1) rfl; clear hb1)
          | (go_at_call 18; refine (CS _ (HK.out.below B1.out)).mono ?_; rintro e w2 ⟨rfl, hb2⟩; have S2 := Lib.hid ((S1.out.below hb2).alloc (.cells #[.int .i64 p0, .int .i64 p1, .int .i64 p2] 24)); have M2 := Lib.hid ((M1.out.below hb2).alloc (.cells #[.int .i64 p0, .int .i64 p1, .int .i64 p2] 24)); have B2 := Lib.hid (b_al (b_cl B1.out (Nat.le_refl _) hb2) (Nat.le_refl _) (.cells #[.int .i64 p0, .int .i64 p1, .int .i64 p2] 24)); have A2 := Lib.hid (Bx.new (W := w2) 24 #[.int .i64 p0, .int .i64 p1, .int .i64 p2] rfl); have ls2 : w.heap.size < w2.heap.size := (S1.out.below hb2).lt; have lm2 : w.heap.size + 1 < w2.heap.size := (M1.out.below hb2).lt; have s0_2 := (S1.out.below hb2).cell (k := 0) rfl; have s1_2 := (S1.out.below hb2).cell (k := 1) rfl; have s2_2 := (S1.out.below hb2).cell (k := 2) rfl; have m0_2 := (M1.out.below hb2).cell (k := 0) rfl; have m1_2 := (M1.out.below hb2).cell (k := 1) rfl; clear hb2)
          | (go_at_call 11; (with_reducible refine (CF _ ?_).mono ?_); (focus exact HK.out.below B2.out); rintro e w3 ⟨rfl, hb3⟩; have S3 := Lib.hid (S2.out.below hb3); have M3 := Lib.hid (M2.out.below hb3); have A3 := Lib.hid (A2.out.below hb3); have B3 := Lib.hid (b_cl B2.out (Nat.le_refl _) hb3); have lm3 : w.heap.size + 1 < w3.heap.size := M3.out.lt; have ls3 : w.heap.size < w3.heap.size := S3.out.lt; have s0_3 := S3.out.cell (k := 0) rfl; have s1_3 := S3.out.cell (k := 1) rfl; have s2_3 := S3.out.cell (k := 2) rfl; have m0_3 := M3.out.cell (k := 0) rfl; have m1_3 := M3.out.cell (k := 1) rfl; have a0_3 := A3.out.cell (k := 0) rfl; have a1_3 := A3.out.cell (k := 1) rfl; have a2_3 := A3.out.cell (k := 2) rfl; have la3 : w2.heap.size < w3.heap.size := A3.out.lt; clear hb3)
          | (go_at_call 11; (with_reducible refine (CN _ ?_).mono ?_); (focus exact HK.out.below B3.out); rintro e w4 ⟨rfl, hb4⟩; have S4 := Lib.hid (S3.out.below hb4); have M4 := Lib.hid (M3.out.below hb4); have A4 := Lib.hid (A3.out.below hb4); have B4 := Lib.hid (b_cl B3.out (Nat.le_refl _) hb4); have lm4 : w.heap.size + 1 < w4.heap.size := M4.out.lt; have ls4 : w.heap.size < w4.heap.size := S4.out.lt; have s0_4 := S4.out.cell (k := 0) rfl; have s1_4 := S4.out.cell (k := 1) rfl; have s2_4 := S4.out.cell (k := 2) rfl; have m0_4 := M4.out.cell (k := 0) rfl; have m1_4 := M4.out.cell (k := 1) rfl; have a0_4 := A4.out.cell (k := 0) rfl; have a1_4 := A4.out.cell (k := 1) rfl; have a2_4 := A4.out.cell (k := 2) rfl; have la4 : w2.heap.size < w4.heap.size := A4.out.lt; clear hb4)
          | (go_at_call 14; refine (CG _ (HK.out.below B4.out)).mono ?_; rintro e w5 ⟨rfl, hb5⟩; have S5 := Lib.hid (S4.out.below hb5); have M5 := Lib.hid (M4.out.below hb5); have A5 := Lib.hid (A4.out.below hb5); have B5 := Lib.hid (b_cl B4.out (Nat.le_refl _) hb5); have lm5 : w.heap.size + 1 < w5.heap.size := M5.out.lt; have ls5 : w.heap.size < w5.heap.size := S5.out.lt; have s0_5 := S5.out.cell (k := 0) rfl; have s1_5 := S5.out.cell (k := 1) rfl; have s2_5 := S5.out.cell (k := 2) rfl; have m0_5 := M5.out.cell (k := 0) rfl; have m1_5 := M5.out.cell (k := 1) rfl; have a0_5 := A5.out.cell (k := 0) rfl; have a1_5 := A5.out.cell (k := 1) rfl; have a2_5 := A5.out.cell (k := 2) rfl; have la5 : w2.heap.size < w5.heap.size := A5.out.lt; clear hb5)
          | (go_at_call 15; refine (CD _ (HK.out.below B5.out)).mono ?_; rintro e w6 ⟨rfl, hb6⟩; have S6 := Lib.hid (S5.out.below hb6); have M6 := Lib.hid (M5.out.below hb6); have A6 := Lib.hid (A5.out.below hb6); have B6 := Lib.hid (b_cl B5.out (Nat.le_refl _) hb6); have lm6 : w.heap.size + 1 < w6.heap.size := M6.out.lt; have ls6 : w.heap.size < w6.heap.size := S6.out.lt; have s0_6 := S6.out.cell (k := 0) rfl; have s1_6 := S6.out.cell (k := 1) rfl; have s2_6 := S6.out.cell (k := 2) rfl; have m0_6 := M6.out.cell (k := 0) rfl; have m1_6 := M6.out.cell (k := 1) rfl; have a0_6 := A6.out.cell (k := 0) rfl; have a1_6 := A6.out.cell (k := 1) rfl; have a2_6 := A6.out.cell (k := 2) rfl; have la6 : w2.heap.size < w6.heap.size := A6.out.lt; clear hb6)
          | (go_at_call 8; refine (alive19_any _).mono ?_; rintro e wz ⟨rfl, hbz⟩))
        go_ret
        exact ⟨rfl, b_cl B6.out (Nat.le_refl _) hbz⟩
    rw [decide_eq_false (show ¬ (j2 = 3 ∧ ¬ CanD l0 (i1, x1, y1)) from fun c => hk3 c.1)] at an
    by_cases hk2 : j2 = 2
    case pos =>
      subst hk2
      by_cases cw : CanW l0 (i1, x1, y1)
      case pos =>
        rw [decide_eq_false (fun c => c.2 cw)] at an
        rw [if_neg (fun c => hk3 c.1), if_pos ⟨rfl, cw⟩] at SL
        simp only [Prod.mk.injEq] at SL
        obtain ⟨e1, e2⟩ := SL
        subst e1 e2
        have an2 : bits .and .i64 sv 3072 = 0 := an
        clear cw an STL hk3 hsv fc szn NF sz ck ft ok se hd LD FD LT hL hL2 hP hb0 hb1 mb0 mb1 lk r0 few hn0 hx1 hy1 hm2 q0 z0
        have S0 := Lib.hid (show Bx ((w.alloc (.cells #[.int .i64 i1, .int .i64 x1, .int .i64 y1] 24)).alloc (.cells #[.int .i64 m2, .int .i64 2] 38)) w.heap.size 24 #[.int .i64 i1, .int .i64 x1, .int .i64 y1] from (Bx.new (W := w) _ _ rfl).alloc _)
        have M0 := Lib.hid (show Bx ((w.alloc (.cells #[.int .i64 i1, .int .i64 x1, .int .i64 y1] 24)).alloc (.cells #[.int .i64 m2, .int .i64 2] 38)) (w.heap.size + 1) 38 #[.int .i64 m2, .int .i64 2] from Bx.new (W := w.alloc (.cells #[.int .i64 i1, .int .i64 x1, .int .i64 y1] 24)) _ _ (by simp))
        have B0 := Lib.hid (show Below w.heap.size w ((w.alloc (.cells #[.int .i64 i1, .int .i64 x1, .int .i64 y1] 24)).alloc (.cells #[.int .i64 m2, .int .i64 2] 38)) by (repeat (first | exact Below.refl _ _ | (refine b_st ?_ (by first | (simp; done) | (simp; omega))) | (refine b_al ?_ (Nat.le_refl _) _) | refine b_dn ?_ | refine b_dr ?_ | (refine b_cl ?_ (Nat.le_refl _) (by assumption)))))
        go_enter Try.func6, Try.ntmps6
        go_wp2_with (first
          | go_skip
          | (go_at_call 7; refine (CL _ (HK.out.below B0.out)).mono ?_; rintro e w1 ⟨rfl, hb1⟩; have S1 := Lib.hid (S0.out.below hb1); have M1 := Lib.hid (M0.out.below hb1); have B1 := Lib.hid (b_cl B0.out (Nat.le_refl _) hb1); have lm1 : w.heap.size + 1 < w1.heap.size := M1.out.lt; have ls1 : w.heap.size < w1.heap.size := S1.out.lt; have s0_1 := S1.out.cell (k := 0) rfl; have s1_1 := S1.out.cell (k := 1) rfl; have s2_1 := S1.out.cell (k := 2) rfl; have m0_1 := M1.out.cell (k := 0) rfl; have m1_1 := M1.out.cell (k := 1) rfl; clear hb1)
          | (go_at_call 18; refine (CS _ (HK.out.below B1.out)).mono ?_; rintro e w2 ⟨rfl, hb2⟩; have S2 := Lib.hid ((S1.out.below hb2).alloc (.cells #[.int .i64 p0, .int .i64 p1, .int .i64 p2] 24)); have M2 := Lib.hid ((M1.out.below hb2).alloc (.cells #[.int .i64 p0, .int .i64 p1, .int .i64 p2] 24)); have B2 := Lib.hid (b_al (b_cl B1.out (Nat.le_refl _) hb2) (Nat.le_refl _) (.cells #[.int .i64 p0, .int .i64 p1, .int .i64 p2] 24)); have A2 := Lib.hid (Bx.new (W := w2) 24 #[.int .i64 p0, .int .i64 p1, .int .i64 p2] rfl); have ls2 : w.heap.size < w2.heap.size := (S1.out.below hb2).lt; have lm2 : w.heap.size + 1 < w2.heap.size := (M1.out.below hb2).lt; have s0_2 := (S1.out.below hb2).cell (k := 0) rfl; have s1_2 := (S1.out.below hb2).cell (k := 1) rfl; have s2_2 := (S1.out.below hb2).cell (k := 2) rfl; have m0_2 := (M1.out.below hb2).cell (k := 0) rfl; have m1_2 := (M1.out.below hb2).cell (k := 1) rfl; clear hb2)
          | (go_at_call 11; (with_reducible refine (CF _ ?_).mono ?_); (focus exact HK.out.below B2.out); rintro e w3 ⟨rfl, hb3⟩; have S3 := Lib.hid (S2.out.below hb3); have M3 := Lib.hid (M2.out.below hb3); have A3 := Lib.hid (A2.out.below hb3); have B3 := Lib.hid (b_cl B2.out (Nat.le_refl _) hb3); have lm3 : w.heap.size + 1 < w3.heap.size := M3.out.lt; have ls3 : w.heap.size < w3.heap.size := S3.out.lt; have s0_3 := S3.out.cell (k := 0) rfl; have s1_3 := S3.out.cell (k := 1) rfl; have s2_3 := S3.out.cell (k := 2) rfl; have m0_3 := M3.out.cell (k := 0) rfl; have m1_3 := M3.out.cell (k := 1) rfl; have a0_3 := A3.out.cell (k := 0) rfl; have a1_3 := A3.out.cell (k := 1) rfl; have a2_3 := A3.out.cell (k := 2) rfl; have la3 : w2.heap.size < w3.heap.size := A3.out.lt; clear hb3)
          | (go_at_call 11; (with_reducible refine (CN _ ?_).mono ?_); (focus exact HK.out.below B3.out); rintro e w4 ⟨rfl, hb4⟩; have S4 := Lib.hid (S3.out.below hb4); have M4 := Lib.hid (M3.out.below hb4); have A4 := Lib.hid (A3.out.below hb4); have B4 := Lib.hid (b_cl B3.out (Nat.le_refl _) hb4); have lm4 : w.heap.size + 1 < w4.heap.size := M4.out.lt; have ls4 : w.heap.size < w4.heap.size := S4.out.lt; have s0_4 := S4.out.cell (k := 0) rfl; have s1_4 := S4.out.cell (k := 1) rfl; have s2_4 := S4.out.cell (k := 2) rfl; have m0_4 := M4.out.cell (k := 0) rfl; have m1_4 := M4.out.cell (k := 1) rfl; have a0_4 := A4.out.cell (k := 0) rfl; have a1_4 := A4.out.cell (k := 1) rfl; have a2_4 := A4.out.cell (k := 2) rfl; have la4 : w2.heap.size < w4.heap.size := A4.out.lt; clear hb4)
          | (go_at_call 14; refine (CG _ (HK.out.below B4.out)).mono ?_; rintro e w5 ⟨rfl, hb5⟩; have S5 := Lib.hid (S4.out.below hb5); have M5 := Lib.hid (M4.out.below hb5); have A5 := Lib.hid (A4.out.below hb5); have B5 := Lib.hid (b_cl B4.out (Nat.le_refl _) hb5); have lm5 : w.heap.size + 1 < w5.heap.size := M5.out.lt; have ls5 : w.heap.size < w5.heap.size := S5.out.lt; have s0_5 := S5.out.cell (k := 0) rfl; have s1_5 := S5.out.cell (k := 1) rfl; have s2_5 := S5.out.cell (k := 2) rfl; have m0_5 := M5.out.cell (k := 0) rfl; have m1_5 := M5.out.cell (k := 1) rfl; have a0_5 := A5.out.cell (k := 0) rfl; have a1_5 := A5.out.cell (k := 1) rfl; have a2_5 := A5.out.cell (k := 2) rfl; have la5 : w2.heap.size < w5.heap.size := A5.out.lt; clear hb5)
          | (go_at_call 15; refine (CD _ (HK.out.below B5.out)).mono ?_; rintro e w6 ⟨rfl, hb6⟩; have S6 := Lib.hid (S5.out.below hb6); have M6 := Lib.hid (M5.out.below hb6); have A6 := Lib.hid (A5.out.below hb6); have B6 := Lib.hid (b_cl B5.out (Nat.le_refl _) hb6); have lm6 : w.heap.size + 1 < w6.heap.size := M6.out.lt; have ls6 : w.heap.size < w6.heap.size := S6.out.lt; have s0_6 := S6.out.cell (k := 0) rfl; have s1_6 := S6.out.cell (k := 1) rfl; have s2_6 := S6.out.cell (k := 2) rfl; have m0_6 := M6.out.cell (k := 0) rfl; have m1_6 := M6.out.cell (k := 1) rfl; have a0_6 := A6.out.cell (k := 0) rfl; have a1_6 := A6.out.cell (k := 1) rfl; have a2_6 := A6.out.cell (k := 2) rfl; have la6 : w2.heap.size < w6.heap.size := A6.out.lt; clear hb6)
          | (go_at_call 8; refine (alive19_any _).mono ?_; rintro e wz ⟨rfl, hbz⟩))
        go_ret
        exact ⟨rfl, b_cl B6.out (Nat.le_refl _) hbz⟩
      case neg =>
        rw [decide_eq_true (show (2 : Int) = 2 ∧ ¬ CanW l0 (i1, x1, y1) from ⟨rfl, cw⟩)] at an
        rw [if_neg (fun c => hk3 c.1), if_neg (fun c => cw c.2)] at SL
        simp only [Prod.mk.injEq] at SL
        obtain ⟨e1, e2⟩ := SL
        subst e1 e2
        have an2 : bits .and .i64 sv 3072 = 2048 := an
        clear cw an STL hk3 hsv fc szn NF sz ck ft ok se hd LD FD LT hL hL2 hP hb0 hb1 mb0 mb1 lk r0 few hn0 hx1 hy1 hm2 q0 z0
        have S0 := Lib.hid (show Bx ((w.alloc (.cells #[.int .i64 i1, .int .i64 x1, .int .i64 y1] 24)).alloc (.cells #[.int .i64 m2, .int .i64 2] 38)) w.heap.size 24 #[.int .i64 i1, .int .i64 x1, .int .i64 y1] from (Bx.new (W := w) _ _ rfl).alloc _)
        have M0 := Lib.hid (show Bx ((w.alloc (.cells #[.int .i64 i1, .int .i64 x1, .int .i64 y1] 24)).alloc (.cells #[.int .i64 m2, .int .i64 2] 38)) (w.heap.size + 1) 38 #[.int .i64 m2, .int .i64 2] from Bx.new (W := w.alloc (.cells #[.int .i64 i1, .int .i64 x1, .int .i64 y1] 24)) _ _ (by simp))
        have B0 := Lib.hid (show Below w.heap.size w ((w.alloc (.cells #[.int .i64 i1, .int .i64 x1, .int .i64 y1] 24)).alloc (.cells #[.int .i64 m2, .int .i64 2] 38)) by (repeat (first | exact Below.refl _ _ | (refine b_st ?_ (by first | (simp; done) | (simp; omega))) | (refine b_al ?_ (Nat.le_refl _) _) | refine b_dn ?_ | refine b_dr ?_ | (refine b_cl ?_ (Nat.le_refl _) (by assumption)))))
        go_enter Try.func6, Try.ntmps6
        go_wp2_with (first
          | go_skip
          | (go_at_call 7; refine (CL _ (HK.out.below B0.out)).mono ?_; rintro e w1 ⟨rfl, hb1⟩; have S1 := Lib.hid (S0.out.below hb1); have M1 := Lib.hid (M0.out.below hb1); have B1 := Lib.hid (b_cl B0.out (Nat.le_refl _) hb1); have lm1 : w.heap.size + 1 < w1.heap.size := M1.out.lt; have ls1 : w.heap.size < w1.heap.size := S1.out.lt; have s0_1 := S1.out.cell (k := 0) rfl; have s1_1 := S1.out.cell (k := 1) rfl; have s2_1 := S1.out.cell (k := 2) rfl; have m0_1 := M1.out.cell (k := 0) rfl; have m1_1 := M1.out.cell (k := 1) rfl; clear hb1)
          | (go_at_call 18; refine (CS _ (HK.out.below B1.out)).mono ?_; rintro e w2 ⟨rfl, hb2⟩; have S2 := Lib.hid ((S1.out.below hb2).alloc (.cells #[.int .i64 p0, .int .i64 p1, .int .i64 p2] 24)); have M2 := Lib.hid ((M1.out.below hb2).alloc (.cells #[.int .i64 p0, .int .i64 p1, .int .i64 p2] 24)); have B2 := Lib.hid (b_al (b_cl B1.out (Nat.le_refl _) hb2) (Nat.le_refl _) (.cells #[.int .i64 p0, .int .i64 p1, .int .i64 p2] 24)); have A2 := Lib.hid (Bx.new (W := w2) 24 #[.int .i64 p0, .int .i64 p1, .int .i64 p2] rfl); have ls2 : w.heap.size < w2.heap.size := (S1.out.below hb2).lt; have lm2 : w.heap.size + 1 < w2.heap.size := (M1.out.below hb2).lt; have s0_2 := (S1.out.below hb2).cell (k := 0) rfl; have s1_2 := (S1.out.below hb2).cell (k := 1) rfl; have s2_2 := (S1.out.below hb2).cell (k := 2) rfl; have m0_2 := (M1.out.below hb2).cell (k := 0) rfl; have m1_2 := (M1.out.below hb2).cell (k := 1) rfl; clear hb2)
          | (go_at_call 11; (with_reducible refine (CF _ ?_).mono ?_); (focus exact HK.out.below B2.out); rintro e w3 ⟨rfl, hb3⟩; have S3 := Lib.hid (S2.out.below hb3); have M3 := Lib.hid (M2.out.below hb3); have A3 := Lib.hid (A2.out.below hb3); have B3 := Lib.hid (b_cl B2.out (Nat.le_refl _) hb3); have lm3 : w.heap.size + 1 < w3.heap.size := M3.out.lt; have ls3 : w.heap.size < w3.heap.size := S3.out.lt; have s0_3 := S3.out.cell (k := 0) rfl; have s1_3 := S3.out.cell (k := 1) rfl; have s2_3 := S3.out.cell (k := 2) rfl; have m0_3 := M3.out.cell (k := 0) rfl; have m1_3 := M3.out.cell (k := 1) rfl; have a0_3 := A3.out.cell (k := 0) rfl; have a1_3 := A3.out.cell (k := 1) rfl; have a2_3 := A3.out.cell (k := 2) rfl; have la3 : w2.heap.size < w3.heap.size := A3.out.lt; clear hb3)
          | (go_at_call 11; (with_reducible refine (CN _ ?_).mono ?_); (focus exact HK.out.below B3.out); rintro e w4 ⟨rfl, hb4⟩; have S4 := Lib.hid (S3.out.below hb4); have M4 := Lib.hid (M3.out.below hb4); have A4 := Lib.hid (A3.out.below hb4); have B4 := Lib.hid (b_cl B3.out (Nat.le_refl _) hb4); have lm4 : w.heap.size + 1 < w4.heap.size := M4.out.lt; have ls4 : w.heap.size < w4.heap.size := S4.out.lt; have s0_4 := S4.out.cell (k := 0) rfl; have s1_4 := S4.out.cell (k := 1) rfl; have s2_4 := S4.out.cell (k := 2) rfl; have m0_4 := M4.out.cell (k := 0) rfl; have m1_4 := M4.out.cell (k := 1) rfl; have a0_4 := A4.out.cell (k := 0) rfl; have a1_4 := A4.out.cell (k := 1) rfl; have a2_4 := A4.out.cell (k := 2) rfl; have la4 : w2.heap.size < w4.heap.size := A4.out.lt; clear hb4)
          | (go_at_call 14; refine (CG _ (HK.out.below B4.out)).mono ?_; rintro e w5 ⟨rfl, hb5⟩; have S5 := Lib.hid (S4.out.below hb5); have M5 := Lib.hid (M4.out.below hb5); have A5 := Lib.hid (A4.out.below hb5); have B5 := Lib.hid (b_cl B4.out (Nat.le_refl _) hb5); have lm5 : w.heap.size + 1 < w5.heap.size := M5.out.lt; have ls5 : w.heap.size < w5.heap.size := S5.out.lt; have s0_5 := S5.out.cell (k := 0) rfl; have s1_5 := S5.out.cell (k := 1) rfl; have s2_5 := S5.out.cell (k := 2) rfl; have m0_5 := M5.out.cell (k := 0) rfl; have m1_5 := M5.out.cell (k := 1) rfl; have a0_5 := A5.out.cell (k := 0) rfl; have a1_5 := A5.out.cell (k := 1) rfl; have a2_5 := A5.out.cell (k := 2) rfl; have la5 : w2.heap.size < w5.heap.size := A5.out.lt; clear hb5)
          | (go_at_call 15; refine (CD _ (HK.out.below B5.out)).mono ?_; rintro e w6 ⟨rfl, hb6⟩; have S6 := Lib.hid (S5.out.below hb6); have M6 := Lib.hid (M5.out.below hb6); have A6 := Lib.hid (A5.out.below hb6); have B6 := Lib.hid (b_cl B5.out (Nat.le_refl _) hb6); have lm6 : w.heap.size + 1 < w6.heap.size := M6.out.lt; have ls6 : w.heap.size < w6.heap.size := S6.out.lt; have s0_6 := S6.out.cell (k := 0) rfl; have s1_6 := S6.out.cell (k := 1) rfl; have s2_6 := S6.out.cell (k := 2) rfl; have m0_6 := M6.out.cell (k := 0) rfl; have m1_6 := M6.out.cell (k := 1) rfl; have a0_6 := A6.out.cell (k := 0) rfl; have a1_6 := A6.out.cell (k := 1) rfl; have a2_6 := A6.out.cell (k := 2) rfl; have la6 : w2.heap.size < w6.heap.size := A6.out.lt; clear hb6)
          | (go_at_call 8; refine (alive19_any _).mono ?_; rintro e wz ⟨rfl, hbz⟩))
        go_ret
        exact ⟨rfl, b_cl B6.out (Nat.le_refl _) hbz⟩
    rw [decide_eq_false (show ¬ (j2 = 2 ∧ ¬ CanW l0 (i1, x1, y1)) from fun c => hk2 c.1)] at an
    have an2 : bits .and .i64 sv 3072 = 0 := an
    have st := (STL (fun c => hk3 c.1) (fun c => hk2 c.1)).symm
    simp only [Prod.mk.injEq] at st
    obtain ⟨e1, e2, e3⟩ := st
    subst e1 e2 e3
    have kk3 : (j2 == 3) = false := by simp [hk3]
    have kk2 : (j2 == 2) = false := by simp [hk2]
    clear an STL SL hk3 hk2 hsv fc szn NF sz ck ft ok se hd LD FD LT hL hL2 hP hb0 hb1 mb0 mb1 lk r0 few hn0 hx1 hy1 hm2 q0 z0
    have S0 := Lib.hid (show Bx ((w.alloc (.cells #[.int .i64 i1, .int .i64 x1, .int .i64 y1] 24)).alloc (.cells #[.int .i64 m2, .int .i64 j2] 38)) w.heap.size 24 #[.int .i64 i1, .int .i64 x1, .int .i64 y1] from (Bx.new (W := w) _ _ rfl).alloc _)
    have M0 := Lib.hid (show Bx ((w.alloc (.cells #[.int .i64 i1, .int .i64 x1, .int .i64 y1] 24)).alloc (.cells #[.int .i64 m2, .int .i64 j2] 38)) (w.heap.size + 1) 38 #[.int .i64 m2, .int .i64 j2] from Bx.new (W := w.alloc (.cells #[.int .i64 i1, .int .i64 x1, .int .i64 y1] 24)) _ _ (by simp))
    have B0 := Lib.hid (show Below w.heap.size w ((w.alloc (.cells #[.int .i64 i1, .int .i64 x1, .int .i64 y1] 24)).alloc (.cells #[.int .i64 m2, .int .i64 j2] 38)) by (repeat (first | exact Below.refl _ _ | (refine b_st ?_ (by first | (simp; done) | (simp; omega))) | (refine b_al ?_ (Nat.le_refl _) _) | refine b_dn ?_ | refine b_dr ?_ | (refine b_cl ?_ (Nat.le_refl _) (by assumption)))))
    go_enter Try.func6, Try.ntmps6
    go_wp2_with (first
      | go_skip
      | (go_at_call 7; refine (CL _ (HK.out.below B0.out)).mono ?_; rintro e w1 ⟨rfl, hb1⟩; have S1 := Lib.hid (S0.out.below hb1); have M1 := Lib.hid (M0.out.below hb1); have B1 := Lib.hid (b_cl B0.out (Nat.le_refl _) hb1); have lm1 : w.heap.size + 1 < w1.heap.size := M1.out.lt; have ls1 : w.heap.size < w1.heap.size := S1.out.lt; have s0_1 := S1.out.cell (k := 0) rfl; have s1_1 := S1.out.cell (k := 1) rfl; have s2_1 := S1.out.cell (k := 2) rfl; have m0_1 := M1.out.cell (k := 0) rfl; have m1_1 := M1.out.cell (k := 1) rfl; clear hb1)
      | (go_at_call 18; refine (CS _ (HK.out.below B1.out)).mono ?_; rintro e w2 ⟨rfl, hb2⟩; have S2 := Lib.hid ((S1.out.below hb2).alloc (.cells #[.int .i64 i1, .int .i64 x1, .int .i64 y1] 24)); have M2 := Lib.hid ((M1.out.below hb2).alloc (.cells #[.int .i64 i1, .int .i64 x1, .int .i64 y1] 24)); have B2 := Lib.hid (b_al (b_cl B1.out (Nat.le_refl _) hb2) (Nat.le_refl _) (.cells #[.int .i64 i1, .int .i64 x1, .int .i64 y1] 24)); have A2 := Lib.hid (Bx.new (W := w2) 24 #[.int .i64 i1, .int .i64 x1, .int .i64 y1] rfl); have ls2 : w.heap.size < w2.heap.size := (S1.out.below hb2).lt; have lm2 : w.heap.size + 1 < w2.heap.size := (M1.out.below hb2).lt; have s0_2 := (S1.out.below hb2).cell (k := 0) rfl; have s1_2 := (S1.out.below hb2).cell (k := 1) rfl; have s2_2 := (S1.out.below hb2).cell (k := 2) rfl; have m0_2 := (M1.out.below hb2).cell (k := 0) rfl; have m1_2 := (M1.out.below hb2).cell (k := 1) rfl; clear hb2)
      | (go_at_call 11; (with_reducible refine (CF _ ?_).mono ?_); (focus exact HK.out.below B2.out); rintro e w3 ⟨rfl, hb3⟩; have S3 := Lib.hid (S2.out.below hb3); have M3 := Lib.hid (M2.out.below hb3); have A3 := Lib.hid (A2.out.below hb3); have B3 := Lib.hid (b_cl B2.out (Nat.le_refl _) hb3); have lm3 : w.heap.size + 1 < w3.heap.size := M3.out.lt; have ls3 : w.heap.size < w3.heap.size := S3.out.lt; have s0_3 := S3.out.cell (k := 0) rfl; have s1_3 := S3.out.cell (k := 1) rfl; have s2_3 := S3.out.cell (k := 2) rfl; have m0_3 := M3.out.cell (k := 0) rfl; have m1_3 := M3.out.cell (k := 1) rfl; have a0_3 := A3.out.cell (k := 0) rfl; have a1_3 := A3.out.cell (k := 1) rfl; have a2_3 := A3.out.cell (k := 2) rfl; have la3 : w2.heap.size < w3.heap.size := A3.out.lt; clear hb3)
      | (go_at_call 11; (with_reducible refine (CN _ ?_).mono ?_); (focus exact HK.out.below B3.out); rintro e w4 ⟨rfl, hb4⟩; have S4 := Lib.hid (S3.out.below hb4); have M4 := Lib.hid (M3.out.below hb4); have A4 := Lib.hid (A3.out.below hb4); have B4 := Lib.hid (b_cl B3.out (Nat.le_refl _) hb4); have lm4 : w.heap.size + 1 < w4.heap.size := M4.out.lt; have ls4 : w.heap.size < w4.heap.size := S4.out.lt; have s0_4 := S4.out.cell (k := 0) rfl; have s1_4 := S4.out.cell (k := 1) rfl; have s2_4 := S4.out.cell (k := 2) rfl; have m0_4 := M4.out.cell (k := 0) rfl; have m1_4 := M4.out.cell (k := 1) rfl; have a0_4 := A4.out.cell (k := 0) rfl; have a1_4 := A4.out.cell (k := 1) rfl; have a2_4 := A4.out.cell (k := 2) rfl; have la4 : w2.heap.size < w4.heap.size := A4.out.lt; clear hb4)
      | (go_at_call 14; refine (CG _ (HK.out.below B4.out)).mono ?_; rintro e w5 ⟨rfl, hb5⟩; have S5 := Lib.hid (S4.out.below hb5); have M5 := Lib.hid (M4.out.below hb5); have A5 := Lib.hid (A4.out.below hb5); have B5 := Lib.hid (b_cl B4.out (Nat.le_refl _) hb5); have lm5 : w.heap.size + 1 < w5.heap.size := M5.out.lt; have ls5 : w.heap.size < w5.heap.size := S5.out.lt; have s0_5 := S5.out.cell (k := 0) rfl; have s1_5 := S5.out.cell (k := 1) rfl; have s2_5 := S5.out.cell (k := 2) rfl; have m0_5 := M5.out.cell (k := 0) rfl; have m1_5 := M5.out.cell (k := 1) rfl; have a0_5 := A5.out.cell (k := 0) rfl; have a1_5 := A5.out.cell (k := 1) rfl; have a2_5 := A5.out.cell (k := 2) rfl; have la5 : w2.heap.size < w5.heap.size := A5.out.lt; clear hb5)
      | (go_at_call 15; refine (CD _ (HK.out.below B5.out)).mono ?_; rintro e w6 ⟨rfl, hb6⟩; have S6 := Lib.hid (S5.out.below hb6); have M6 := Lib.hid (M5.out.below hb6); have A6 := Lib.hid (A5.out.below hb6); have B6 := Lib.hid (b_cl B5.out (Nat.le_refl _) hb6); have lm6 : w.heap.size + 1 < w6.heap.size := M6.out.lt; have ls6 : w.heap.size < w6.heap.size := S6.out.lt; have s0_6 := S6.out.cell (k := 0) rfl; have s1_6 := S6.out.cell (k := 1) rfl; have s2_6 := S6.out.cell (k := 2) rfl; have m0_6 := M6.out.cell (k := 0) rfl; have m1_6 := M6.out.cell (k := 1) rfl; have a0_6 := A6.out.cell (k := 0) rfl; have a1_6 := A6.out.cell (k := 1) rfl; have a2_6 := A6.out.cell (k := 2) rfl; have la6 : w2.heap.size < w6.heap.size := A6.out.lt; clear hb6)
      | (go_at_call 8; refine (alive19_any _).mono ?_; rintro e wz ⟨rfl, hbz⟩))
    go_ret
    exact ⟨rfl, b_cl B6.out (Nat.le_refl _) hbz⟩
  | false =>
    rw [hz] at CD
    by_cases hk3 : j2 = 3
    case pos =>
      subst hk3
      rw [decide_eq_false (show ¬ ((3 : Int) = 2 ∧ ¬ CanW l0 (i1, x1, y1)) from fun c => absurd c.1 (by decide))] at an
      by_cases cd : CanD l0 (i1, x1, y1)
      case pos =>
        rw [decide_eq_false (fun c => c.2 cd)] at an
        rw [if_pos ⟨rfl, cd⟩] at SL
        simp only [Prod.mk.injEq] at SL
        obtain ⟨e1, e2⟩ := SL
        subst e1 e2
        have an2 : bits .and .i64 sv 3072 = 0 := an
        clear cd an STL hsv fc szn NF sz ck ft ok se hd LD FD LT hL hL2 hP hb0 hb1 mb0 mb1 lk r0 few hn0 hx1 hy1 hm2 q0 z0
        have S0 := Lib.hid (show Bx ((w.alloc (.cells #[.int .i64 i1, .int .i64 x1, .int .i64 y1] 24)).alloc (.cells #[.int .i64 m2, .int .i64 3] 38)) w.heap.size 24 #[.int .i64 i1, .int .i64 x1, .int .i64 y1] from (Bx.new (W := w) _ _ rfl).alloc _)
        have M0 := Lib.hid (show Bx ((w.alloc (.cells #[.int .i64 i1, .int .i64 x1, .int .i64 y1] 24)).alloc (.cells #[.int .i64 m2, .int .i64 3] 38)) (w.heap.size + 1) 38 #[.int .i64 m2, .int .i64 3] from Bx.new (W := w.alloc (.cells #[.int .i64 i1, .int .i64 x1, .int .i64 y1] 24)) _ _ (by simp))
        have B0 := Lib.hid (show Below w.heap.size w ((w.alloc (.cells #[.int .i64 i1, .int .i64 x1, .int .i64 y1] 24)).alloc (.cells #[.int .i64 m2, .int .i64 3] 38)) by (repeat (first | exact Below.refl _ _ | (refine b_st ?_ (by first | (simp; done) | (simp; omega))) | (refine b_al ?_ (Nat.le_refl _) _) | refine b_dn ?_ | refine b_dr ?_ | (refine b_cl ?_ (Nat.le_refl _) (by assumption)))))
        go_enter Try.func6, Try.ntmps6
        go_wp2_with (first
          | go_skip
          | (go_at_call 7; refine (CL _ (HK.out.below B0.out)).mono ?_; rintro e w1 ⟨rfl, hb1⟩; have S1 := Lib.hid (S0.out.below hb1); have M1 := Lib.hid (M0.out.below hb1); have B1 := Lib.hid (b_cl B0.out (Nat.le_refl _) hb1); have lm1 : w.heap.size + 1 < w1.heap.size := M1.out.lt; have ls1 : w.heap.size < w1.heap.size := S1.out.lt; have s0_1 := S1.out.cell (k := 0) rfl; have s1_1 := S1.out.cell (k := 1) rfl; have s2_1 := S1.out.cell (k := 2) rfl; have m0_1 := M1.out.cell (k := 0) rfl; have m1_1 := M1.out.cell (k := 1) rfl; clear hb1)
          | (go_at_call 18; refine (CS _ (HK.out.below B1.out)).mono ?_; rintro e w2 ⟨rfl, hb2⟩; have S2 := Lib.hid ((S1.out.below hb2).alloc (.cells #[.int .i64 p0, .int .i64 p1, .int .i64 p2] 24)); have M2 := Lib.hid ((M1.out.below hb2).alloc (.cells #[.int .i64 p0, .int .i64 p1, .int .i64 p2] 24)); have B2 := Lib.hid (b_al (b_cl B1.out (Nat.le_refl _) hb2) (Nat.le_refl _) (.cells #[.int .i64 p0, .int .i64 p1, .int .i64 p2] 24)); have A2 := Lib.hid (Bx.new (W := w2) 24 #[.int .i64 p0, .int .i64 p1, .int .i64 p2] rfl); have ls2 : w.heap.size < w2.heap.size := (S1.out.below hb2).lt; have lm2 : w.heap.size + 1 < w2.heap.size := (M1.out.below hb2).lt; have s0_2 := (S1.out.below hb2).cell (k := 0) rfl; have s1_2 := (S1.out.below hb2).cell (k := 1) rfl; have s2_2 := (S1.out.below hb2).cell (k := 2) rfl; have m0_2 := (M1.out.below hb2).cell (k := 0) rfl; have m1_2 := (M1.out.below hb2).cell (k := 1) rfl; clear hb2)
          | (go_at_call 11; (with_reducible refine (CF _ ?_).mono ?_); (focus exact HK.out.below B2.out); rintro e w3 ⟨rfl, hb3⟩; have S3 := Lib.hid (S2.out.below hb3); have M3 := Lib.hid (M2.out.below hb3); have A3 := Lib.hid (A2.out.below hb3); have B3 := Lib.hid (b_cl B2.out (Nat.le_refl _) hb3); have lm3 : w.heap.size + 1 < w3.heap.size := M3.out.lt; have ls3 : w.heap.size < w3.heap.size := S3.out.lt; have s0_3 := S3.out.cell (k := 0) rfl; have s1_3 := S3.out.cell (k := 1) rfl; have s2_3 := S3.out.cell (k := 2) rfl; have m0_3 := M3.out.cell (k := 0) rfl; have m1_3 := M3.out.cell (k := 1) rfl; have a0_3 := A3.out.cell (k := 0) rfl; have a1_3 := A3.out.cell (k := 1) rfl; have a2_3 := A3.out.cell (k := 2) rfl; have la3 : w2.heap.size < w3.heap.size := A3.out.lt; clear hb3)
          | (go_at_call 11; (with_reducible refine (CN _ ?_).mono ?_); (focus exact HK.out.below B3.out); rintro e w4 ⟨rfl, hb4⟩; have S4 := Lib.hid (S3.out.below hb4); have M4 := Lib.hid (M3.out.below hb4); have A4 := Lib.hid (A3.out.below hb4); have B4 := Lib.hid (b_cl B3.out (Nat.le_refl _) hb4); have lm4 : w.heap.size + 1 < w4.heap.size := M4.out.lt; have ls4 : w.heap.size < w4.heap.size := S4.out.lt; have s0_4 := S4.out.cell (k := 0) rfl; have s1_4 := S4.out.cell (k := 1) rfl; have s2_4 := S4.out.cell (k := 2) rfl; have m0_4 := M4.out.cell (k := 0) rfl; have m1_4 := M4.out.cell (k := 1) rfl; have a0_4 := A4.out.cell (k := 0) rfl; have a1_4 := A4.out.cell (k := 1) rfl; have a2_4 := A4.out.cell (k := 2) rfl; have la4 : w2.heap.size < w4.heap.size := A4.out.lt; clear hb4)
          | (go_at_call 14; refine (CG _ (HK.out.below B4.out)).mono ?_; rintro e w5 ⟨rfl, hb5⟩; have S5 := Lib.hid (S4.out.below hb5); have M5 := Lib.hid (M4.out.below hb5); have A5 := Lib.hid (A4.out.below hb5); have B5 := Lib.hid (b_cl B4.out (Nat.le_refl _) hb5); have lm5 : w.heap.size + 1 < w5.heap.size := M5.out.lt; have ls5 : w.heap.size < w5.heap.size := S5.out.lt; have s0_5 := S5.out.cell (k := 0) rfl; have s1_5 := S5.out.cell (k := 1) rfl; have s2_5 := S5.out.cell (k := 2) rfl; have m0_5 := M5.out.cell (k := 0) rfl; have m1_5 := M5.out.cell (k := 1) rfl; have a0_5 := A5.out.cell (k := 0) rfl; have a1_5 := A5.out.cell (k := 1) rfl; have a2_5 := A5.out.cell (k := 2) rfl; have la5 : w2.heap.size < w5.heap.size := A5.out.lt; clear hb5)
          | (go_at_call 15; refine (CD _ (HK.out.below B5.out)).mono ?_; rintro e w6 ⟨rfl, hb6⟩; have S6 := Lib.hid (S5.out.below hb6); have M6 := Lib.hid (M5.out.below hb6); have A6 := Lib.hid (A5.out.below hb6); have B6 := Lib.hid (b_cl B5.out (Nat.le_refl _) hb6); have lm6 : w.heap.size + 1 < w6.heap.size := M6.out.lt; have ls6 : w.heap.size < w6.heap.size := S6.out.lt; have s0_6 := S6.out.cell (k := 0) rfl; have s1_6 := S6.out.cell (k := 1) rfl; have s2_6 := S6.out.cell (k := 2) rfl; have m0_6 := M6.out.cell (k := 0) rfl; have m1_6 := M6.out.cell (k := 1) rfl; have a0_6 := A6.out.cell (k := 0) rfl; have a1_6 := A6.out.cell (k := 1) rfl; have a2_6 := A6.out.cell (k := 2) rfl; have la6 : w2.heap.size < w6.heap.size := A6.out.lt; clear hb6)
          | (go_at_call 8; refine (alive19_any _).mono ?_; rintro e wz ⟨rfl, hbz⟩))
        go_ret
        exact ⟨rfl, b_cl B6.out (Nat.le_refl _) hbz⟩
      case neg =>
        rw [decide_eq_true (show (3 : Int) = 3 ∧ ¬ CanD l0 (i1, x1, y1) from ⟨rfl, cd⟩)] at an
        rw [if_neg (fun c => cd c.2), if_neg (fun c => absurd c.1 (by decide))] at SL
        simp only [Prod.mk.injEq] at SL
        obtain ⟨e1, e2⟩ := SL
        subst e1 e2
        have an2 : bits .and .i64 sv 3072 = 1024 := an
        clear cd an STL hsv fc szn NF sz ck ft ok se hd LD FD LT hL hL2 hP hb0 hb1 mb0 mb1 lk r0 few hn0 hx1 hy1 hm2 q0 z0
        have S0 := Lib.hid (show Bx ((w.alloc (.cells #[.int .i64 i1, .int .i64 x1, .int .i64 y1] 24)).alloc (.cells #[.int .i64 m2, .int .i64 3] 38)) w.heap.size 24 #[.int .i64 i1, .int .i64 x1, .int .i64 y1] from (Bx.new (W := w) _ _ rfl).alloc _)
        have M0 := Lib.hid (show Bx ((w.alloc (.cells #[.int .i64 i1, .int .i64 x1, .int .i64 y1] 24)).alloc (.cells #[.int .i64 m2, .int .i64 3] 38)) (w.heap.size + 1) 38 #[.int .i64 m2, .int .i64 3] from Bx.new (W := w.alloc (.cells #[.int .i64 i1, .int .i64 x1, .int .i64 y1] 24)) _ _ (by simp))
        have B0 := Lib.hid (show Below w.heap.size w ((w.alloc (.cells #[.int .i64 i1, .int .i64 x1, .int .i64 y1] 24)).alloc (.cells #[.int .i64 m2, .int .i64 3] 38)) by (repeat (first | exact Below.refl _ _ | (refine b_st ?_ (by first | (simp; done) | (simp; omega))) | (refine b_al ?_ (Nat.le_refl _) _) | refine b_dn ?_ | refine b_dr ?_ | (refine b_cl ?_ (Nat.le_refl _) (by assumption)))))
        go_enter Try.func6, Try.ntmps6
        go_wp2_with (first
          | go_skip
          | (go_at_call 7; refine (CL _ (HK.out.below B0.out)).mono ?_; rintro e w1 ⟨rfl, hb1⟩; have S1 := Lib.hid (S0.out.below hb1); have M1 := Lib.hid (M0.out.below hb1); have B1 := Lib.hid (b_cl B0.out (Nat.le_refl _) hb1); have lm1 : w.heap.size + 1 < w1.heap.size := M1.out.lt; have ls1 : w.heap.size < w1.heap.size := S1.out.lt; have s0_1 := S1.out.cell (k := 0) rfl; have s1_1 := S1.out.cell (k := 1) rfl; have s2_1 := S1.out.cell (k := 2) rfl; have m0_1 := M1.out.cell (k := 0) rfl; have m1_1 := M1.out.cell (k := 1) rfl; clear hb1)
          | (go_at_call 18; refine (CS _ (HK.out.below B1.out)).mono ?_; rintro e w2 ⟨rfl, hb2⟩; have S2 := Lib.hid ((S1.out.below hb2).alloc (.cells #[.int .i64 p0, .int .i64 p1, .int .i64 p2] 24)); have M2 := Lib.hid ((M1.out.below hb2).alloc (.cells #[.int .i64 p0, .int .i64 p1, .int .i64 p2] 24)); have B2 := Lib.hid (b_al (b_cl B1.out (Nat.le_refl _) hb2) (Nat.le_refl _) (.cells #[.int .i64 p0, .int .i64 p1, .int .i64 p2] 24)); have A2 := Lib.hid (Bx.new (W := w2) 24 #[.int .i64 p0, .int .i64 p1, .int .i64 p2] rfl); have ls2 : w.heap.size < w2.heap.size := (S1.out.below hb2).lt; have lm2 : w.heap.size + 1 < w2.heap.size := (M1.out.below hb2).lt; have s0_2 := (S1.out.below hb2).cell (k := 0) rfl; have s1_2 := (S1.out.below hb2).cell (k := 1) rfl; have s2_2 := (S1.out.below hb2).cell (k := 2) rfl; have m0_2 := (M1.out.below hb2).cell (k := 0) rfl; have m1_2 := (M1.out.below hb2).cell (k := 1) rfl; clear hb2)
          | (go_at_call 11; (with_reducible refine (CF _ ?_).mono ?_); (focus exact HK.out.below B2.out); rintro e w3 ⟨rfl, hb3⟩; have S3 := Lib.hid (S2.out.below hb3); have M3 := Lib.hid (M2.out.below hb3); have A3 := Lib.hid (A2.out.below hb3); have B3 := Lib.hid (b_cl B2.out (Nat.le_refl _) hb3); have lm3 : w.heap.size + 1 < w3.heap.size := M3.out.lt; have ls3 : w.heap.size < w3.heap.size := S3.out.lt; have s0_3 := S3.out.cell (k := 0) rfl; have s1_3 := S3.out.cell (k := 1) rfl; have s2_3 := S3.out.cell (k := 2) rfl; have m0_3 := M3.out.cell (k := 0) rfl; have m1_3 := M3.out.cell (k := 1) rfl; have a0_3 := A3.out.cell (k := 0) rfl; have a1_3 := A3.out.cell (k := 1) rfl; have a2_3 := A3.out.cell (k := 2) rfl; have la3 : w2.heap.size < w3.heap.size := A3.out.lt; clear hb3)
          | (go_at_call 11; (with_reducible refine (CN _ ?_).mono ?_); (focus exact HK.out.below B3.out); rintro e w4 ⟨rfl, hb4⟩; have S4 := Lib.hid (S3.out.below hb4); have M4 := Lib.hid (M3.out.below hb4); have A4 := Lib.hid (A3.out.below hb4); have B4 := Lib.hid (b_cl B3.out (Nat.le_refl _) hb4); have lm4 : w.heap.size + 1 < w4.heap.size := M4.out.lt; have ls4 : w.heap.size < w4.heap.size := S4.out.lt; have s0_4 := S4.out.cell (k := 0) rfl; have s1_4 := S4.out.cell (k := 1) rfl; have s2_4 := S4.out.cell (k := 2) rfl; have m0_4 := M4.out.cell (k := 0) rfl; have m1_4 := M4.out.cell (k := 1) rfl; have a0_4 := A4.out.cell (k := 0) rfl; have a1_4 := A4.out.cell (k := 1) rfl; have a2_4 := A4.out.cell (k := 2) rfl; have la4 : w2.heap.size < w4.heap.size := A4.out.lt; clear hb4)
          | (go_at_call 14; refine (CG _ (HK.out.below B4.out)).mono ?_; rintro e w5 ⟨rfl, hb5⟩; have S5 := Lib.hid (S4.out.below hb5); have M5 := Lib.hid (M4.out.below hb5); have A5 := Lib.hid (A4.out.below hb5); have B5 := Lib.hid (b_cl B4.out (Nat.le_refl _) hb5); have lm5 : w.heap.size + 1 < w5.heap.size := M5.out.lt; have ls5 : w.heap.size < w5.heap.size := S5.out.lt; have s0_5 := S5.out.cell (k := 0) rfl; have s1_5 := S5.out.cell (k := 1) rfl; have s2_5 := S5.out.cell (k := 2) rfl; have m0_5 := M5.out.cell (k := 0) rfl; have m1_5 := M5.out.cell (k := 1) rfl; have a0_5 := A5.out.cell (k := 0) rfl; have a1_5 := A5.out.cell (k := 1) rfl; have a2_5 := A5.out.cell (k := 2) rfl; have la5 : w2.heap.size < w5.heap.size := A5.out.lt; clear hb5)
          | (go_at_call 15; refine (CD _ (HK.out.below B5.out)).mono ?_; rintro e w6 ⟨rfl, hb6⟩; have S6 := Lib.hid (S5.out.below hb6); have M6 := Lib.hid (M5.out.below hb6); have A6 := Lib.hid (A5.out.below hb6); have B6 := Lib.hid (b_cl B5.out (Nat.le_refl _) hb6); have lm6 : w.heap.size + 1 < w6.heap.size := M6.out.lt; have ls6 : w.heap.size < w6.heap.size := S6.out.lt; have s0_6 := S6.out.cell (k := 0) rfl; have s1_6 := S6.out.cell (k := 1) rfl; have s2_6 := S6.out.cell (k := 2) rfl; have m0_6 := M6.out.cell (k := 0) rfl; have m1_6 := M6.out.cell (k := 1) rfl; have a0_6 := A6.out.cell (k := 0) rfl; have a1_6 := A6.out.cell (k := 1) rfl; have a2_6 := A6.out.cell (k := 2) rfl; have la6 : w2.heap.size < w6.heap.size := A6.out.lt; clear hb6)
          | (go_at_call 8; refine (alive19_any _).mono ?_; rintro e wz ⟨rfl, hbz⟩))
        go_ret
        exact ⟨rfl, b_cl B6.out (Nat.le_refl _) hbz⟩
    rw [decide_eq_false (show ¬ (j2 = 3 ∧ ¬ CanD l0 (i1, x1, y1)) from fun c => hk3 c.1)] at an
    by_cases hk2 : j2 = 2
    case pos =>
      subst hk2
      by_cases cw : CanW l0 (i1, x1, y1)
      case pos =>
        rw [decide_eq_false (fun c => c.2 cw)] at an
        rw [if_neg (fun c => hk3 c.1), if_pos ⟨rfl, cw⟩] at SL
        simp only [Prod.mk.injEq] at SL
        obtain ⟨e1, e2⟩ := SL
        subst e1 e2
        have an2 : bits .and .i64 sv 3072 = 0 := an
        clear cw an STL hk3 hsv fc szn NF sz ck ft ok se hd LD FD LT hL hL2 hP hb0 hb1 mb0 mb1 lk r0 few hn0 hx1 hy1 hm2 q0 z0
        have S0 := Lib.hid (show Bx ((w.alloc (.cells #[.int .i64 i1, .int .i64 x1, .int .i64 y1] 24)).alloc (.cells #[.int .i64 m2, .int .i64 2] 38)) w.heap.size 24 #[.int .i64 i1, .int .i64 x1, .int .i64 y1] from (Bx.new (W := w) _ _ rfl).alloc _)
        have M0 := Lib.hid (show Bx ((w.alloc (.cells #[.int .i64 i1, .int .i64 x1, .int .i64 y1] 24)).alloc (.cells #[.int .i64 m2, .int .i64 2] 38)) (w.heap.size + 1) 38 #[.int .i64 m2, .int .i64 2] from Bx.new (W := w.alloc (.cells #[.int .i64 i1, .int .i64 x1, .int .i64 y1] 24)) _ _ (by simp))
        have B0 := Lib.hid (show Below w.heap.size w ((w.alloc (.cells #[.int .i64 i1, .int .i64 x1, .int .i64 y1] 24)).alloc (.cells #[.int .i64 m2, .int .i64 2] 38)) by (repeat (first | exact Below.refl _ _ | (refine b_st ?_ (by first | (simp; done) | (simp; omega))) | (refine b_al ?_ (Nat.le_refl _) _) | refine b_dn ?_ | refine b_dr ?_ | (refine b_cl ?_ (Nat.le_refl _) (by assumption)))))
        go_enter Try.func6, Try.ntmps6
        go_wp2_with (first
          | go_skip
          | (go_at_call 7; refine (CL _ (HK.out.below B0.out)).mono ?_; rintro e w1 ⟨rfl, hb1⟩; have S1 := Lib.hid (S0.out.below hb1); have M1 := Lib.hid (M0.out.below hb1); have B1 := Lib.hid (b_cl B0.out (Nat.le_refl _) hb1); have lm1 : w.heap.size + 1 < w1.heap.size := M1.out.lt; have ls1 : w.heap.size < w1.heap.size := S1.out.lt; have s0_1 := S1.out.cell (k := 0) rfl; have s1_1 := S1.out.cell (k := 1) rfl; have s2_1 := S1.out.cell (k := 2) rfl; have m0_1 := M1.out.cell (k := 0) rfl; have m1_1 := M1.out.cell (k := 1) rfl; clear hb1)
          | (go_at_call 18; refine (CS _ (HK.out.below B1.out)).mono ?_; rintro e w2 ⟨rfl, hb2⟩; have S2 := Lib.hid ((S1.out.below hb2).alloc (.cells #[.int .i64 p0, .int .i64 p1, .int .i64 p2] 24)); have M2 := Lib.hid ((M1.out.below hb2).alloc (.cells #[.int .i64 p0, .int .i64 p1, .int .i64 p2] 24)); have B2 := Lib.hid (b_al (b_cl B1.out (Nat.le_refl _) hb2) (Nat.le_refl _) (.cells #[.int .i64 p0, .int .i64 p1, .int .i64 p2] 24)); have A2 := Lib.hid (Bx.new (W := w2) 24 #[.int .i64 p0, .int .i64 p1, .int .i64 p2] rfl); have ls2 : w.heap.size < w2.heap.size := (S1.out.below hb2).lt; have lm2 : w.heap.size + 1 < w2.heap.size := (M1.out.below hb2).lt; have s0_2 := (S1.out.below hb2).cell (k := 0) rfl; have s1_2 := (S1.out.below hb2).cell (k := 1) rfl; have s2_2 := (S1.out.below hb2).cell (k := 2) rfl; have m0_2 := (M1.out.below hb2).cell (k := 0) rfl; have m1_2 := (M1.out.below hb2).cell (k := 1) rfl; clear hb2)
          | (go_at_call 11; (with_reducible refine (CF _ ?_).mono ?_); (focus exact HK.out.below B2.out); rintro e w3 ⟨rfl, hb3⟩; have S3 := Lib.hid (S2.out.below hb3); have M3 := Lib.hid (M2.out.below hb3); have A3 := Lib.hid (A2.out.below hb3); have B3 := Lib.hid (b_cl B2.out (Nat.le_refl _) hb3); have lm3 : w.heap.size + 1 < w3.heap.size := M3.out.lt; have ls3 : w.heap.size < w3.heap.size := S3.out.lt; have s0_3 := S3.out.cell (k := 0) rfl; have s1_3 := S3.out.cell (k := 1) rfl; have s2_3 := S3.out.cell (k := 2) rfl; have m0_3 := M3.out.cell (k := 0) rfl; have m1_3 := M3.out.cell (k := 1) rfl; have a0_3 := A3.out.cell (k := 0) rfl; have a1_3 := A3.out.cell (k := 1) rfl; have a2_3 := A3.out.cell (k := 2) rfl; have la3 : w2.heap.size < w3.heap.size := A3.out.lt; clear hb3)
          | (go_at_call 11; (with_reducible refine (CN _ ?_).mono ?_); (focus exact HK.out.below B3.out); rintro e w4 ⟨rfl, hb4⟩; have S4 := Lib.hid (S3.out.below hb4); have M4 := Lib.hid (M3.out.below hb4); have A4 := Lib.hid (A3.out.below hb4); have B4 := Lib.hid (b_cl B3.out (Nat.le_refl _) hb4); have lm4 : w.heap.size + 1 < w4.heap.size := M4.out.lt; have ls4 : w.heap.size < w4.heap.size := S4.out.lt; have s0_4 := S4.out.cell (k := 0) rfl; have s1_4 := S4.out.cell (k := 1) rfl; have s2_4 := S4.out.cell (k := 2) rfl; have m0_4 := M4.out.cell (k := 0) rfl; have m1_4 := M4.out.cell (k := 1) rfl; have a0_4 := A4.out.cell (k := 0) rfl; have a1_4 := A4.out.cell (k := 1) rfl; have a2_4 := A4.out.cell (k := 2) rfl; have la4 : w2.heap.size < w4.heap.size := A4.out.lt; clear hb4)
          | (go_at_call 14; refine (CG _ (HK.out.below B4.out)).mono ?_; rintro e w5 ⟨rfl, hb5⟩; have S5 := Lib.hid (S4.out.below hb5); have M5 := Lib.hid (M4.out.below hb5); have A5 := Lib.hid (A4.out.below hb5); have B5 := Lib.hid (b_cl B4.out (Nat.le_refl _) hb5); have lm5 : w.heap.size + 1 < w5.heap.size := M5.out.lt; have ls5 : w.heap.size < w5.heap.size := S5.out.lt; have s0_5 := S5.out.cell (k := 0) rfl; have s1_5 := S5.out.cell (k := 1) rfl; have s2_5 := S5.out.cell (k := 2) rfl; have m0_5 := M5.out.cell (k := 0) rfl; have m1_5 := M5.out.cell (k := 1) rfl; have a0_5 := A5.out.cell (k := 0) rfl; have a1_5 := A5.out.cell (k := 1) rfl; have a2_5 := A5.out.cell (k := 2) rfl; have la5 : w2.heap.size < w5.heap.size := A5.out.lt; clear hb5)
          | (go_at_call 15; refine (CD _ (HK.out.below B5.out)).mono ?_; rintro e w6 ⟨rfl, hb6⟩; have S6 := Lib.hid (S5.out.below hb6); have M6 := Lib.hid (M5.out.below hb6); have A6 := Lib.hid (A5.out.below hb6); have B6 := Lib.hid (b_cl B5.out (Nat.le_refl _) hb6); have lm6 : w.heap.size + 1 < w6.heap.size := M6.out.lt; have ls6 : w.heap.size < w6.heap.size := S6.out.lt; have s0_6 := S6.out.cell (k := 0) rfl; have s1_6 := S6.out.cell (k := 1) rfl; have s2_6 := S6.out.cell (k := 2) rfl; have m0_6 := M6.out.cell (k := 0) rfl; have m1_6 := M6.out.cell (k := 1) rfl; have a0_6 := A6.out.cell (k := 0) rfl; have a1_6 := A6.out.cell (k := 1) rfl; have a2_6 := A6.out.cell (k := 2) rfl; have la6 : w2.heap.size < w6.heap.size := A6.out.lt; clear hb6)
          | (go_at_call 8; refine (alive19_any _).mono ?_; rintro e wz ⟨rfl, hbz⟩))
        go_ret
        exact ⟨rfl, b_cl B6.out (Nat.le_refl _) hbz⟩
      case neg =>
        rw [decide_eq_true (show (2 : Int) = 2 ∧ ¬ CanW l0 (i1, x1, y1) from ⟨rfl, cw⟩)] at an
        rw [if_neg (fun c => hk3 c.1), if_neg (fun c => cw c.2)] at SL
        simp only [Prod.mk.injEq] at SL
        obtain ⟨e1, e2⟩ := SL
        subst e1 e2
        have an2 : bits .and .i64 sv 3072 = 2048 := an
        clear cw an STL hk3 hsv fc szn NF sz ck ft ok se hd LD FD LT hL hL2 hP hb0 hb1 mb0 mb1 lk r0 few hn0 hx1 hy1 hm2 q0 z0
        have S0 := Lib.hid (show Bx ((w.alloc (.cells #[.int .i64 i1, .int .i64 x1, .int .i64 y1] 24)).alloc (.cells #[.int .i64 m2, .int .i64 2] 38)) w.heap.size 24 #[.int .i64 i1, .int .i64 x1, .int .i64 y1] from (Bx.new (W := w) _ _ rfl).alloc _)
        have M0 := Lib.hid (show Bx ((w.alloc (.cells #[.int .i64 i1, .int .i64 x1, .int .i64 y1] 24)).alloc (.cells #[.int .i64 m2, .int .i64 2] 38)) (w.heap.size + 1) 38 #[.int .i64 m2, .int .i64 2] from Bx.new (W := w.alloc (.cells #[.int .i64 i1, .int .i64 x1, .int .i64 y1] 24)) _ _ (by simp))
        have B0 := Lib.hid (show Below w.heap.size w ((w.alloc (.cells #[.int .i64 i1, .int .i64 x1, .int .i64 y1] 24)).alloc (.cells #[.int .i64 m2, .int .i64 2] 38)) by (repeat (first | exact Below.refl _ _ | (refine b_st ?_ (by first | (simp; done) | (simp; omega))) | (refine b_al ?_ (Nat.le_refl _) _) | refine b_dn ?_ | refine b_dr ?_ | (refine b_cl ?_ (Nat.le_refl _) (by assumption)))))
        go_enter Try.func6, Try.ntmps6
        go_wp2_with (first
          | go_skip
          | (go_at_call 7; refine (CL _ (HK.out.below B0.out)).mono ?_; rintro e w1 ⟨rfl, hb1⟩; have S1 := Lib.hid (S0.out.below hb1); have M1 := Lib.hid (M0.out.below hb1); have B1 := Lib.hid (b_cl B0.out (Nat.le_refl _) hb1); have lm1 : w.heap.size + 1 < w1.heap.size := M1.out.lt; have ls1 : w.heap.size < w1.heap.size := S1.out.lt; have s0_1 := S1.out.cell (k := 0) rfl; have s1_1 := S1.out.cell (k := 1) rfl; have s2_1 := S1.out.cell (k := 2) rfl; have m0_1 := M1.out.cell (k := 0) rfl; have m1_1 := M1.out.cell (k := 1) rfl; clear hb1)
          | (go_at_call 18; refine (CS _ (HK.out.below B1.out)).mono ?_; rintro e w2 ⟨rfl, hb2⟩; have S2 := Lib.hid ((S1.out.below hb2).alloc (.cells #[.int .i64 p0, .int .i64 p1, .int .i64 p2] 24)); have M2 := Lib.hid ((M1.out.below hb2).alloc (.cells #[.int .i64 p0, .int .i64 p1, .int .i64 p2] 24)); have B2 := Lib.hid (b_al (b_cl B1.out (Nat.le_refl _) hb2) (Nat.le_refl _) (.cells #[.int .i64 p0, .int .i64 p1, .int .i64 p2] 24)); have A2 := Lib.hid (Bx.new (W := w2) 24 #[.int .i64 p0, .int .i64 p1, .int .i64 p2] rfl); have ls2 : w.heap.size < w2.heap.size := (S1.out.below hb2).lt; have lm2 : w.heap.size + 1 < w2.heap.size := (M1.out.below hb2).lt; have s0_2 := (S1.out.below hb2).cell (k := 0) rfl; have s1_2 := (S1.out.below hb2).cell (k := 1) rfl; have s2_2 := (S1.out.below hb2).cell (k := 2) rfl; have m0_2 := (M1.out.below hb2).cell (k := 0) rfl; have m1_2 := (M1.out.below hb2).cell (k := 1) rfl; clear hb2)
          | (go_at_call 11; (with_reducible refine (CF _ ?_).mono ?_); (focus exact HK.out.below B2.out); rintro e w3 ⟨rfl, hb3⟩; have S3 := Lib.hid (S2.out.below hb3); have M3 := Lib.hid (M2.out.below hb3); have A3 := Lib.hid (A2.out.below hb3); have B3 := Lib.hid (b_cl B2.out (Nat.le_refl _) hb3); have lm3 : w.heap.size + 1 < w3.heap.size := M3.out.lt; have ls3 : w.heap.size < w3.heap.size := S3.out.lt; have s0_3 := S3.out.cell (k := 0) rfl; have s1_3 := S3.out.cell (k := 1) rfl; have s2_3 := S3.out.cell (k := 2) rfl; have m0_3 := M3.out.cell (k := 0) rfl; have m1_3 := M3.out.cell (k := 1) rfl; have a0_3 := A3.out.cell (k := 0) rfl; have a1_3 := A3.out.cell (k := 1) rfl; have a2_3 := A3.out.cell (k := 2) rfl; have la3 : w2.heap.size < w3.heap.size := A3.out.lt; clear hb3)
          | (go_at_call 11; (with_reducible refine (CN _ ?_).mono ?_); (focus exact HK.out.below B3.out); rintro e w4 ⟨rfl, hb4⟩; have S4 := Lib.hid (S3.out.below hb4); have M4 := Lib.hid (M3.out.below hb4); have A4 := Lib.hid (A3.out.below hb4); have B4 := Lib.hid (b_cl B3.out (Nat.le_refl _) hb4); have lm4 : w.heap.size + 1 < w4.heap.size := M4.out.lt; have ls4 : w.heap.size < w4.heap.size := S4.out.lt; have s0_4 := S4.out.cell (k := 0) rfl; have s1_4 := S4.out.cell (k := 1) rfl; have s2_4 := S4.out.cell (k := 2) rfl; have m0_4 := M4.out.cell (k := 0) rfl; have m1_4 := M4.out.cell (k := 1) rfl; have a0_4 := A4.out.cell (k := 0) rfl; have a1_4 := A4.out.cell (k := 1) rfl; have a2_4 := A4.out.cell (k := 2) rfl; have la4 : w2.heap.size < w4.heap.size := A4.out.lt; clear hb4)
          | (go_at_call 14; refine (CG _ (HK.out.below B4.out)).mono ?_; rintro e w5 ⟨rfl, hb5⟩; have S5 := Lib.hid (S4.out.below hb5); have M5 := Lib.hid (M4.out.below hb5); have A5 := Lib.hid (A4.out.below hb5); have B5 := Lib.hid (b_cl B4.out (Nat.le_refl _) hb5); have lm5 : w.heap.size + 1 < w5.heap.size := M5.out.lt; have ls5 : w.heap.size < w5.heap.size := S5.out.lt; have s0_5 := S5.out.cell (k := 0) rfl; have s1_5 := S5.out.cell (k := 1) rfl; have s2_5 := S5.out.cell (k := 2) rfl; have m0_5 := M5.out.cell (k := 0) rfl; have m1_5 := M5.out.cell (k := 1) rfl; have a0_5 := A5.out.cell (k := 0) rfl; have a1_5 := A5.out.cell (k := 1) rfl; have a2_5 := A5.out.cell (k := 2) rfl; have la5 : w2.heap.size < w5.heap.size := A5.out.lt; clear hb5)
          | (go_at_call 15; refine (CD _ (HK.out.below B5.out)).mono ?_; rintro e w6 ⟨rfl, hb6⟩; have S6 := Lib.hid (S5.out.below hb6); have M6 := Lib.hid (M5.out.below hb6); have A6 := Lib.hid (A5.out.below hb6); have B6 := Lib.hid (b_cl B5.out (Nat.le_refl _) hb6); have lm6 : w.heap.size + 1 < w6.heap.size := M6.out.lt; have ls6 : w.heap.size < w6.heap.size := S6.out.lt; have s0_6 := S6.out.cell (k := 0) rfl; have s1_6 := S6.out.cell (k := 1) rfl; have s2_6 := S6.out.cell (k := 2) rfl; have m0_6 := M6.out.cell (k := 0) rfl; have m1_6 := M6.out.cell (k := 1) rfl; have a0_6 := A6.out.cell (k := 0) rfl; have a1_6 := A6.out.cell (k := 1) rfl; have a2_6 := A6.out.cell (k := 2) rfl; have la6 : w2.heap.size < w6.heap.size := A6.out.lt; clear hb6)
          | (go_at_call 8; refine (alive19_any _).mono ?_; rintro e wz ⟨rfl, hbz⟩))
        go_ret
        exact ⟨rfl, b_cl B6.out (Nat.le_refl _) hbz⟩
    rw [decide_eq_false (show ¬ (j2 = 2 ∧ ¬ CanW l0 (i1, x1, y1)) from fun c => hk2 c.1)] at an
    have an2 : bits .and .i64 sv 3072 = 0 := an
    have st := (STL (fun c => hk3 c.1) (fun c => hk2 c.1)).symm
    simp only [Prod.mk.injEq] at st
    obtain ⟨e1, e2, e3⟩ := st
    subst e1 e2 e3
    have kk3 : (j2 == 3) = false := by simp [hk3]
    have kk2 : (j2 == 2) = false := by simp [hk2]
    clear an STL SL hk3 hk2 hsv fc szn NF sz ck ft ok se hd LD FD LT hL hL2 hP hb0 hb1 mb0 mb1 lk r0 few hn0 hx1 hy1 hm2 q0 z0
    have S0 := Lib.hid (show Bx ((w.alloc (.cells #[.int .i64 i1, .int .i64 x1, .int .i64 y1] 24)).alloc (.cells #[.int .i64 m2, .int .i64 j2] 38)) w.heap.size 24 #[.int .i64 i1, .int .i64 x1, .int .i64 y1] from (Bx.new (W := w) _ _ rfl).alloc _)
    have M0 := Lib.hid (show Bx ((w.alloc (.cells #[.int .i64 i1, .int .i64 x1, .int .i64 y1] 24)).alloc (.cells #[.int .i64 m2, .int .i64 j2] 38)) (w.heap.size + 1) 38 #[.int .i64 m2, .int .i64 j2] from Bx.new (W := w.alloc (.cells #[.int .i64 i1, .int .i64 x1, .int .i64 y1] 24)) _ _ (by simp))
    have B0 := Lib.hid (show Below w.heap.size w ((w.alloc (.cells #[.int .i64 i1, .int .i64 x1, .int .i64 y1] 24)).alloc (.cells #[.int .i64 m2, .int .i64 j2] 38)) by (repeat (first | exact Below.refl _ _ | (refine b_st ?_ (by first | (simp; done) | (simp; omega))) | (refine b_al ?_ (Nat.le_refl _) _) | refine b_dn ?_ | refine b_dr ?_ | (refine b_cl ?_ (Nat.le_refl _) (by assumption)))))
    go_enter Try.func6, Try.ntmps6
    go_wp2_with (first
      | go_skip
      | (go_at_call 7; refine (CL _ (HK.out.below B0.out)).mono ?_; rintro e w1 ⟨rfl, hb1⟩; have S1 := Lib.hid (S0.out.below hb1); have M1 := Lib.hid (M0.out.below hb1); have B1 := Lib.hid (b_cl B0.out (Nat.le_refl _) hb1); have lm1 : w.heap.size + 1 < w1.heap.size := M1.out.lt; have ls1 : w.heap.size < w1.heap.size := S1.out.lt; have s0_1 := S1.out.cell (k := 0) rfl; have s1_1 := S1.out.cell (k := 1) rfl; have s2_1 := S1.out.cell (k := 2) rfl; have m0_1 := M1.out.cell (k := 0) rfl; have m1_1 := M1.out.cell (k := 1) rfl; clear hb1)
      | (go_at_call 18; refine (CS _ (HK.out.below B1.out)).mono ?_; rintro e w2 ⟨rfl, hb2⟩; have S2 := Lib.hid ((S1.out.below hb2).alloc (.cells #[.int .i64 i1, .int .i64 x1, .int .i64 y1] 24)); have M2 := Lib.hid ((M1.out.below hb2).alloc (.cells #[.int .i64 i1, .int .i64 x1, .int .i64 y1] 24)); have B2 := Lib.hid (b_al (b_cl B1.out (Nat.le_refl _) hb2) (Nat.le_refl _) (.cells #[.int .i64 i1, .int .i64 x1, .int .i64 y1] 24)); have A2 := Lib.hid (Bx.new (W := w2) 24 #[.int .i64 i1, .int .i64 x1, .int .i64 y1] rfl); have ls2 : w.heap.size < w2.heap.size := (S1.out.below hb2).lt; have lm2 : w.heap.size + 1 < w2.heap.size := (M1.out.below hb2).lt; have s0_2 := (S1.out.below hb2).cell (k := 0) rfl; have s1_2 := (S1.out.below hb2).cell (k := 1) rfl; have s2_2 := (S1.out.below hb2).cell (k := 2) rfl; have m0_2 := (M1.out.below hb2).cell (k := 0) rfl; have m1_2 := (M1.out.below hb2).cell (k := 1) rfl; clear hb2)
      | (go_at_call 11; (with_reducible refine (CF _ ?_).mono ?_); (focus exact HK.out.below B2.out); rintro e w3 ⟨rfl, hb3⟩; have S3 := Lib.hid (S2.out.below hb3); have M3 := Lib.hid (M2.out.below hb3); have A3 := Lib.hid (A2.out.below hb3); have B3 := Lib.hid (b_cl B2.out (Nat.le_refl _) hb3); have lm3 : w.heap.size + 1 < w3.heap.size := M3.out.lt; have ls3 : w.heap.size < w3.heap.size := S3.out.lt; have s0_3 := S3.out.cell (k := 0) rfl; have s1_3 := S3.out.cell (k := 1) rfl; have s2_3 := S3.out.cell (k := 2) rfl; have m0_3 := M3.out.cell (k := 0) rfl; have m1_3 := M3.out.cell (k := 1) rfl; have a0_3 := A3.out.cell (k := 0) rfl; have a1_3 := A3.out.cell (k := 1) rfl; have a2_3 := A3.out.cell (k := 2) rfl; have la3 : w2.heap.size < w3.heap.size := A3.out.lt; clear hb3)
      | (go_at_call 11; (with_reducible refine (CN _ ?_).mono ?_); (focus exact HK.out.below B3.out); rintro e w4 ⟨rfl, hb4⟩; have S4 := Lib.hid (S3.out.below hb4); have M4 := Lib.hid (M3.out.below hb4); have A4 := Lib.hid (A3.out.below hb4); have B4 := Lib.hid (b_cl B3.out (Nat.le_refl _) hb4); have lm4 : w.heap.size + 1 < w4.heap.size := M4.out.lt; have ls4 : w.heap.size < w4.heap.size := S4.out.lt; have s0_4 := S4.out.cell (k := 0) rfl; have s1_4 := S4.out.cell (k := 1) rfl; have s2_4 := S4.out.cell (k := 2) rfl; have m0_4 := M4.out.cell (k := 0) rfl; have m1_4 := M4.out.cell (k := 1) rfl; have a0_4 := A4.out.cell (k := 0) rfl; have a1_4 := A4.out.cell (k := 1) rfl; have a2_4 := A4.out.cell (k := 2) rfl; have la4 : w2.heap.size < w4.heap.size := A4.out.lt; clear hb4)
      | (go_at_call 14; refine (CG _ (HK.out.below B4.out)).mono ?_; rintro e w5 ⟨rfl, hb5⟩; have S5 := Lib.hid (S4.out.below hb5); have M5 := Lib.hid (M4.out.below hb5); have A5 := Lib.hid (A4.out.below hb5); have B5 := Lib.hid (b_cl B4.out (Nat.le_refl _) hb5); have lm5 : w.heap.size + 1 < w5.heap.size := M5.out.lt; have ls5 : w.heap.size < w5.heap.size := S5.out.lt; have s0_5 := S5.out.cell (k := 0) rfl; have s1_5 := S5.out.cell (k := 1) rfl; have s2_5 := S5.out.cell (k := 2) rfl; have m0_5 := M5.out.cell (k := 0) rfl; have m1_5 := M5.out.cell (k := 1) rfl; have a0_5 := A5.out.cell (k := 0) rfl; have a1_5 := A5.out.cell (k := 1) rfl; have a2_5 := A5.out.cell (k := 2) rfl; have la5 : w2.heap.size < w5.heap.size := A5.out.lt; clear hb5)
      | (go_at_call 15; refine (CD _ (HK.out.below B5.out)).mono ?_; rintro e w6 ⟨rfl, hb6⟩; have S6 := Lib.hid (S5.out.below hb6); have M6 := Lib.hid (M5.out.below hb6); have A6 := Lib.hid (A5.out.below hb6); have B6 := Lib.hid (b_cl B5.out (Nat.le_refl _) hb6); have lm6 : w.heap.size + 1 < w6.heap.size := M6.out.lt; have ls6 : w.heap.size < w6.heap.size := S6.out.lt; have s0_6 := S6.out.cell (k := 0) rfl; have s1_6 := S6.out.cell (k := 1) rfl; have s2_6 := S6.out.cell (k := 2) rfl; have m0_6 := M6.out.cell (k := 0) rfl; have m1_6 := M6.out.cell (k := 1) rfl; have a0_6 := A6.out.cell (k := 0) rfl; have a1_6 := A6.out.cell (k := 1) rfl; have a2_6 := A6.out.cell (k := 2) rfl; have la6 : w2.heap.size < w6.heap.size := A6.out.lt; clear hb6)
      | (go_at_call 8; refine (alive19_any _).mono ?_; rintro e wz ⟨rfl, hbz⟩))
    go_ret
    exact ⟨rfl, b_cl B6.out (Nat.le_refl _) hbz⟩

set_option maxRecDepth 100000 in
theorem lifted (os : Os) (started : os.Started) (H : Type) (enc : TypeId × Value → H) :
    ReturnsInHanded {} Try.checked os 6 .any (Rows.errandLeftSpec.pre6 enc Try.prog Try.f6 Rows.errandLeftRow.domain false) (Rows.errandLeftSpec.post enc Try.prog Try.f6 false true false false) := by
  refine returnsInHanded_of_change (C := Try.checked) own started (by kernel_rfl) Try.func6
    (ChangeSpec.witness6 (enc := enc) (C := Try.checked) false ⟨#[], #[.slice none 0 0, .agg #[.int .i64 0, .int .i64 0, .int .i64 0], .agg #[.int .i64 0, .int .i64 0]], []⟩ 8 (by kernel_rfl) (by kernel_rfl) (by kernel_rfl) (by kernel_rfl)) ?_
  intro W base args ds gs before hval0 hW hcnd _
  have hval : ∀ (j : Nat) t v, Try.f6.params[j]? = some t → args[j]? = some v → Value.okWide Try.prog W .any base t v := hval0
  have hW' := hW
  obtain ⟨p, q, hA0, hV, rfl, hfz, hnd⟩ := hW
  have hA : DataW.TrodAll enc Try.prog W 0 (fun _ => true) true Try.f6.params.toList args.toList ds p := hA0
  rw [Try.params6] at hA hval
  obtain ⟨v0, vs0, d0, ds0, p0, q0, hargs, rfl, rfl, h0, r0⟩ := trodAll_cons hA
  obtain ⟨v1, vs1, d1, ds1, p1, q1, rfl, rfl, rfl, h1, r1⟩ := trodAll_cons r0
  obtain ⟨v2, vs2, d2, ds2, p2, q2, rfl, rfl, rfl, h2, r2⟩ := trodAll_cons r1
  obtain ⟨rfl, rfl, rfl⟩ := trodAll_nil r2
  obtain rfl : args = #[v0, v1, v2] := by cases args; simp_all
  obtain ⟨rfl, rfl⟩ := trodVars_none hV
  have k0 := h0
  have lt0 : ∀ x ∈ p0, x.block < W.heap.size := by obtain ⟨m, hm⟩ := k0; exact DataW.trod_lt m _ _ _ hm
  obtain ⟨A0, n0, c0, l0, rfl, hn0, rd0, q0, z0⟩ := open_tasks (hval 0 22 v0 rfl rfl) h0
  have k1 := h1
  have lt1 : ∀ x ∈ p1, x.block < W.heap.size := by obtain ⟨m, hm⟩ := k1; exact DataW.trod_lt m _ _ _ hm
  obtain ⟨i1, x1, y1, rfl, _, _, wa1, wb1, wc1⟩ := open_spot (hval 1 24 v1 rfl rfl) h1
  have k2 := h2
  have lt2 : ∀ x ∈ p2, x.block < W.heap.size := by obtain ⟨m, hm⟩ := k2; exact DataW.trod_lt m _ _ _ hm
  obtain ⟨m2, j2, rfl, _, _, wa2, wb2⟩ := open_minute (hval 2 38 v2 rfl rfl) h2
  clear hA0 hval0
  refine (walk W A0 n0 c0 l0 hn0 rd0 q0 z0 i1 x1 y1 (wf_i64 wb1) (wf_i64 wc1) m2 j2 (wf_i64 wa2)).mono fun e W' ⟨he, bel⟩ => ?_
  subst he
  exact ⟨_, rfl, _, _, _, [], _, [], hW', trodAll_mk1 (shut_bool Try.underlying4 _), (trodAll_cons_mk (Below.trod laidOut (by kernel_rfl) (of_decide_eq_true (by kernel_rfl)) k0 bel lt0) (trodAll_cons_mk (Below.trod laidOut (by kernel_rfl) (of_decide_eq_true (by kernel_rfl)) k1 bel lt1) (trodAll_cons_mk (Below.trod laidOut (by kernel_rfl) (of_decide_eq_true (by kernel_rfl)) k2 bel lt2) trodAll_mk0))), rfl, bel.frame _, fun h => by cases h⟩

theorem over : Rows.errandLeftRow.holds Try.pinned (OpenSpec.ofChange Rows.errandLeftSpec) :=
  OpenClaim.holds_of_wide 6 Try.f6 rfl rfl rfl rfl rfl rfl rfl ⟨rfl, rfl, rfl, rfl, rfl⟩ rfl rfl rfl rfl rfl (by kernel_rfl) Try.func6 (by kernel_rfl)
    (of_decide_eq_true (by kernel_rfl)) (by unfold Func.isWrapper; first | (rw [if_pos (by decide +kernel)]; kernel_rfl) | (rw [if_neg (by decide +kernel)]; exact ⟨rfl, rfl⟩))
    (fun os started H enc _ => lifted os started H enc)

theorem proved : Rows.ErrandLeftSaid := over
#print axioms proved
end Go.Proofs.Ythgieanhlmnneaa.errandLeft
