/- Check, Start, Right, Done and Left of tasks answer as the document says. Conditions: none (of more than forty tasks, or of a task with more than twenty windows, the law asks the example alone). -/
import Derived.Test.YthgieanhlmnneaaRows
import Derived.Test.YthgieanhlmnneaaBase
import Derived.Test.YthgieanhlmnneaaRow
import Derived.Test.YthgieanhlmnneaaBox
import Derived.Test.YthgieanhlmnneaaBoxRes
import Derived.Test.YthgieanhlmnneaaErrandMath
import Derived.Test.YthgieanhlmnneaaErrandHeap
import Derived.Test.YthgieanhlmnneaaErrandMath2
import Derived.Test.YthgieanhlmnneaaErrandOpen
import Derived.Test.YthgieanhlmnneaaErrandLight
import Derived.Test.YthgieanhlmnneaaErrandAlive
import Derived.Test.YthgieanhlmnneaaErrandPast
import Derived.Test.YthgieanhlmnneaaErrandChk
import Derived.Test.YthgieanhlmnneaaErrandFits
import Derived.Test.YthgieanhlmnneaaErrandSpot
import Derived.Test.YthgieanhlmnneaaErrandLeftC
import Derived.Test.YthgieanhlmnneaaErrandStart
import Derived.WalkKit
import Derived.WalkSmall
import Derived.WalkSpells
import Derived.ProofKit
import Derived.OpenShut
import Derived.ShutString
import Derived.ChangeOld
import Derived.Below
import Derived.Lib.Hide
import Derived.OwnWalk
import Derived.BigQuiet
import Derived.Deep.QuietTactic
import Derived.Deep.DeepCutAuto
namespace Go.Proofs.Ythgieanhlmnneaa.errandChecks
open Go.ChangeShapes Go.WideShapes Go.ChangeAt Go.RowKit
open Go.ChangeMaps (open_string shut_string)
set_option linter.unusedVariables false

theorem own : ownKnob Try.prog.godebug = none := by kernel_rfl
theorem laidOut : laidOutB Try.prog = true := by kernel_rfl

open Classical in
set_option maxRecDepth 20000 in
set_option maxHeartbeats 4000000 in
theorem walk (w : World) (A0 : Option Addr) (n0 c0 : Nat) (l0 : List Tk) (hn0 : l0.length = n0) (r0 : RdK w A0 l0) (q0 : n0 ≤ c0) (z0 : A0 = none → c0 = 0) (i1 x1 y1 : Int) (hx1 : -9223372036854775808 ≤ x1 ∧ x1 ≤ 9223372036854775807) (hy1 : -9223372036854775808 ≤ y1 ∧ y1 ≤ 9223372036854775807) :
    Calls Try.prog 3 #[.slice A0 n0 c0, .agg #[.int .i64 i1, .int .i64 x1, .int .i64 y1]] w fun e w' => e = .returned (.bool true) ∧ Below w.heap.size w w' := by
  have CL := fun W (h : RdK W A0 l0) => light19_any A0 n0 c0 l0 hn0 W h
  have HK := Lib.hid r0
  by_cases lk : LightK l0
  case neg =>
    rw [decide_eq_false lk] at CL
    clear lk r0
    have S0 := Lib.hid (show Bx (w.alloc (.cells #[.int .i64 i1, .int .i64 x1, .int .i64 y1] 24)) w.heap.size 24 #[.int .i64 i1, .int .i64 x1, .int .i64 y1] from Bx.new (W := w) _ _ rfl)
    have B0 := Lib.hid (show Below w.heap.size w (w.alloc (.cells #[.int .i64 i1, .int .i64 x1, .int .i64 y1] 24)) by (repeat (first | exact Below.refl _ _ | (refine b_st ?_ (by first | (simp; done) | (simp; omega))) | (refine b_al ?_ (Nat.le_refl _) _) | refine b_dn ?_ | refine b_dr ?_ | (refine b_cl ?_ (Nat.le_refl _) (by assumption)))))
    go_enter Try.func3, Try.ntmps3
    go_wp2_with (first
      | go_skip
      | (go_at_call 7; refine (CL _ (HK.out.below B0.out)).mono ?_; rintro e w1 ⟨rfl, hb1⟩; have S1 := Lib.hid (S0.out.below hb1); have B1 := Lib.hid (b_cl B0.out (Nat.le_refl _) hb1); have ls1 : w.heap.size < w1.heap.size := S1.out.lt; have s0_1 := S1.out.cell (k := 0) rfl; have s1_1 := S1.out.cell (k := 1) rfl; have s2_1 := S1.out.cell (k := 2) rfl; clear hb1)
      | (go_at_call 8; refine (alive19_any _).mono ?_; rintro e wz ⟨rfl, hbz⟩))
    go_ret
    exact ⟨rfl, b_cl B1.out (Nat.le_refl _) hbz⟩
  rw [decide_eq_true lk] at CL
  have few := lk.few
  have hl : n0 ≤ 40 := by have := lk.1; omega
  have CC := fun W (h : RdK W A0 l0) => refcheck19_any A0 n0 c0 l0 hn0 W h few
  have CK := fun W (h : RdK W A0 l0) => check19_any A0 n0 c0 l0 hn0 W h few
  have CS := fun W (h : RdK W A0 l0) => start19_any A0 n0 c0 l0 hn0 W h few
  have CF := fun W (h : RdK W A0 l0) => leftL19_any A0 n0 c0 l0 hn0 i1 x1 y1 W h few q0 z0 hx1 hy1
  have CG := fun W (h : RdK W A0 l0) => rightE19_any A0 n0 c0 l0 hn0 i1 x1 y1 W h few hx1 hy1
  have CD := fun W (h : RdK W A0 l0) => done19_any A0 n0 c0 l0 hn0 i1 x1 y1 W h few hx1 hy1
  by_cases ck : checkT l0 = 0
  case neg =>
    obtain ⟨e0, he⟩ : ∃ e0, checkT l0 = e0 := ⟨_, rfl⟩
    rw [start_bad ck] at CS
    have hne : ¬ e0 = 0 := by rw [← he]; exact ck
    have hs : spotV l0 (i1, x1, y1) = e0 := spot_bad he hne
    rw [leftv_bad hs hne] at CF
    rw [he] at CC CK CS
    have hd : doneV l0 (i1, x1, y1) = false := by unfold doneV; rw [hs, decide_eq_false hne]; rfl
    rw [hs, decide_eq_false hne] at CG
    rw [hd] at CD
    unfold sp3 at CS
    simp only at CS CF
    have ne1 : (e0 == 0) = false := by simp [hne]
    have ne2 : (e0 != 0) = true := by simp [hne]
    clear hd hs he ck lk r0 few hn0 hx1 hy1 q0 z0 hne
    have S0 := Lib.hid (show Bx (w.alloc (.cells #[.int .i64 i1, .int .i64 x1, .int .i64 y1] 24)) w.heap.size 24 #[.int .i64 i1, .int .i64 x1, .int .i64 y1] from Bx.new (W := w) _ _ rfl)
    have B0 := Lib.hid (show Below w.heap.size w (w.alloc (.cells #[.int .i64 i1, .int .i64 x1, .int .i64 y1] 24)) by (repeat (first | exact Below.refl _ _ | (refine b_st ?_ (by first | (simp; done) | (simp; omega))) | (refine b_al ?_ (Nat.le_refl _) _) | refine b_dn ?_ | refine b_dr ?_ | (refine b_cl ?_ (Nat.le_refl _) (by assumption)))))
    go_enter Try.func3, Try.ntmps3
    go_wp2_with (first
      | go_skip
      | (go_at_call 7; refine (CL _ (HK.out.below B0.out)).mono ?_; rintro e w1 ⟨rfl, hb1⟩; have S1 := Lib.hid (S0.out.below hb1); have B1 := Lib.hid (b_cl B0.out (Nat.le_refl _) hb1); have ls1 : w.heap.size < w1.heap.size := S1.out.lt; have s0_1 := S1.out.cell (k := 0) rfl; have s1_1 := S1.out.cell (k := 1) rfl; have s2_1 := S1.out.cell (k := 2) rfl; clear hb1)
      | (go_at_call 9; refine (CC _ (HK.out.below B1.out)).mono ?_; rintro e w2 ⟨rfl, hb2⟩; have S2 := Lib.hid (S1.out.below hb2); have B2 := Lib.hid (b_cl B1.out (Nat.le_refl _) hb2); have ls2 : w.heap.size < w2.heap.size := S2.out.lt; have s0_2 := S2.out.cell (k := 0) rfl; have s1_2 := S2.out.cell (k := 1) rfl; have s2_2 := S2.out.cell (k := 2) rfl; clear hb2)
      | (go_at_call 10; refine (CS _ (HK.out.below B2.out)).mono ?_; rintro e w3 ⟨rfl, hb3⟩; have S3 := Lib.hid ((S2.out.below hb3).alloc (.cells #[.int .i64 0, .int .i64 0, .int .i64 0] 24)); have B3 := Lib.hid (b_al (b_cl B2.out (Nat.le_refl _) hb3) (Nat.le_refl _) (.cells #[.int .i64 0, .int .i64 0, .int .i64 0] 24)); have A3 := Lib.hid (Bx.new (W := w3) 24 #[.int .i64 0, .int .i64 0, .int .i64 0] rfl); have ls3 : w.heap.size < w3.heap.size := (S2.out.below hb3).lt; have s0_3 := (S2.out.below hb3).cell (k := 0) rfl; have s1_3 := (S2.out.below hb3).cell (k := 1) rfl; have s2_3 := (S2.out.below hb3).cell (k := 2) rfl; clear hb3)
      | (go_at_call 11; refine (CF _ (HK.out.below B3.out)).mono ?_; rintro e w4 ⟨rfl, hb4⟩; have S4 := Lib.hid (S3.out.below hb4); have A4 := Lib.hid (A3.out.below hb4); have B4 := Lib.hid (b_cl B3.out (Nat.le_refl _) hb4); have ls4 : w.heap.size < w4.heap.size := S4.out.lt; have s0_4 := S4.out.cell (k := 0) rfl; have s1_4 := S4.out.cell (k := 1) rfl; have s2_4 := S4.out.cell (k := 2) rfl; have a0_4 := A4.out.cell (k := 0) rfl; have a1_4 := A4.out.cell (k := 1) rfl; have a2_4 := A4.out.cell (k := 2) rfl; have la4 : w3.heap.size < w4.heap.size := A4.out.lt; clear hb4)
      | (go_at_call 13; refine (CK _ (HK.out.below B4.out)).mono ?_; rintro e w5 ⟨rfl, hb5⟩; have S5 := Lib.hid (S4.out.below hb5); have A5 := Lib.hid (A4.out.below hb5); have B5 := Lib.hid (b_cl B4.out (Nat.le_refl _) hb5); have ls5 : w.heap.size < w5.heap.size := S5.out.lt; have s0_5 := S5.out.cell (k := 0) rfl; have s1_5 := S5.out.cell (k := 1) rfl; have s2_5 := S5.out.cell (k := 2) rfl; have a0_5 := A5.out.cell (k := 0) rfl; have a1_5 := A5.out.cell (k := 1) rfl; have a2_5 := A5.out.cell (k := 2) rfl; have la5 : w3.heap.size < w5.heap.size := A5.out.lt; clear hb5)
      | (go_at_call 14; refine (CG _ (HK.out.below B5.out)).mono ?_; rintro e w6 ⟨rfl, hb6⟩; have S6 := Lib.hid (S5.out.below hb6); have A6 := Lib.hid (A5.out.below hb6); have B6 := Lib.hid (b_cl B5.out (Nat.le_refl _) hb6); have ls6 : w.heap.size < w6.heap.size := S6.out.lt; have s0_6 := S6.out.cell (k := 0) rfl; have s1_6 := S6.out.cell (k := 1) rfl; have s2_6 := S6.out.cell (k := 2) rfl; have a0_6 := A6.out.cell (k := 0) rfl; have a1_6 := A6.out.cell (k := 1) rfl; have a2_6 := A6.out.cell (k := 2) rfl; have la6 : w3.heap.size < w6.heap.size := A6.out.lt; clear hb6)
      | (go_at_call 15; refine (CD _ (HK.out.below B6.out)).mono ?_; rintro e w7 ⟨rfl, hb7⟩; have S7 := Lib.hid (S6.out.below hb7); have A7 := Lib.hid (A6.out.below hb7); have B7 := Lib.hid (b_cl B6.out (Nat.le_refl _) hb7); have ls7 : w.heap.size < w7.heap.size := S7.out.lt; have s0_7 := S7.out.cell (k := 0) rfl; have s1_7 := S7.out.cell (k := 1) rfl; have s2_7 := S7.out.cell (k := 2) rfl; have a0_7 := A7.out.cell (k := 0) rfl; have a1_7 := A7.out.cell (k := 1) rfl; have a2_7 := A7.out.cell (k := 2) rfl; have la7 : w3.heap.size < w7.heap.size := A7.out.lt; clear hb7)
      | (go_at_call 8; refine (alive19_any _).mono ?_; rintro e wz ⟨rfl, hbz⟩))
    go_ret
    exact ⟨rfl, b_cl B7.out (Nat.le_refl _) hbz⟩
  have ok := (checkt_zero ck).1
  have CP := fun W (h : RdK W A0 l0) => refpast19_any A0 n0 c0 l0 hn0 0 0 0 W h (by omega) ok (fits_start ok)
  have CT := fun W (h : RdK W A0 l0) => reffits19_any A0 n0 c0 l0 hn0 i1 x1 y1 W h
  rw [start_ok ck] at CS
  obtain ⟨⟨p0, p1, p2⟩, hP⟩ : ∃ P, pastT l0 (0, 0, 0) = P := ⟨_, rfl⟩
  rw [hP] at CS CP
  unfold sp3 at CS CP
  rw [ck] at CC CK CS
  simp only at CS CP
  by_cases ft : Fits l0 (i1, x1, y1)
  case neg =>
    have hs := spot_no ck ft
    rw [leftv_bad hs (by decide)] at CF
    have hd : doneV l0 (i1, x1, y1) = false := by unfold doneV; rw [hs]; rfl
    rw [hs] at CG
    rw [hd] at CD
    rw [decide_eq_false (by decide)] at CG
    rw [decide_eq_false ft] at CT
    simp only at CF
    clear hd hs hP ck ft ok lk r0 few hn0 hx1 hy1 q0 z0
    have S0 := Lib.hid (show Bx (w.alloc (.cells #[.int .i64 i1, .int .i64 x1, .int .i64 y1] 24)) w.heap.size 24 #[.int .i64 i1, .int .i64 x1, .int .i64 y1] from Bx.new (W := w) _ _ rfl)
    have B0 := Lib.hid (show Below w.heap.size w (w.alloc (.cells #[.int .i64 i1, .int .i64 x1, .int .i64 y1] 24)) by (repeat (first | exact Below.refl _ _ | (refine b_st ?_ (by first | (simp; done) | (simp; omega))) | (refine b_al ?_ (Nat.le_refl _) _) | refine b_dn ?_ | refine b_dr ?_ | (refine b_cl ?_ (Nat.le_refl _) (by assumption)))))
    go_enter Try.func3, Try.ntmps3
    go_upto_region 11 with (first
      | go_skip
      | (go_at_call 7; refine (CL _ (HK.out.below B0.out)).mono ?_; rintro e w1 ⟨rfl, hb1⟩; have S1 := Lib.hid (S0.out.below hb1); have B1 := Lib.hid (b_cl B0.out (Nat.le_refl _) hb1); have ls1 : w.heap.size < w1.heap.size := S1.out.lt; have s0_1 := S1.out.cell (k := 0) rfl; have s1_1 := S1.out.cell (k := 1) rfl; have s2_1 := S1.out.cell (k := 2) rfl; clear hb1)
      | (go_at_call 9; refine (CC _ (HK.out.below B1.out)).mono ?_; rintro e w2 ⟨rfl, hb2⟩; have S2 := Lib.hid (S1.out.below hb2); have B2 := Lib.hid (b_cl B1.out (Nat.le_refl _) hb2); have ls2 : w.heap.size < w2.heap.size := S2.out.lt; have s0_2 := S2.out.cell (k := 0) rfl; have s1_2 := S2.out.cell (k := 1) rfl; have s2_2 := S2.out.cell (k := 2) rfl; clear hb2)
      | (go_at_call 10; refine (CS _ (HK.out.below B2.out)).mono ?_; rintro e w3 ⟨rfl, hb3⟩; have S3 := Lib.hid ((S2.out.below hb3).alloc (.cells #[.int .i64 p0, .int .i64 p1, .int .i64 p2] 24)); have B3 := Lib.hid (b_al (b_cl B2.out (Nat.le_refl _) hb3) (Nat.le_refl _) (.cells #[.int .i64 p0, .int .i64 p1, .int .i64 p2] 24)); have A3 := Lib.hid (Bx.new (W := w3) 24 #[.int .i64 p0, .int .i64 p1, .int .i64 p2] rfl); have ls3 : w.heap.size < w3.heap.size := (S2.out.below hb3).lt; have s0_3 := (S2.out.below hb3).cell (k := 0) rfl; have s1_3 := (S2.out.below hb3).cell (k := 1) rfl; have s2_3 := (S2.out.below hb3).cell (k := 2) rfl; clear hb3)
      | (go_at_call 11; refine (CF _ (HK.out.below B3.out)).mono ?_; rintro e w4 ⟨rfl, hb4⟩; have S4 := Lib.hid (S3.out.below hb4); have A4 := Lib.hid (A3.out.below hb4); have B4 := Lib.hid (b_cl B3.out (Nat.le_refl _) hb4); have ls4 : w.heap.size < w4.heap.size := S4.out.lt; have s0_4 := S4.out.cell (k := 0) rfl; have s1_4 := S4.out.cell (k := 1) rfl; have s2_4 := S4.out.cell (k := 2) rfl; have a0_4 := A4.out.cell (k := 0) rfl; have a1_4 := A4.out.cell (k := 1) rfl; have a2_4 := A4.out.cell (k := 2) rfl; have la4 : w3.heap.size < w4.heap.size := A4.out.lt; clear hb4)
      | (go_at_call 12; refine (CT _ (HK.out.below B4.out)).mono ?_; rintro e w5 ⟨rfl, hb5⟩; have S5 := Lib.hid (S4.out.below hb5); have A5 := Lib.hid (A4.out.below hb5); have B5 := Lib.hid (b_cl B4.out (Nat.le_refl _) hb5); have ls5 : w.heap.size < w5.heap.size := S5.out.lt; have s0_5 := S5.out.cell (k := 0) rfl; have s1_5 := S5.out.cell (k := 1) rfl; have s2_5 := S5.out.cell (k := 2) rfl; have a0_5 := A5.out.cell (k := 0) rfl; have a1_5 := A5.out.cell (k := 1) rfl; have a2_5 := A5.out.cell (k := 2) rfl; have la5 : w3.heap.size < w5.heap.size := A5.out.lt; clear hb5)
      | (go_at_call 13; refine (CK _ (HK.out.below B5.out)).mono ?_; rintro e w6 ⟨rfl, hb6⟩; have S6 := Lib.hid (S5.out.below hb6); have A6 := Lib.hid (A5.out.below hb6); have B6 := Lib.hid (b_cl B5.out (Nat.le_refl _) hb6); have ls6 : w.heap.size < w6.heap.size := S6.out.lt; have s0_6 := S6.out.cell (k := 0) rfl; have s1_6 := S6.out.cell (k := 1) rfl; have s2_6 := S6.out.cell (k := 2) rfl; have a0_6 := A6.out.cell (k := 0) rfl; have a1_6 := A6.out.cell (k := 1) rfl; have a2_6 := A6.out.cell (k := 2) rfl; have la6 : w3.heap.size < w6.heap.size := A6.out.lt; clear hb6)
      | (go_at_call 14; refine (CG _ (HK.out.below B6.out)).mono ?_; rintro e w7 ⟨rfl, hb7⟩; have S7 := Lib.hid (S6.out.below hb7); have A7 := Lib.hid (A6.out.below hb7); have B7 := Lib.hid (b_cl B6.out (Nat.le_refl _) hb7); have ls7 : w.heap.size < w7.heap.size := S7.out.lt; have s0_7 := S7.out.cell (k := 0) rfl; have s1_7 := S7.out.cell (k := 1) rfl; have s2_7 := S7.out.cell (k := 2) rfl; have a0_7 := A7.out.cell (k := 0) rfl; have a1_7 := A7.out.cell (k := 1) rfl; have a2_7 := A7.out.cell (k := 2) rfl; have la7 : w3.heap.size < w7.heap.size := A7.out.lt; clear hb7)
      | (go_at_call 15; refine (CD _ (HK.out.below B7.out)).mono ?_; rintro e w8 ⟨rfl, hb8⟩; have S8 := Lib.hid (S7.out.below hb8); have A8 := Lib.hid (A7.out.below hb8); have B8 := Lib.hid (b_cl B7.out (Nat.le_refl _) hb8); have ls8 : w.heap.size < w8.heap.size := S8.out.lt; have s0_8 := S8.out.cell (k := 0) rfl; have s1_8 := S8.out.cell (k := 1) rfl; have s2_8 := S8.out.cell (k := 2) rfl; have a0_8 := A8.out.cell (k := 0) rfl; have a1_8 := A8.out.cell (k := 1) rfl; have a2_8 := A8.out.cell (k := 2) rfl; have la8 : w3.heap.size < w8.heap.size := A8.out.lt; clear hb8))
    have q0 : ∀ p : BelowOf w8, p.world.cell? ⟨w3.heap.size, 0, none⟩ = some (.int .i64 p0) := fun p => p.cell a0_8
    have q1 : ∀ p : BelowOf w8, p.world.cell? ⟨w3.heap.size, 1, none⟩ = some (.int .i64 p1) := fun p => p.cell a1_8
    have q2 : ∀ p : BelowOf w8, p.world.cell? ⟨w3.heap.size, 2, none⟩ = some (.int .i64 p2) := fun p => p.cell a2_8
    have CPp : ∀ P : BelowOf w8, Calls Try.prog 16 #[.slice A0 n0 c0, .agg #[.int .i64 0, .int .i64 0, .int .i64 0]] P.world fun e w' => e = .returned (.agg #[.int .i64 p0, .int .i64 p1, .int .i64 p2]) ∧ Below P.world.heap.size P.world w' := fun P => CP _ (HK.out.below (B8.out.trans (P.ok.mono B8.out.size)))
    refine wp_region_bel (by kernel_rfl) (by kernel_rfl) ?_
    repeat (go_big_quiet_step ((go_at_call 16; (with_reducible exact Calls.bel_of (CPp _)))))
    refine wpQuiet_nil ?_
    refine bel_all fun w9 hb9 => ?_
    clear q0 q1 q2 CPp
    have S9 := Lib.hid (S8.out.below hb9)
    have B9 := Lib.hid (b_cl B8.out (Nat.le_refl _) hb9)
    have ls9 : w.heap.size < w9.heap.size := S9.out.lt
    have s0_9 := S9.out.cell (k := 0) rfl
    have s1_9 := S9.out.cell (k := 1) rfl
    have s2_9 := S9.out.cell (k := 2) rfl
    go_wp2_with (first
      | go_skip
      | (go_at_call 8; refine (alive19_any _).mono ?_; rintro e wz ⟨rfl, hbz⟩))
    go_ret
    exact ⟨rfl, b_cl B9.out (Nat.le_refl _) hbz⟩
  have hs := spot_yes ck ft
  have CR := fun W (h : RdK W A0 l0) => refleft19_any A0 n0 c0 l0 hn0 i1 x1 y1 W h ok (by omega) ft
  rw [leftv_ok hs] at CF
  rw [hs] at CG
  rw [decide_eq_true rfl] at CG
  rw [decide_eq_true ft] at CT
  have hd : doneV l0 (i1, x1, y1) = decide (i1 = (n0 : Int)) := by unfold doneV; rw [hs, hn0]; rfl
  rw [hd] at CD
  simp only at CF
  generalize (leftT l0 (i1, x1, y1)).1 = d0 at CF CR
  generalize (leftT l0 (i1, x1, y1)).2 = d1 at CF CR
  clear hd hs hP ck ft ok lk r0 few hx1 hy1 q0 z0 hn0
  by_cases ei : i1 = (n0 : Int)
  case pos =>
    have ei2 : (i1 == (n0 : Int)) = true := by simp [ei]
    rw [decide_eq_true ei] at CD
    clear ei
    have S0 := Lib.hid (show Bx (w.alloc (.cells #[.int .i64 i1, .int .i64 x1, .int .i64 y1] 24)) w.heap.size 24 #[.int .i64 i1, .int .i64 x1, .int .i64 y1] from Bx.new (W := w) _ _ rfl)
    have B0 := Lib.hid (show Below w.heap.size w (w.alloc (.cells #[.int .i64 i1, .int .i64 x1, .int .i64 y1] 24)) by (repeat (first | exact Below.refl _ _ | (refine b_st ?_ (by first | (simp; done) | (simp; omega))) | (refine b_al ?_ (Nat.le_refl _) _) | refine b_dn ?_ | refine b_dr ?_ | (refine b_cl ?_ (Nat.le_refl _) (by assumption)))))
    go_enter Try.func3, Try.ntmps3
    go_upto_region 11 with (first
      | go_skip
      | (go_at_call 7; refine (CL _ (HK.out.below B0.out)).mono ?_; rintro e w1 ⟨rfl, hb1⟩; have S1 := Lib.hid (S0.out.below hb1); have B1 := Lib.hid (b_cl B0.out (Nat.le_refl _) hb1); have ls1 : w.heap.size < w1.heap.size := S1.out.lt; have s0_1 := S1.out.cell (k := 0) rfl; have s1_1 := S1.out.cell (k := 1) rfl; have s2_1 := S1.out.cell (k := 2) rfl; clear hb1)
      | (go_at_call 9; refine (CC _ (HK.out.below B1.out)).mono ?_; rintro e w2 ⟨rfl, hb2⟩; have S2 := Lib.hid (S1.out.below hb2); have B2 := Lib.hid (b_cl B1.out (Nat.le_refl _) hb2); have ls2 : w.heap.size < w2.heap.size := S2.out.lt; have s0_2 := S2.out.cell (k := 0) rfl; have s1_2 := S2.out.cell (k := 1) rfl; have s2_2 := S2.out.cell (k := 2) rfl; clear hb2)
      | (go_at_call 10; refine (CS _ (HK.out.below B2.out)).mono ?_; rintro e w3 ⟨rfl, hb3⟩; have S3 := Lib.hid ((S2.out.below hb3).alloc (.cells #[.int .i64 p0, .int .i64 p1, .int .i64 p2] 24)); have B3 := Lib.hid (b_al (b_cl B2.out (Nat.le_refl _) hb3) (Nat.le_refl _) (.cells #[.int .i64 p0, .int .i64 p1, .int .i64 p2] 24)); have A3 := Lib.hid (Bx.new (W := w3) 24 #[.int .i64 p0, .int .i64 p1, .int .i64 p2] rfl); have ls3 : w.heap.size < w3.heap.size := (S2.out.below hb3).lt; have s0_3 := (S2.out.below hb3).cell (k := 0) rfl; have s1_3 := (S2.out.below hb3).cell (k := 1) rfl; have s2_3 := (S2.out.below hb3).cell (k := 2) rfl; clear hb3)
      | (go_at_call 11; refine (CF _ (HK.out.below B3.out)).mono ?_; rintro e w4 ⟨rfl, hb4⟩; have S4 := Lib.hid (S3.out.below hb4); have A4 := Lib.hid (A3.out.below hb4); have B4 := Lib.hid (b_cl B3.out (Nat.le_refl _) hb4); have ls4 : w.heap.size < w4.heap.size := S4.out.lt; have s0_4 := S4.out.cell (k := 0) rfl; have s1_4 := S4.out.cell (k := 1) rfl; have s2_4 := S4.out.cell (k := 2) rfl; have a0_4 := A4.out.cell (k := 0) rfl; have a1_4 := A4.out.cell (k := 1) rfl; have a2_4 := A4.out.cell (k := 2) rfl; have la4 : w3.heap.size < w4.heap.size := A4.out.lt; clear hb4)
      | (go_at_call 12; refine (CT _ (HK.out.below B4.out)).mono ?_; rintro e w5 ⟨rfl, hb5⟩; have S5 := Lib.hid (S4.out.below hb5); have A5 := Lib.hid (A4.out.below hb5); have B5 := Lib.hid (b_cl B4.out (Nat.le_refl _) hb5); have ls5 : w.heap.size < w5.heap.size := S5.out.lt; have s0_5 := S5.out.cell (k := 0) rfl; have s1_5 := S5.out.cell (k := 1) rfl; have s2_5 := S5.out.cell (k := 2) rfl; have a0_5 := A5.out.cell (k := 0) rfl; have a1_5 := A5.out.cell (k := 1) rfl; have a2_5 := A5.out.cell (k := 2) rfl; have la5 : w3.heap.size < w5.heap.size := A5.out.lt; clear hb5)
      | (go_at_call 13; refine (CK _ (HK.out.below B5.out)).mono ?_; rintro e w6 ⟨rfl, hb6⟩; have S6 := Lib.hid (S5.out.below hb6); have A6 := Lib.hid (A5.out.below hb6); have B6 := Lib.hid (b_cl B5.out (Nat.le_refl _) hb6); have ls6 : w.heap.size < w6.heap.size := S6.out.lt; have s0_6 := S6.out.cell (k := 0) rfl; have s1_6 := S6.out.cell (k := 1) rfl; have s2_6 := S6.out.cell (k := 2) rfl; have a0_6 := A6.out.cell (k := 0) rfl; have a1_6 := A6.out.cell (k := 1) rfl; have a2_6 := A6.out.cell (k := 2) rfl; have la6 : w3.heap.size < w6.heap.size := A6.out.lt; clear hb6)
      | (go_at_call 14; refine (CG _ (HK.out.below B6.out)).mono ?_; rintro e w7 ⟨rfl, hb7⟩; have S7 := Lib.hid (S6.out.below hb7); have A7 := Lib.hid (A6.out.below hb7); have B7 := Lib.hid (b_cl B6.out (Nat.le_refl _) hb7); have ls7 : w.heap.size < w7.heap.size := S7.out.lt; have s0_7 := S7.out.cell (k := 0) rfl; have s1_7 := S7.out.cell (k := 1) rfl; have s2_7 := S7.out.cell (k := 2) rfl; have a0_7 := A7.out.cell (k := 0) rfl; have a1_7 := A7.out.cell (k := 1) rfl; have a2_7 := A7.out.cell (k := 2) rfl; have la7 : w3.heap.size < w7.heap.size := A7.out.lt; clear hb7)
      | (go_at_call 15; refine (CD _ (HK.out.below B7.out)).mono ?_; rintro e w8 ⟨rfl, hb8⟩; have S8 := Lib.hid (S7.out.below hb8); have A8 := Lib.hid (A7.out.below hb8); have B8 := Lib.hid (b_cl B7.out (Nat.le_refl _) hb8); have ls8 : w.heap.size < w8.heap.size := S8.out.lt; have s0_8 := S8.out.cell (k := 0) rfl; have s1_8 := S8.out.cell (k := 1) rfl; have s2_8 := S8.out.cell (k := 2) rfl; have a0_8 := A8.out.cell (k := 0) rfl; have a1_8 := A8.out.cell (k := 1) rfl; have a2_8 := A8.out.cell (k := 2) rfl; have la8 : w3.heap.size < w8.heap.size := A8.out.lt; clear hb8))
    have q0 : ∀ p : BelowOf w8, p.world.cell? ⟨w3.heap.size, 0, none⟩ = some (.int .i64 p0) := fun p => p.cell a0_8
    have q1 : ∀ p : BelowOf w8, p.world.cell? ⟨w3.heap.size, 1, none⟩ = some (.int .i64 p1) := fun p => p.cell a1_8
    have q2 : ∀ p : BelowOf w8, p.world.cell? ⟨w3.heap.size, 2, none⟩ = some (.int .i64 p2) := fun p => p.cell a2_8
    have CPp : ∀ P : BelowOf w8, Calls Try.prog 16 #[.slice A0 n0 c0, .agg #[.int .i64 0, .int .i64 0, .int .i64 0]] P.world fun e w' => e = .returned (.agg #[.int .i64 p0, .int .i64 p1, .int .i64 p2]) ∧ Below P.world.heap.size P.world w' := fun P => CP _ (HK.out.below (B8.out.trans (P.ok.mono B8.out.size)))
    refine wp_region_bel (by kernel_rfl) (by kernel_rfl) ?_
    repeat (go_big_quiet_step ((go_at_call 16; (with_reducible exact Calls.bel_of (CPp _)))))
    refine wpQuiet_nil ?_
    refine bel_all fun w9 hb9 => ?_
    clear q0 q1 q2 CPp
    have S9 := Lib.hid (S8.out.below hb9)
    have B9 := Lib.hid (b_cl B8.out (Nat.le_refl _) hb9)
    have ls9 : w.heap.size < w9.heap.size := S9.out.lt
    have s0_9 := S9.out.cell (k := 0) rfl
    have s1_9 := S9.out.cell (k := 1) rfl
    have s2_9 := S9.out.cell (k := 2) rfl
    go_wp2_with (first
      | go_skip
      | (go_at_call 17; refine (CR _ (HK.out.below B9.out)).mono ?_; rintro e w10 ⟨rfl, hb10⟩; have S10 := Lib.hid (S9.out.below hb10); have B10 := Lib.hid (b_cl B9.out (Nat.le_refl _) hb10); have ls10 : w.heap.size < w10.heap.size := S10.out.lt; have s0_10 := S10.out.cell (k := 0) rfl; have s1_10 := S10.out.cell (k := 1) rfl; have s2_10 := S10.out.cell (k := 2) rfl; clear hb10)
      | (go_at_call 8; refine (alive19_any _).mono ?_; rintro e wz ⟨rfl, hbz⟩))
    go_ret
    exact ⟨rfl, b_cl B10.out (Nat.le_refl _) hbz⟩
  case neg =>
    have ei2 : (i1 == (n0 : Int)) = false := by simp [ei]
    rw [decide_eq_false ei] at CD
    clear ei
    have S0 := Lib.hid (show Bx (w.alloc (.cells #[.int .i64 i1, .int .i64 x1, .int .i64 y1] 24)) w.heap.size 24 #[.int .i64 i1, .int .i64 x1, .int .i64 y1] from Bx.new (W := w) _ _ rfl)
    have B0 := Lib.hid (show Below w.heap.size w (w.alloc (.cells #[.int .i64 i1, .int .i64 x1, .int .i64 y1] 24)) by (repeat (first | exact Below.refl _ _ | (refine b_st ?_ (by first | (simp; done) | (simp; omega))) | (refine b_al ?_ (Nat.le_refl _) _) | refine b_dn ?_ | refine b_dr ?_ | (refine b_cl ?_ (Nat.le_refl _) (by assumption)))))
    go_enter Try.func3, Try.ntmps3
    go_upto_region 11 with (first
      | go_skip
      | (go_at_call 7; refine (CL _ (HK.out.below B0.out)).mono ?_; rintro e w1 ⟨rfl, hb1⟩; have S1 := Lib.hid (S0.out.below hb1); have B1 := Lib.hid (b_cl B0.out (Nat.le_refl _) hb1); have ls1 : w.heap.size < w1.heap.size := S1.out.lt; have s0_1 := S1.out.cell (k := 0) rfl; have s1_1 := S1.out.cell (k := 1) rfl; have s2_1 := S1.out.cell (k := 2) rfl; clear hb1)
      | (go_at_call 9; refine (CC _ (HK.out.below B1.out)).mono ?_; rintro e w2 ⟨rfl, hb2⟩; have S2 := Lib.hid (S1.out.below hb2); have B2 := Lib.hid (b_cl B1.out (Nat.le_refl _) hb2); have ls2 : w.heap.size < w2.heap.size := S2.out.lt; have s0_2 := S2.out.cell (k := 0) rfl; have s1_2 := S2.out.cell (k := 1) rfl; have s2_2 := S2.out.cell (k := 2) rfl; clear hb2)
      | (go_at_call 10; refine (CS _ (HK.out.below B2.out)).mono ?_; rintro e w3 ⟨rfl, hb3⟩; have S3 := Lib.hid ((S2.out.below hb3).alloc (.cells #[.int .i64 p0, .int .i64 p1, .int .i64 p2] 24)); have B3 := Lib.hid (b_al (b_cl B2.out (Nat.le_refl _) hb3) (Nat.le_refl _) (.cells #[.int .i64 p0, .int .i64 p1, .int .i64 p2] 24)); have A3 := Lib.hid (Bx.new (W := w3) 24 #[.int .i64 p0, .int .i64 p1, .int .i64 p2] rfl); have ls3 : w.heap.size < w3.heap.size := (S2.out.below hb3).lt; have s0_3 := (S2.out.below hb3).cell (k := 0) rfl; have s1_3 := (S2.out.below hb3).cell (k := 1) rfl; have s2_3 := (S2.out.below hb3).cell (k := 2) rfl; clear hb3)
      | (go_at_call 11; refine (CF _ (HK.out.below B3.out)).mono ?_; rintro e w4 ⟨rfl, hb4⟩; have S4 := Lib.hid (S3.out.below hb4); have A4 := Lib.hid (A3.out.below hb4); have B4 := Lib.hid (b_cl B3.out (Nat.le_refl _) hb4); have ls4 : w.heap.size < w4.heap.size := S4.out.lt; have s0_4 := S4.out.cell (k := 0) rfl; have s1_4 := S4.out.cell (k := 1) rfl; have s2_4 := S4.out.cell (k := 2) rfl; have a0_4 := A4.out.cell (k := 0) rfl; have a1_4 := A4.out.cell (k := 1) rfl; have a2_4 := A4.out.cell (k := 2) rfl; have la4 : w3.heap.size < w4.heap.size := A4.out.lt; clear hb4)
      | (go_at_call 12; refine (CT _ (HK.out.below B4.out)).mono ?_; rintro e w5 ⟨rfl, hb5⟩; have S5 := Lib.hid (S4.out.below hb5); have A5 := Lib.hid (A4.out.below hb5); have B5 := Lib.hid (b_cl B4.out (Nat.le_refl _) hb5); have ls5 : w.heap.size < w5.heap.size := S5.out.lt; have s0_5 := S5.out.cell (k := 0) rfl; have s1_5 := S5.out.cell (k := 1) rfl; have s2_5 := S5.out.cell (k := 2) rfl; have a0_5 := A5.out.cell (k := 0) rfl; have a1_5 := A5.out.cell (k := 1) rfl; have a2_5 := A5.out.cell (k := 2) rfl; have la5 : w3.heap.size < w5.heap.size := A5.out.lt; clear hb5)
      | (go_at_call 13; refine (CK _ (HK.out.below B5.out)).mono ?_; rintro e w6 ⟨rfl, hb6⟩; have S6 := Lib.hid (S5.out.below hb6); have A6 := Lib.hid (A5.out.below hb6); have B6 := Lib.hid (b_cl B5.out (Nat.le_refl _) hb6); have ls6 : w.heap.size < w6.heap.size := S6.out.lt; have s0_6 := S6.out.cell (k := 0) rfl; have s1_6 := S6.out.cell (k := 1) rfl; have s2_6 := S6.out.cell (k := 2) rfl; have a0_6 := A6.out.cell (k := 0) rfl; have a1_6 := A6.out.cell (k := 1) rfl; have a2_6 := A6.out.cell (k := 2) rfl; have la6 : w3.heap.size < w6.heap.size := A6.out.lt; clear hb6)
      | (go_at_call 14; refine (CG _ (HK.out.below B6.out)).mono ?_; rintro e w7 ⟨rfl, hb7⟩; have S7 := Lib.hid (S6.out.below hb7); have A7 := Lib.hid (A6.out.below hb7); have B7 := Lib.hid (b_cl B6.out (Nat.le_refl _) hb7); have ls7 : w.heap.size < w7.heap.size := S7.out.lt; have s0_7 := S7.out.cell (k := 0) rfl; have s1_7 := S7.out.cell (k := 1) rfl; have s2_7 := S7.out.cell (k := 2) rfl; have a0_7 := A7.out.cell (k := 0) rfl; have a1_7 := A7.out.cell (k := 1) rfl; have a2_7 := A7.out.cell (k := 2) rfl; have la7 : w3.heap.size < w7.heap.size := A7.out.lt; clear hb7)
      | (go_at_call 15; refine (CD _ (HK.out.below B7.out)).mono ?_; rintro e w8 ⟨rfl, hb8⟩; have S8 := Lib.hid (S7.out.below hb8); have A8 := Lib.hid (A7.out.below hb8); have B8 := Lib.hid (b_cl B7.out (Nat.le_refl _) hb8); have ls8 : w.heap.size < w8.heap.size := S8.out.lt; have s0_8 := S8.out.cell (k := 0) rfl; have s1_8 := S8.out.cell (k := 1) rfl; have s2_8 := S8.out.cell (k := 2) rfl; have a0_8 := A8.out.cell (k := 0) rfl; have a1_8 := A8.out.cell (k := 1) rfl; have a2_8 := A8.out.cell (k := 2) rfl; have la8 : w3.heap.size < w8.heap.size := A8.out.lt; clear hb8))
    have q0 : ∀ p : BelowOf w8, p.world.cell? ⟨w3.heap.size, 0, none⟩ = some (.int .i64 p0) := fun p => p.cell a0_8
    have q1 : ∀ p : BelowOf w8, p.world.cell? ⟨w3.heap.size, 1, none⟩ = some (.int .i64 p1) := fun p => p.cell a1_8
    have q2 : ∀ p : BelowOf w8, p.world.cell? ⟨w3.heap.size, 2, none⟩ = some (.int .i64 p2) := fun p => p.cell a2_8
    have CPp : ∀ P : BelowOf w8, Calls Try.prog 16 #[.slice A0 n0 c0, .agg #[.int .i64 0, .int .i64 0, .int .i64 0]] P.world fun e w' => e = .returned (.agg #[.int .i64 p0, .int .i64 p1, .int .i64 p2]) ∧ Below P.world.heap.size P.world w' := fun P => CP _ (HK.out.below (B8.out.trans (P.ok.mono B8.out.size)))
    refine wp_region_bel (by kernel_rfl) (by kernel_rfl) ?_
    repeat (go_big_quiet_step ((go_at_call 16; (with_reducible exact Calls.bel_of (CPp _)))))
    refine wpQuiet_nil ?_
    refine bel_all fun w9 hb9 => ?_
    clear q0 q1 q2 CPp
    have S9 := Lib.hid (S8.out.below hb9)
    have B9 := Lib.hid (b_cl B8.out (Nat.le_refl _) hb9)
    have ls9 : w.heap.size < w9.heap.size := S9.out.lt
    have s0_9 := S9.out.cell (k := 0) rfl
    have s1_9 := S9.out.cell (k := 1) rfl
    have s2_9 := S9.out.cell (k := 2) rfl
    go_wp2_with (first
      | go_skip
      | (go_at_call 17; refine (CR _ (HK.out.below B9.out)).mono ?_; rintro e w10 ⟨rfl, hb10⟩; have S10 := Lib.hid (S9.out.below hb10); have B10 := Lib.hid (b_cl B9.out (Nat.le_refl _) hb10); have ls10 : w.heap.size < w10.heap.size := S10.out.lt; have s0_10 := S10.out.cell (k := 0) rfl; have s1_10 := S10.out.cell (k := 1) rfl; have s2_10 := S10.out.cell (k := 2) rfl; clear hb10)
      | (go_at_call 8; refine (alive19_any _).mono ?_; rintro e wz ⟨rfl, hbz⟩))
    go_ret
    exact ⟨rfl, b_cl B10.out (Nat.le_refl _) hbz⟩

set_option maxRecDepth 100000 in
theorem lifted (os : Os) (started : os.Started) (H : Type) (enc : TypeId × Value → H) :
    ReturnsInHanded {} Try.checked os 3 .any (Rows.errandChecksSpec.pre6 enc Try.prog Try.f3 Rows.errandChecksRow.domain false) (Rows.errandChecksSpec.post enc Try.prog Try.f3 false true false false) := by
  refine returnsInHanded_of_change (C := Try.checked) own started (by kernel_rfl) Try.func3
    (ChangeSpec.witness6 (enc := enc) (C := Try.checked) false ⟨#[], #[.slice none 0 0, .agg #[.int .i64 0, .int .i64 0, .int .i64 0]], []⟩ 8 (by kernel_rfl) (by kernel_rfl) (by kernel_rfl) (by kernel_rfl)) ?_
  intro W base args ds gs before hval0 hW hcnd _
  have hval : ∀ (j : Nat) t v, Try.f3.params[j]? = some t → args[j]? = some v → Value.okWide Try.prog W .any base t v := hval0
  have hW' := hW
  obtain ⟨p, q, hA0, hV, rfl, hfz, hnd⟩ := hW
  have hA : DataW.TrodAll enc Try.prog W 0 (fun _ => true) true Try.f3.params.toList args.toList ds p := hA0
  rw [Try.params3] at hA hval
  obtain ⟨v0, vs0, d0, ds0, p0, q0, hargs, rfl, rfl, h0, r0⟩ := trodAll_cons hA
  obtain ⟨v1, vs1, d1, ds1, p1, q1, rfl, rfl, rfl, h1, r1⟩ := trodAll_cons r0
  obtain ⟨rfl, rfl, rfl⟩ := trodAll_nil r1
  obtain rfl : args = #[v0, v1] := by cases args; simp_all
  obtain ⟨rfl, rfl⟩ := trodVars_none hV
  have k0 := h0
  have lt0 : ∀ x ∈ p0, x.block < W.heap.size := by obtain ⟨m, hm⟩ := k0; exact DataW.trod_lt m _ _ _ hm
  obtain ⟨A0, n0, c0, l0, rfl, hn0, rd0, q0, z0⟩ := open_tasks (hval 0 22 v0 rfl rfl) h0
  have k1 := h1
  have lt1 : ∀ x ∈ p1, x.block < W.heap.size := by obtain ⟨m, hm⟩ := k1; exact DataW.trod_lt m _ _ _ hm
  obtain ⟨i1, x1, y1, rfl, _, _, wa1, wb1, wc1⟩ := open_spot (hval 1 24 v1 rfl rfl) h1
  clear hA0 hval0
  refine (walk W A0 n0 c0 l0 hn0 rd0 q0 z0 i1 x1 y1 (wf_i64 wb1) (wf_i64 wc1)).mono fun e W' ⟨he, bel⟩ => ?_
  subst he
  exact ⟨_, rfl, _, _, _, [], _, [], hW', trodAll_mk1 (shut_bool Try.underlying4 _), (trodAll_cons_mk (Below.trod laidOut (by kernel_rfl) (of_decide_eq_true (by kernel_rfl)) k0 bel lt0) (trodAll_cons_mk (Below.trod laidOut (by kernel_rfl) (of_decide_eq_true (by kernel_rfl)) k1 bel lt1) trodAll_mk0)), rfl, bel.frame _, fun h => by cases h⟩

theorem over : Rows.errandChecksRow.holds Try.pinned (OpenSpec.ofChange Rows.errandChecksSpec) :=
  OpenClaim.holds_of_wide 3 Try.f3 rfl rfl rfl rfl rfl rfl rfl ⟨rfl, rfl, rfl, rfl, rfl⟩ rfl rfl rfl rfl rfl (by kernel_rfl) Try.func3 (by kernel_rfl)
    (of_decide_eq_true (by kernel_rfl)) (by unfold Func.isWrapper; first | (rw [if_pos (by decide +kernel)]; kernel_rfl) | (rw [if_neg (by decide +kernel)]; exact ⟨rfl, rfl⟩))
    (fun os started H enc _ => lifted os started H enc)

theorem proved : Rows.ErrandChecksSaid := over
#print axioms proved
end Go.Proofs.Ythgieanhlmnneaa.errandChecks
