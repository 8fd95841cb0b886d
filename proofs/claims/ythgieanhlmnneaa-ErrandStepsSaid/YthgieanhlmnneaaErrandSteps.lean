/- One minute of any kind at any spot of tasks is answered as the document says, or the error. Conditions: none (of more than forty tasks, or of a task with more than twenty windows, the law asks the example alone). -/
import Derived.Test.YthgieanhlmnneaaRows
import Derived.Test.YthgieanhlmnneaaBase
import Derived.Test.YthgieanhlmnneaaRow
import Derived.Test.YthgieanhlmnneaaBox
import Derived.Test.YthgieanhlmnneaaBoxRes
import Derived.Test.YthgieanhlmnneaaErrandMath
import Derived.Test.YthgieanhlmnneaaErrandHeap
import Derived.Test.YthgieanhlmnneaaErrandMath2
import Derived.Test.YthgieanhlmnneaaErrandOpen
import Derived.Test.YthgieanhlmnneaaErrandLight
import Derived.Test.YthgieanhlmnneaaErrandAlive
import Derived.Test.YthgieanhlmnneaaErrandPast
import Derived.Test.YthgieanhlmnneaaErrandChk
import Derived.Test.YthgieanhlmnneaaErrandSpot
import Derived.Test.YthgieanhlmnneaaErrandStepC
import Derived.Test.YthgieanhlmnneaaErrandRStep0
import Derived.Test.YthgieanhlmnneaaErrandRStep
import Derived.WalkKit
import Derived.WalkSmall
import Derived.WalkSpells
import Derived.ProofKit
import Derived.OpenShut
import Derived.ShutString
import Derived.ChangeOld
import Derived.Below
import Derived.Lib.Hide
import Derived.OwnWalk
namespace Go.Proofs.Ythgieanhlmnneaa.errandSteps
open Go.ChangeShapes Go.WideShapes Go.ChangeAt Go.RowKit
open Go.ChangeMaps (open_string shut_string)
set_option linter.unusedVariables false

theorem own : ownKnob Try.prog.godebug = none := by kernel_rfl
theorem laidOut : laidOutB Try.prog = true := by kernel_rfl

theorem bit_top (t0 t1 t2 t3 : Bool) : 0 ≤ bitN t0 1024 ∧ bitN t0 1024 ≤ 1024 ∧ 0 ≤ bitN t1 2048 ∧ bitN t1 2048 ≤ 2048 ∧ 0 ≤ bitN t2 4096 ∧ bitN t2 4096 ≤ 4096 := by
  cases t0 <;> cases t1 <;> cases t2 <;> decide

open Classical in
set_option maxRecDepth 20000 in
set_option maxHeartbeats 4000000 in
theorem walk (w : World) (A0 : Option Addr) (n0 c0 : Nat) (l0 : List Tk) (hn0 : l0.length = n0) (r0 : RdK w A0 l0) (q0 : n0 ≤ c0) (z0 : A0 = none → c0 = 0) (i1 x1 y1 : Int) (hx1 : -9223372036854775808 ≤ x1 ∧ x1 ≤ 9223372036854775807) (hy1 : -9223372036854775808 ≤ y1 ∧ y1 ≤ 9223372036854775807) (m2 j2 : Int) (hm2 : -9223372036854775808 ≤ m2 ∧ m2 ≤ 9223372036854775807) :
    Calls Try.prog 4 #[.slice A0 n0 c0, .agg #[.int .i64 i1, .int .i64 x1, .int .i64 y1], .agg #[.int .i64 m2, .int .i64 j2]] w fun e w' => e = .returned (.bool true) ∧ Below w.heap.size w w' := by
  have CL := fun W (h : RdK W A0 l0) => light19_any A0 n0 c0 l0 hn0 W h
  have HK := Lib.hid r0
  by_cases lk : LightK l0
  case neg =>
    rw [decide_eq_false lk] at CL
    clear lk r0
    have S0 := Lib.hid (show Bx ((w.alloc (.cells #[.int .i64 i1, .int .i64 x1, .int .i64 y1] 24)).alloc (.cells #[.int .i64 m2, .int .i64 j2] 38)) w.heap.size 24 #[.int .i64 i1, .int .i64 x1, .int .i64 y1] from (Bx.new (W := w) _ _ rfl).alloc _)
    have M0 := Lib.hid (show Bx ((w.alloc (.cells #[.int .i64 i1, .int .i64 x1, .int .i64 y1] 24)).alloc (.cells #[.int .i64 m2, .int .i64 j2] 38)) (w.heap.size + 1) 38 #[.int .i64 m2, .int .i64 j2] from Bx.new (W := w.alloc (.cells #[.int .i64 i1, .int .i64 x1, .int .i64 y1] 24)) _ _ (by simp))
    have B0 := Lib.hid (show Below w.heap.size w ((w.alloc (.cells #[.int .i64 i1, .int .i64 x1, .int .i64 y1] 24)).alloc (.cells #[.int .i64 m2, .int .i64 j2] 38)) by (repeat (first | exact Below.refl _ _ | (refine b_st ?_ (by first | (simp; done) | (simp; omega))) | (refine b_al ?_ (Nat.le_refl _) _) | refine b_dn ?_ | refine b_dr ?_ | (refine b_cl ?_ (Nat.le_refl _) (by assumption)))))
    go_enter Try.func4, Try.ntmps4
    go_wp2_with (first
      | go_skip
      | (go_at_call 7; refine (CL _ (HK.out.below B0.out)).mono ?_; rintro e w1 ⟨rfl, hb1⟩; have S1 := Lib.hid (S0.out.below hb1); have M1 := Lib.hid (M0.out.below hb1); have B1 := Lib.hid (b_cl B0.out (Nat.le_refl _) hb1); have lm1 : w.heap.size + 1 < w1.heap.size := M1.out.lt; have ls1 : w.heap.size < w1.heap.size := S1.out.lt; have s0_1 := S1.out.cell (k := 0) rfl; have s1_1 := S1.out.cell (k := 1) rfl; have s2_1 := S1.out.cell (k := 2) rfl; have m0_1 := M1.out.cell (k := 0) rfl; have m1_1 := M1.out.cell (k := 1) rfl; clear hb1)
      | (go_at_call 8; refine (alive19_any _).mono ?_; rintro e wz ⟨rfl, hbz⟩))
    go_ret
    exact ⟨rfl, b_cl B1.out (Nat.le_refl _) hbz⟩
  rw [decide_eq_true lk] at CL
  have few := lk.few
  have hl : n0 ≤ 40 := by have := lk.1; omega
  have CC := fun W (h : RdK W A0 l0) => refcheck19_any A0 n0 c0 l0 hn0 W h few
  have CS := fun W (h : RdK W A0 l0) => step19_any A0 n0 c0 l0 hn0 i1 x1 y1 m2 j2 W h few hx1 hy1 hm2
  have CT := fun W (h : RdK W A0 l0) => reffits19_any A0 n0 c0 l0 hn0 i1 x1 y1 W h
  by_cases ck : checkT l0 = 0
  case neg =>
    obtain ⟨e0, he⟩ : ∃ e0, checkT l0 = e0 := ⟨_, rfl⟩
    have hne : ¬ e0 = 0 := by rw [← he]; exact ck
    have hs : stepE l0 (i1, x1, y1) m2 j2 = e0 := by
      have := spot_bad (l := l0) (s := (i1, x1, y1)) he hne
      unfold stepE; rw [this, if_neg hne]
    rw [stepv_bad hs hne] at CS
    rw [he] at CC
    unfold sp3 at CS
    simp only at CS
    have ne1 : (e0 == 0) = false := by simp [hne]
    have ne2 : (e0 != 0) = true := by simp [hne]
    clear hs he ck lk r0 few hn0 hx1 hy1 hm2 q0 z0 hne CT
    have S0 := Lib.hid (show Bx ((w.alloc (.cells #[.int .i64 i1, .int .i64 x1, .int .i64 y1] 24)).alloc (.cells #[.int .i64 m2, .int .i64 j2] 38)) w.heap.size 24 #[.int .i64 i1, .int .i64 x1, .int .i64 y1] from (Bx.new (W := w) _ _ rfl).alloc _)
    have M0 := Lib.hid (show Bx ((w.alloc (.cells #[.int .i64 i1, .int .i64 x1, .int .i64 y1] 24)).alloc (.cells #[.int .i64 m2, .int .i64 j2] 38)) (w.heap.size + 1) 38 #[.int .i64 m2, .int .i64 j2] from Bx.new (W := w.alloc (.cells #[.int .i64 i1, .int .i64 x1, .int .i64 y1] 24)) _ _ (by simp))
    have B0 := Lib.hid (show Below w.heap.size w ((w.alloc (.cells #[.int .i64 i1, .int .i64 x1, .int .i64 y1] 24)).alloc (.cells #[.int .i64 m2, .int .i64 j2] 38)) by (repeat (first | exact Below.refl _ _ | (refine b_st ?_ (by first | (simp; done) | (simp; omega))) | (refine b_al ?_ (Nat.le_refl _) _) | refine b_dn ?_ | refine b_dr ?_ | (refine b_cl ?_ (Nat.le_refl _) (by assumption)))))
    go_enter Try.func4, Try.ntmps4
    go_wp2_with (first
      | go_skip
      | (go_at_call 7; refine (CL _ (HK.out.below B0.out)).mono ?_; rintro e w1 ⟨rfl, hb1⟩; have S1 := Lib.hid (S0.out.below hb1); have M1 := Lib.hid (M0.out.below hb1); have B1 := Lib.hid (b_cl B0.out (Nat.le_refl _) hb1); have lm1 : w.heap.size + 1 < w1.heap.size := M1.out.lt; have ls1 : w.heap.size < w1.heap.size := S1.out.lt; have s0_1 := S1.out.cell (k := 0) rfl; have s1_1 := S1.out.cell (k := 1) rfl; have s2_1 := S1.out.cell (k := 2) rfl; have m0_1 := M1.out.cell (k := 0) rfl; have m1_1 := M1.out.cell (k := 1) rfl; clear hb1)
      | (go_at_call 18; refine (CS _ (HK.out.below B1.out)).mono ?_; rintro e w2 ⟨rfl, hb2⟩; have S2 := Lib.hid ((S1.out.below hb2).alloc (.cells #[.int .i64 0, .int .i64 0, .int .i64 0] 24)); have M2 := Lib.hid ((M1.out.below hb2).alloc (.cells #[.int .i64 0, .int .i64 0, .int .i64 0] 24)); have B2 := Lib.hid (b_al (b_cl B1.out (Nat.le_refl _) hb2) (Nat.le_refl _) (.cells #[.int .i64 0, .int .i64 0, .int .i64 0] 24)); have A2 := Lib.hid (Bx.new (W := w2) 24 #[.int .i64 0, .int .i64 0, .int .i64 0] rfl); have ls2 : w.heap.size < w2.heap.size := (S1.out.below hb2).lt; have lm2 : w.heap.size + 1 < w2.heap.size := (M1.out.below hb2).lt; have s0_2 := (S1.out.below hb2).cell (k := 0) rfl; have s1_2 := (S1.out.below hb2).cell (k := 1) rfl; have s2_2 := (S1.out.below hb2).cell (k := 2) rfl; have m0_2 := (M1.out.below hb2).cell (k := 0) rfl; have m1_2 := (M1.out.below hb2).cell (k := 1) rfl; clear hb2)
      | (go_at_call 9; refine (CC _ (HK.out.below B2.out)).mono ?_; rintro e w3 ⟨rfl, hb3⟩; have S3 := Lib.hid (S2.out.below hb3); have M3 := Lib.hid (M2.out.below hb3); have A3 := Lib.hid (A2.out.below hb3); have B3 := Lib.hid (b_cl B2.out (Nat.le_refl _) hb3); have lm3 : w.heap.size + 1 < w3.heap.size := M3.out.lt; have ls3 : w.heap.size < w3.heap.size := S3.out.lt; have s0_3 := S3.out.cell (k := 0) rfl; have s1_3 := S3.out.cell (k := 1) rfl; have s2_3 := S3.out.cell (k := 2) rfl; have m0_3 := M3.out.cell (k := 0) rfl; have m1_3 := M3.out.cell (k := 1) rfl; have a0_3 := A3.out.cell (k := 0) rfl; have a1_3 := A3.out.cell (k := 1) rfl; have a2_3 := A3.out.cell (k := 2) rfl; have la3 : w2.heap.size < w3.heap.size := A3.out.lt; clear hb3)
      | (go_at_call 8; refine (alive19_any _).mono ?_; rintro e wz ⟨rfl, hbz⟩))
    go_ret
    exact ⟨rfl, b_cl B3.out (Nat.le_refl _) hbz⟩
  rw [ck] at CC
  by_cases ft : Fits l0 (i1, x1, y1)
  case neg =>
    have hs : stepE l0 (i1, x1, y1) m2 j2 = 1 := by unfold stepE; rw [spot_no ck ft]; rfl
    rw [stepv_bad hs (by decide)] at CS
    rw [decide_eq_false ft] at CT
    unfold sp3 at CS
    simp only at CS
    clear hs ck ft lk r0 few hn0 hx1 hy1 hm2 q0 z0
    have S0 := Lib.hid (show Bx ((w.alloc (.cells #[.int .i64 i1, .int .i64 x1, .int .i64 y1] 24)).alloc (.cells #[.int .i64 m2, .int .i64 j2] 38)) w.heap.size 24 #[.int .i64 i1, .int .i64 x1, .int .i64 y1] from (Bx.new (W := w) _ _ rfl).alloc _)
    have M0 := Lib.hid (show Bx ((w.alloc (.cells #[.int .i64 i1, .int .i64 x1, .int .i64 y1] 24)).alloc (.cells #[.int .i64 m2, .int .i64 j2] 38)) (w.heap.size + 1) 38 #[.int .i64 m2, .int .i64 j2] from Bx.new (W := w.alloc (.cells #[.int .i64 i1, .int .i64 x1, .int .i64 y1] 24)) _ _ (by simp))
    have B0 := Lib.hid (show Below w.heap.size w ((w.alloc (.cells #[.int .i64 i1, .int .i64 x1, .int .i64 y1] 24)).alloc (.cells #[.int .i64 m2, .int .i64 j2] 38)) by (repeat (first | exact Below.refl _ _ | (refine b_st ?_ (by first | (simp; done) | (simp; omega))) | (refine b_al ?_ (Nat.le_refl _) _) | refine b_dn ?_ | refine b_dr ?_ | (refine b_cl ?_ (Nat.le_refl _) (by assumption)))))
    go_enter Try.func4, Try.ntmps4
    go_wp2_with (first
      | go_skip
      | (go_at_call 7; refine (CL _ (HK.out.below B0.out)).mono ?_; rintro e w1 ⟨rfl, hb1⟩; have S1 := Lib.hid (S0.out.below hb1); have M1 := Lib.hid (M0.out.below hb1); have B1 := Lib.hid (b_cl B0.out (Nat.le_refl _) hb1); have lm1 : w.heap.size + 1 < w1.heap.size := M1.out.lt; have ls1 : w.heap.size < w1.heap.size := S1.out.lt; have s0_1 := S1.out.cell (k := 0) rfl; have s1_1 := S1.out.cell (k := 1) rfl; have s2_1 := S1.out.cell (k := 2) rfl; have m0_1 := M1.out.cell (k := 0) rfl; have m1_1 := M1.out.cell (k := 1) rfl; clear hb1)
      | (go_at_call 18; refine (CS _ (HK.out.below B1.out)).mono ?_; rintro e w2 ⟨rfl, hb2⟩; have S2 := Lib.hid ((S1.out.below hb2).alloc (.cells #[.int .i64 0, .int .i64 0, .int .i64 0] 24)); have M2 := Lib.hid ((M1.out.below hb2).alloc (.cells #[.int .i64 0, .int .i64 0, .int .i64 0] 24)); have B2 := Lib.hid (b_al (b_cl B1.out (Nat.le_refl _) hb2) (Nat.le_refl _) (.cells #[.int .i64 0, .int .i64 0, .int .i64 0] 24)); have A2 := Lib.hid (Bx.new (W := w2) 24 #[.int .i64 0, .int .i64 0, .int .i64 0] rfl); have ls2 : w.heap.size < w2.heap.size := (S1.out.below hb2).lt; have lm2 : w.heap.size + 1 < w2.heap.size := (M1.out.below hb2).lt; have s0_2 := (S1.out.below hb2).cell (k := 0) rfl; have s1_2 := (S1.out.below hb2).cell (k := 1) rfl; have s2_2 := (S1.out.below hb2).cell (k := 2) rfl; have m0_2 := (M1.out.below hb2).cell (k := 0) rfl; have m1_2 := (M1.out.below hb2).cell (k := 1) rfl; clear hb2)
      | (go_at_call 9; refine (CC _ (HK.out.below B2.out)).mono ?_; rintro e w3 ⟨rfl, hb3⟩; have S3 := Lib.hid (S2.out.below hb3); have M3 := Lib.hid (M2.out.below hb3); have A3 := Lib.hid (A2.out.below hb3); have B3 := Lib.hid (b_cl B2.out (Nat.le_refl _) hb3); have lm3 : w.heap.size + 1 < w3.heap.size := M3.out.lt; have ls3 : w.heap.size < w3.heap.size := S3.out.lt; have s0_3 := S3.out.cell (k := 0) rfl; have s1_3 := S3.out.cell (k := 1) rfl; have s2_3 := S3.out.cell (k := 2) rfl; have m0_3 := M3.out.cell (k := 0) rfl; have m1_3 := M3.out.cell (k := 1) rfl; have a0_3 := A3.out.cell (k := 0) rfl; have a1_3 := A3.out.cell (k := 1) rfl; have a2_3 := A3.out.cell (k := 2) rfl; have la3 : w2.heap.size < w3.heap.size := A3.out.lt; clear hb3)
      | (go_at_call 12; refine (CT _ (HK.out.below B3.out)).mono ?_; rintro e w4 ⟨rfl, hb4⟩; have S4 := Lib.hid (S3.out.below hb4); have M4 := Lib.hid (M3.out.below hb4); have A4 := Lib.hid (A3.out.below hb4); have B4 := Lib.hid (b_cl B3.out (Nat.le_refl _) hb4); have lm4 : w.heap.size + 1 < w4.heap.size := M4.out.lt; have ls4 : w.heap.size < w4.heap.size := S4.out.lt; have s0_4 := S4.out.cell (k := 0) rfl; have s1_4 := S4.out.cell (k := 1) rfl; have s2_4 := S4.out.cell (k := 2) rfl; have m0_4 := M4.out.cell (k := 0) rfl; have m1_4 := M4.out.cell (k := 1) rfl; have a0_4 := A4.out.cell (k := 0) rfl; have a1_4 := A4.out.cell (k := 1) rfl; have a2_4 := A4.out.cell (k := 2) rfl; have la4 : w2.heap.size < w4.heap.size := A4.out.lt; clear hb4)
      | (go_at_call 8; refine (alive19_any _).mono ?_; rintro e wz ⟨rfl, hbz⟩))
    go_ret
    exact ⟨rfl, b_cl B4.out (Nat.le_refl _) hbz⟩
  rw [decide_eq_true ft] at CT
  have sz := spot_yes ck ft
  by_cases g0 : j2 < 0
  case pos =>
    have hs : stepE l0 (i1, x1, y1) m2 j2 = 2 := by unfold stepE; rw [if_pos sz]; rw [if_neg (by omega)]
    rw [stepv_bad hs (by decide)] at CS
    unfold sp3 at CS
    simp only at CS
    clear hs ck ft lk r0 few hn0 hx1 hy1 hm2 q0 z0 sz
    have S0 := Lib.hid (show Bx ((w.alloc (.cells #[.int .i64 i1, .int .i64 x1, .int .i64 y1] 24)).alloc (.cells #[.int .i64 m2, .int .i64 j2] 38)) w.heap.size 24 #[.int .i64 i1, .int .i64 x1, .int .i64 y1] from (Bx.new (W := w) _ _ rfl).alloc _)
    have M0 := Lib.hid (show Bx ((w.alloc (.cells #[.int .i64 i1, .int .i64 x1, .int .i64 y1] 24)).alloc (.cells #[.int .i64 m2, .int .i64 j2] 38)) (w.heap.size + 1) 38 #[.int .i64 m2, .int .i64 j2] from Bx.new (W := w.alloc (.cells #[.int .i64 i1, .int .i64 x1, .int .i64 y1] 24)) _ _ (by simp))
    have B0 := Lib.hid (show Below w.heap.size w ((w.alloc (.cells #[.int .i64 i1, .int .i64 x1, .int .i64 y1] 24)).alloc (.cells #[.int .i64 m2, .int .i64 j2] 38)) by (repeat (first | exact Below.refl _ _ | (refine b_st ?_ (by first | (simp; done) | (simp; omega))) | (refine b_al ?_ (Nat.le_refl _) _) | refine b_dn ?_ | refine b_dr ?_ | (refine b_cl ?_ (Nat.le_refl _) (by assumption)))))
    go_enter Try.func4, Try.ntmps4
    go_wp2_with (first
      | go_skip
      | (go_at_call 7; refine (CL _ (HK.out.below B0.out)).mono ?_; rintro e w1 ⟨rfl, hb1⟩; have S1 := Lib.hid (S0.out.below hb1); have M1 := Lib.hid (M0.out.below hb1); have B1 := Lib.hid (b_cl B0.out (Nat.le_refl _) hb1); have lm1 : w.heap.size + 1 < w1.heap.size := M1.out.lt; have ls1 : w.heap.size < w1.heap.size := S1.out.lt; have s0_1 := S1.out.cell (k := 0) rfl; have s1_1 := S1.out.cell (k := 1) rfl; have s2_1 := S1.out.cell (k := 2) rfl; have m0_1 := M1.out.cell (k := 0) rfl; have m1_1 := M1.out.cell (k := 1) rfl; clear hb1)
      | (go_at_call 18; refine (CS _ (HK.out.below B1.out)).mono ?_; rintro e w2 ⟨rfl, hb2⟩; have S2 := Lib.hid ((S1.out.below hb2).alloc (.cells #[.int .i64 0, .int .i64 0, .int .i64 0] 24)); have M2 := Lib.hid ((M1.out.below hb2).alloc (.cells #[.int .i64 0, .int .i64 0, .int .i64 0] 24)); have B2 := Lib.hid (b_al (b_cl B1.out (Nat.le_refl _) hb2) (Nat.le_refl _) (.cells #[.int .i64 0, .int .i64 0, .int .i64 0] 24)); have A2 := Lib.hid (Bx.new (W := w2) 24 #[.int .i64 0, .int .i64 0, .int .i64 0] rfl); have ls2 : w.heap.size < w2.heap.size := (S1.out.below hb2).lt; have lm2 : w.heap.size + 1 < w2.heap.size := (M1.out.below hb2).lt; have s0_2 := (S1.out.below hb2).cell (k := 0) rfl; have s1_2 := (S1.out.below hb2).cell (k := 1) rfl; have s2_2 := (S1.out.below hb2).cell (k := 2) rfl; have m0_2 := (M1.out.below hb2).cell (k := 0) rfl; have m1_2 := (M1.out.below hb2).cell (k := 1) rfl; clear hb2)
      | (go_at_call 9; refine (CC _ (HK.out.below B2.out)).mono ?_; rintro e w3 ⟨rfl, hb3⟩; have S3 := Lib.hid (S2.out.below hb3); have M3 := Lib.hid (M2.out.below hb3); have A3 := Lib.hid (A2.out.below hb3); have B3 := Lib.hid (b_cl B2.out (Nat.le_refl _) hb3); have lm3 : w.heap.size + 1 < w3.heap.size := M3.out.lt; have ls3 : w.heap.size < w3.heap.size := S3.out.lt; have s0_3 := S3.out.cell (k := 0) rfl; have s1_3 := S3.out.cell (k := 1) rfl; have s2_3 := S3.out.cell (k := 2) rfl; have m0_3 := M3.out.cell (k := 0) rfl; have m1_3 := M3.out.cell (k := 1) rfl; have a0_3 := A3.out.cell (k := 0) rfl; have a1_3 := A3.out.cell (k := 1) rfl; have a2_3 := A3.out.cell (k := 2) rfl; have la3 : w2.heap.size < w3.heap.size := A3.out.lt; clear hb3)
      | (go_at_call 12; refine (CT _ (HK.out.below B3.out)).mono ?_; rintro e w4 ⟨rfl, hb4⟩; have S4 := Lib.hid (S3.out.below hb4); have M4 := Lib.hid (M3.out.below hb4); have A4 := Lib.hid (A3.out.below hb4); have B4 := Lib.hid (b_cl B3.out (Nat.le_refl _) hb4); have lm4 : w.heap.size + 1 < w4.heap.size := M4.out.lt; have ls4 : w.heap.size < w4.heap.size := S4.out.lt; have s0_4 := S4.out.cell (k := 0) rfl; have s1_4 := S4.out.cell (k := 1) rfl; have s2_4 := S4.out.cell (k := 2) rfl; have m0_4 := M4.out.cell (k := 0) rfl; have m1_4 := M4.out.cell (k := 1) rfl; have a0_4 := A4.out.cell (k := 0) rfl; have a1_4 := A4.out.cell (k := 1) rfl; have a2_4 := A4.out.cell (k := 2) rfl; have la4 : w2.heap.size < w4.heap.size := A4.out.lt; clear hb4)
      | (go_at_call 8; refine (alive19_any _).mono ?_; rintro e wz ⟨rfl, hbz⟩))
    go_ret
    exact ⟨rfl, b_cl B4.out (Nat.le_refl _) hbz⟩
  have h0 : 0 ≤ j2 := by omega
  clear g0
  by_cases g1 : 3 < j2
  case pos =>
    have hs : stepE l0 (i1, x1, y1) m2 j2 = 2 := by unfold stepE; rw [if_pos sz]; rw [if_neg (by omega)]
    rw [stepv_bad hs (by decide)] at CS
    unfold sp3 at CS
    simp only at CS
    clear hs ck ft lk r0 few hn0 hx1 hy1 hm2 q0 z0 sz
    have S0 := Lib.hid (show Bx ((w.alloc (.cells #[.int .i64 i1, .int .i64 x1, .int .i64 y1] 24)).alloc (.cells #[.int .i64 m2, .int .i64 j2] 38)) w.heap.size 24 #[.int .i64 i1, .int .i64 x1, .int .i64 y1] from (Bx.new (W := w) _ _ rfl).alloc _)
    have M0 := Lib.hid (show Bx ((w.alloc (.cells #[.int .i64 i1, .int .i64 x1, .int .i64 y1] 24)).alloc (.cells #[.int .i64 m2, .int .i64 j2] 38)) (w.heap.size + 1) 38 #[.int .i64 m2, .int .i64 j2] from Bx.new (W := w.alloc (.cells #[.int .i64 i1, .int .i64 x1, .int .i64 y1] 24)) _ _ (by simp))
    have B0 := Lib.hid (show Below w.heap.size w ((w.alloc (.cells #[.int .i64 i1, .int .i64 x1, .int .i64 y1] 24)).alloc (.cells #[.int .i64 m2, .int .i64 j2] 38)) by (repeat (first | exact Below.refl _ _ | (refine b_st ?_ (by first | (simp; done) | (simp; omega))) | (refine b_al ?_ (Nat.le_refl _) _) | refine b_dn ?_ | refine b_dr ?_ | (refine b_cl ?_ (Nat.le_refl _) (by assumption)))))
    go_enter Try.func4, Try.ntmps4
    go_wp2_with (first
      | go_skip
      | (go_at_call 7; refine (CL _ (HK.out.below B0.out)).mono ?_; rintro e w1 ⟨rfl, hb1⟩; have S1 := Lib.hid (S0.out.below hb1); have M1 := Lib.hid (M0.out.below hb1); have B1 := Lib.hid (b_cl B0.out (Nat.le_refl _) hb1); have lm1 : w.heap.size + 1 < w1.heap.size := M1.out.lt; have ls1 : w.heap.size < w1.heap.size := S1.out.lt; have s0_1 := S1.out.cell (k := 0) rfl; have s1_1 := S1.out.cell (k := 1) rfl; have s2_1 := S1.out.cell (k := 2) rfl; have m0_1 := M1.out.cell (k := 0) rfl; have m1_1 := M1.out.cell (k := 1) rfl; clear hb1)
      | (go_at_call 18; refine (CS _ (HK.out.below B1.out)).mono ?_; rintro e w2 ⟨rfl, hb2⟩; have S2 := Lib.hid ((S1.out.below hb2).alloc (.cells #[.int .i64 0, .int .i64 0, .int .i64 0] 24)); have M2 := Lib.hid ((M1.out.below hb2).alloc (.cells #[.int .i64 0, .int .i64 0, .int .i64 0] 24)); have B2 := Lib.hid (b_al (b_cl B1.out (Nat.le_refl _) hb2) (Nat.le_refl _) (.cells #[.int .i64 0, .int .i64 0, .int .i64 0] 24)); have A2 := Lib.hid (Bx.new (W := w2) 24 #[.int .i64 0, .int .i64 0, .int .i64 0] rfl); have ls2 : w.heap.size < w2.heap.size := (S1.out.below hb2).lt; have lm2 : w.heap.size + 1 < w2.heap.size := (M1.out.below hb2).lt; have s0_2 := (S1.out.below hb2).cell (k := 0) rfl; have s1_2 := (S1.out.below hb2).cell (k := 1) rfl; have s2_2 := (S1.out.below hb2).cell (k := 2) rfl; have m0_2 := (M1.out.below hb2).cell (k := 0) rfl; have m1_2 := (M1.out.below hb2).cell (k := 1) rfl; clear hb2)
      | (go_at_call 9; refine (CC _ (HK.out.below B2.out)).mono ?_; rintro e w3 ⟨rfl, hb3⟩; have S3 := Lib.hid (S2.out.below hb3); have M3 := Lib.hid (M2.out.below hb3); have A3 := Lib.hid (A2.out.below hb3); have B3 := Lib.hid (b_cl B2.out (Nat.le_refl _) hb3); have lm3 : w.heap.size + 1 < w3.heap.size := M3.out.lt; have ls3 : w.heap.size < w3.heap.size := S3.out.lt; have s0_3 := S3.out.cell (k := 0) rfl; have s1_3 := S3.out.cell (k := 1) rfl; have s2_3 := S3.out.cell (k := 2) rfl; have m0_3 := M3.out.cell (k := 0) rfl; have m1_3 := M3.out.cell (k := 1) rfl; have a0_3 := A3.out.cell (k := 0) rfl; have a1_3 := A3.out.cell (k := 1) rfl; have a2_3 := A3.out.cell (k := 2) rfl; have la3 : w2.heap.size < w3.heap.size := A3.out.lt; clear hb3)
      | (go_at_call 12; refine (CT _ (HK.out.below B3.out)).mono ?_; rintro e w4 ⟨rfl, hb4⟩; have S4 := Lib.hid (S3.out.below hb4); have M4 := Lib.hid (M3.out.below hb4); have A4 := Lib.hid (A3.out.below hb4); have B4 := Lib.hid (b_cl B3.out (Nat.le_refl _) hb4); have lm4 : w.heap.size + 1 < w4.heap.size := M4.out.lt; have ls4 : w.heap.size < w4.heap.size := S4.out.lt; have s0_4 := S4.out.cell (k := 0) rfl; have s1_4 := S4.out.cell (k := 1) rfl; have s2_4 := S4.out.cell (k := 2) rfl; have m0_4 := M4.out.cell (k := 0) rfl; have m1_4 := M4.out.cell (k := 1) rfl; have a0_4 := A4.out.cell (k := 0) rfl; have a1_4 := A4.out.cell (k := 1) rfl; have a2_4 := A4.out.cell (k := 2) rfl; have la4 : w2.heap.size < w4.heap.size := A4.out.lt; clear hb4)
      | (go_at_call 8; refine (alive19_any _).mono ?_; rintro e wz ⟨rfl, hbz⟩))
    go_ret
    exact ⟨rfl, b_cl B4.out (Nat.le_refl _) hbz⟩
  have h1 : j2 ≤ 3 := by omega
  clear g1
  by_cases g2 : m2 < 0
  case pos =>
    have hs : stepE l0 (i1, x1, y1) m2 j2 = 4 := by unfold stepE; rw [if_pos sz]; rw [if_pos (by omega), if_neg (by omega)]
    rw [stepv_bad hs (by decide)] at CS
    unfold sp3 at CS
    simp only at CS
    clear hs ck ft lk r0 few hn0 hx1 hy1 hm2 q0 z0 sz
    have S0 := Lib.hid (show Bx ((w.alloc (.cells #[.int .i64 i1, .int .i64 x1, .int .i64 y1] 24)).alloc (.cells #[.int .i64 m2, .int .i64 j2] 38)) w.heap.size 24 #[.int .i64 i1, .int .i64 x1, .int .i64 y1] from (Bx.new (W := w) _ _ rfl).alloc _)
    have M0 := Lib.hid (show Bx ((w.alloc (.cells #[.int .i64 i1, .int .i64 x1, .int .i64 y1] 24)).alloc (.cells #[.int .i64 m2, .int .i64 j2] 38)) (w.heap.size + 1) 38 #[.int .i64 m2, .int .i64 j2] from Bx.new (W := w.alloc (.cells #[.int .i64 i1, .int .i64 x1, .int .i64 y1] 24)) _ _ (by simp))
    have B0 := Lib.hid (show Below w.heap.size w ((w.alloc (.cells #[.int .i64 i1, .int .i64 x1, .int .i64 y1] 24)).alloc (.cells #[.int .i64 m2, .int .i64 j2] 38)) by (repeat (first | exact Below.refl _ _ | (refine b_st ?_ (by first | (simp; done) | (simp; omega))) | (refine b_al ?_ (Nat.le_refl _) _) | refine b_dn ?_ | refine b_dr ?_ | (refine b_cl ?_ (Nat.le_refl _) (by assumption)))))
    go_enter Try.func4, Try.ntmps4
    go_wp2_with (first
      | go_skip
      | (go_at_call 7; refine (CL _ (HK.out.below B0.out)).mono ?_; rintro e w1 ⟨rfl, hb1⟩; have S1 := Lib.hid (S0.out.below hb1); have M1 := Lib.hid (M0.out.below hb1); have B1 := Lib.hid (b_cl B0.out (Nat.le_refl _) hb1); have lm1 : w.heap.size + 1 < w1.heap.size := M1.out.lt; have ls1 : w.heap.size < w1.heap.size := S1.out.lt; have s0_1 := S1.out.cell (k := 0) rfl; have s1_1 := S1.out.cell (k := 1) rfl; have s2_1 := S1.out.cell (k := 2) rfl; have m0_1 := M1.out.cell (k := 0) rfl; have m1_1 := M1.out.cell (k := 1) rfl; clear hb1)
      | (go_at_call 18; refine (CS _ (HK.out.below B1.out)).mono ?_; rintro e w2 ⟨rfl, hb2⟩; have S2 := Lib.hid ((S1.out.below hb2).alloc (.cells #[.int .i64 0, .int .i64 0, .int .i64 0] 24)); have M2 := Lib.hid ((M1.out.below hb2).alloc (.cells #[.int .i64 0, .int .i64 0, .int .i64 0] 24)); have B2 := Lib.hid (b_al (b_cl B1.out (Nat.le_refl _) hb2) (Nat.le_refl _) (.cells #[.int .i64 0, .int .i64 0, .int .i64 0] 24)); have A2 := Lib.hid (Bx.new (W := w2) 24 #[.int .i64 0, .int .i64 0, .int .i64 0] rfl); have ls2 : w.heap.size < w2.heap.size := (S1.out.below hb2).lt; have lm2 : w.heap.size + 1 < w2.heap.size := (M1.out.below hb2).lt; have s0_2 := (S1.out.below hb2).cell (k := 0) rfl; have s1_2 := (S1.out.below hb2).cell (k := 1) rfl; have s2_2 := (S1.out.below hb2).cell (k := 2) rfl; have m0_2 := (M1.out.below hb2).cell (k := 0) rfl; have m1_2 := (M1.out.below hb2).cell (k := 1) rfl; clear hb2)
      | (go_at_call 9; refine (CC _ (HK.out.below B2.out)).mono ?_; rintro e w3 ⟨rfl, hb3⟩; have S3 := Lib.hid (S2.out.below hb3); have M3 := Lib.hid (M2.out.below hb3); have A3 := Lib.hid (A2.out.below hb3); have B3 := Lib.hid (b_cl B2.out (Nat.le_refl _) hb3); have lm3 : w.heap.size + 1 < w3.heap.size := M3.out.lt; have ls3 : w.heap.size < w3.heap.size := S3.out.lt; have s0_3 := S3.out.cell (k := 0) rfl; have s1_3 := S3.out.cell (k := 1) rfl; have s2_3 := S3.out.cell (k := 2) rfl; have m0_3 := M3.out.cell (k := 0) rfl; have m1_3 := M3.out.cell (k := 1) rfl; have a0_3 := A3.out.cell (k := 0) rfl; have a1_3 := A3.out.cell (k := 1) rfl; have a2_3 := A3.out.cell (k := 2) rfl; have la3 : w2.heap.size < w3.heap.size := A3.out.lt; clear hb3)
      | (go_at_call 12; refine (CT _ (HK.out.below B3.out)).mono ?_; rintro e w4 ⟨rfl, hb4⟩; have S4 := Lib.hid (S3.out.below hb4); have M4 := Lib.hid (M3.out.below hb4); have A4 := Lib.hid (A3.out.below hb4); have B4 := Lib.hid (b_cl B3.out (Nat.le_refl _) hb4); have lm4 : w.heap.size + 1 < w4.heap.size := M4.out.lt; have ls4 : w.heap.size < w4.heap.size := S4.out.lt; have s0_4 := S4.out.cell (k := 0) rfl; have s1_4 := S4.out.cell (k := 1) rfl; have s2_4 := S4.out.cell (k := 2) rfl; have m0_4 := M4.out.cell (k := 0) rfl; have m1_4 := M4.out.cell (k := 1) rfl; have a0_4 := A4.out.cell (k := 0) rfl; have a1_4 := A4.out.cell (k := 1) rfl; have a2_4 := A4.out.cell (k := 2) rfl; have la4 : w2.heap.size < w4.heap.size := A4.out.lt; clear hb4)
      | (go_at_call 8; refine (alive19_any _).mono ?_; rintro e wz ⟨rfl, hbz⟩))
    go_ret
    exact ⟨rfl, b_cl B4.out (Nat.le_refl _) hbz⟩
  have h2 : 0 ≤ m2 := by omega
  clear g2
  by_cases g3 : 40319 < m2
  case pos =>
    have hs : stepE l0 (i1, x1, y1) m2 j2 = 4 := by unfold stepE; rw [if_pos sz]; rw [if_pos (by omega), if_neg (by omega)]
    rw [stepv_bad hs (by decide)] at CS
    unfold sp3 at CS
    simp only at CS
    clear hs ck ft lk r0 few hn0 hx1 hy1 hm2 q0 z0 sz
    have S0 := Lib.hid (show Bx ((w.alloc (.cells #[.int .i64 i1, .int .i64 x1, .int .i64 y1] 24)).alloc (.cells #[.int .i64 m2, .int .i64 j2] 38)) w.heap.size 24 #[.int .i64 i1, .int .i64 x1, .int .i64 y1] from (Bx.new (W := w) _ _ rfl).alloc _)
    have M0 := Lib.hid (show Bx ((w.alloc (.cells #[.int .i64 i1, .int .i64 x1, .int .i64 y1] 24)).alloc (.cells #[.int .i64 m2, .int .i64 j2] 38)) (w.heap.size + 1) 38 #[.int .i64 m2, .int .i64 j2] from Bx.new (W := w.alloc (.cells #[.int .i64 i1, .int .i64 x1, .int .i64 y1] 24)) _ _ (by simp))
    have B0 := Lib.hid (show Below w.heap.size w ((w.alloc (.cells #[.int .i64 i1, .int .i64 x1, .int .i64 y1] 24)).alloc (.cells #[.int .i64 m2, .int .i64 j2] 38)) by (repeat (first | exact Below.refl _ _ | (refine b_st ?_ (by first | (simp; done) | (simp; omega))) | (refine b_al ?_ (Nat.le_refl _) _) | refine b_dn ?_ | refine b_dr ?_ | (refine b_cl ?_ (Nat.le_refl _) (by assumption)))))
    go_enter Try.func4, Try.ntmps4
    go_wp2_with (first
      | go_skip
      | (go_at_call 7; refine (CL _ (HK.out.below B0.out)).mono ?_; rintro e w1 ⟨rfl, hb1⟩; have S1 := Lib.hid (S0.out.below hb1); have M1 := Lib.hid (M0.out.below hb1); have B1 := Lib.hid (b_cl B0.out (Nat.le_refl _) hb1); have lm1 : w.heap.size + 1 < w1.heap.size := M1.out.lt; have ls1 : w.heap.size < w1.heap.size := S1.out.lt; have s0_1 := S1.out.cell (k := 0) rfl; have s1_1 := S1.out.cell (k := 1) rfl; have s2_1 := S1.out.cell (k := 2) rfl; have m0_1 := M1.out.cell (k := 0) rfl; have m1_1 := M1.out.cell (k := 1) rfl; clear hb1)
      | (go_at_call 18; refine (CS _ (HK.out.below B1.out)).mono ?_; rintro e w2 ⟨rfl, hb2⟩; have S2 := Lib.hid ((S1.out.below hb2).alloc (.cells #[.int .i64 0, .int .i64 0, .int .i64 0] 24)); have M2 := Lib.hid ((M1.out.below hb2).alloc (.cells #[.int .i64 0, .int .i64 0, .int .i64 0] 24)); have B2 := Lib.hid (b_al (b_cl B1.out (Nat.le_refl _) hb2) (Nat.le_refl _) (.cells #[.int .i64 0, .int .i64 0, .int .i64 0] 24)); have A2 := Lib.hid (Bx.new (W := w2) 24 #[.int .i64 0, .int .i64 0, .int .i64 0] rfl); have ls2 : w.heap.size < w2.heap.size := (S1.out.below hb2).lt; have lm2 : w.heap.size + 1 < w2.heap.size := (M1.out.below hb2).lt; have s0_2 := (S1.out.below hb2).cell (k := 0) rfl; have s1_2 := (S1.out.below hb2).cell (k := 1) rfl; have s2_2 := (S1.out.below hb2).cell (k := 2) rfl; have m0_2 := (M1.out.below hb2).cell (k := 0) rfl; have m1_2 := (M1.out.below hb2).cell (k := 1) rfl; clear hb2)
      | (go_at_call 9; refine (CC _ (HK.out.below B2.out)).mono ?_; rintro e w3 ⟨rfl, hb3⟩; have S3 := Lib.hid (S2.out.below hb3); have M3 := Lib.hid (M2.out.below hb3); have A3 := Lib.hid (A2.out.below hb3); have B3 := Lib.hid (b_cl B2.out (Nat.le_refl _) hb3); have lm3 : w.heap.size + 1 < w3.heap.size := M3.out.lt; have ls3 : w.heap.size < w3.heap.size := S3.out.lt; have s0_3 := S3.out.cell (k := 0) rfl; have s1_3 := S3.out.cell (k := 1) rfl; have s2_3 := S3.out.cell (k := 2) rfl; have m0_3 := M3.out.cell (k := 0) rfl; have m1_3 := M3.out.cell (k := 1) rfl; have a0_3 := A3.out.cell (k := 0) rfl; have a1_3 := A3.out.cell (k := 1) rfl; have a2_3 := A3.out.cell (k := 2) rfl; have la3 : w2.heap.size < w3.heap.size := A3.out.lt; clear hb3)
      | (go_at_call 12; refine (CT _ (HK.out.below B3.out)).mono ?_; rintro e w4 ⟨rfl, hb4⟩; have S4 := Lib.hid (S3.out.below hb4); have M4 := Lib.hid (M3.out.below hb4); have A4 := Lib.hid (A3.out.below hb4); have B4 := Lib.hid (b_cl B3.out (Nat.le_refl _) hb4); have lm4 : w.heap.size + 1 < w4.heap.size := M4.out.lt; have ls4 : w.heap.size < w4.heap.size := S4.out.lt; have s0_4 := S4.out.cell (k := 0) rfl; have s1_4 := S4.out.cell (k := 1) rfl; have s2_4 := S4.out.cell (k := 2) rfl; have m0_4 := M4.out.cell (k := 0) rfl; have m1_4 := M4.out.cell (k := 1) rfl; have a0_4 := A4.out.cell (k := 0) rfl; have a1_4 := A4.out.cell (k := 1) rfl; have a2_4 := A4.out.cell (k := 2) rfl; have la4 : w2.heap.size < w4.heap.size := A4.out.lt; clear hb4)
      | (go_at_call 8; refine (alive19_any _).mono ?_; rintro e wz ⟨rfl, hbz⟩))
    go_ret
    exact ⟨rfl, b_cl B4.out (Nat.le_refl _) hbz⟩
  have h3 : m2 ≤ 40319 := by omega
  clear g3
  have hs : stepE l0 (i1, x1, y1) m2 j2 = 0 := by unfold stepE; rw [if_pos sz, if_pos (by omega), if_pos (by omega)]
  have CR := fun W (h : RdK W A0 l0) => refstep19_any A0 n0 c0 l0 hn0 i1 x1 y1 m2 j2 W h few (by omega) (checkt_zero ck).1 ft
  rw [stepv_ok hs] at CS
  unfold setT at CS
  obtain ⟨⟨p0, p1, p2⟩, hP⟩ : ∃ P, stepT l0 (i1, x1, y1) j2 = P := ⟨_, rfl⟩
  rw [hP] at CS CR
  unfold sp3 at CS CR
  simp only at CS CR
  generalize b0 l0 (i1, x1, y1) j2 = t0 at CS CR
  generalize b1 l0 (i1, x1, y1) j2 = t1 at CS CR
  generalize b2 l0 (i1, x1, y1) m2 j2 = t2 at CS CR
  generalize b3 (i1, x1, y1) j2 = t3 at CS CR
  clear hs sz hP ck ft lk r0 few hn0 hx1 hy1 hm2 q0 z0
  have S0 := Lib.hid (show Bx ((w.alloc (.cells #[.int .i64 i1, .int .i64 x1, .int .i64 y1] 24)).alloc (.cells #[.int .i64 m2, .int .i64 j2] 38)) w.heap.size 24 #[.int .i64 i1, .int .i64 x1, .int .i64 y1] from (Bx.new (W := w) _ _ rfl).alloc _)
  have M0 := Lib.hid (show Bx ((w.alloc (.cells #[.int .i64 i1, .int .i64 x1, .int .i64 y1] 24)).alloc (.cells #[.int .i64 m2, .int .i64 j2] 38)) (w.heap.size + 1) 38 #[.int .i64 m2, .int .i64 j2] from Bx.new (W := w.alloc (.cells #[.int .i64 i1, .int .i64 x1, .int .i64 y1] 24)) _ _ (by simp))
  have B0 := Lib.hid (show Below w.heap.size w ((w.alloc (.cells #[.int .i64 i1, .int .i64 x1, .int .i64 y1] 24)).alloc (.cells #[.int .i64 m2, .int .i64 j2] 38)) by (repeat (first | exact Below.refl _ _ | (refine b_st ?_ (by first | (simp; done) | (simp; omega))) | (refine b_al ?_ (Nat.le_refl _) _) | refine b_dn ?_ | refine b_dr ?_ | (refine b_cl ?_ (Nat.le_refl _) (by assumption)))))
  go_enter Try.func4, Try.ntmps4
  go_wp2_with (first
    | go_skip
    | (go_at_call 7; refine (CL _ (HK.out.below B0.out)).mono ?_; rintro e w1 ⟨rfl, hb1⟩; have S1 := Lib.hid (S0.out.below hb1); have M1 := Lib.hid (M0.out.below hb1); have B1 := Lib.hid (b_cl B0.out (Nat.le_refl _) hb1); have lm1 : w.heap.size + 1 < w1.heap.size := M1.out.lt; have ls1 : w.heap.size < w1.heap.size := S1.out.lt; have s0_1 := S1.out.cell (k := 0) rfl; have s1_1 := S1.out.cell (k := 1) rfl; have s2_1 := S1.out.cell (k := 2) rfl; have m0_1 := M1.out.cell (k := 0) rfl; have m1_1 := M1.out.cell (k := 1) rfl; clear hb1)
    | (go_at_call 18; refine (CS _ (HK.out.below B1.out)).mono ?_; rintro e w2 ⟨rfl, hb2⟩; have S2 := Lib.hid ((S1.out.below hb2).alloc (.cells #[.int .i64 p0, .int .i64 p1, .int .i64 p2] 24)); have M2 := Lib.hid ((M1.out.below hb2).alloc (.cells #[.int .i64 p0, .int .i64 p1, .int .i64 p2] 24)); have B2 := Lib.hid (b_al (b_cl B1.out (Nat.le_refl _) hb2) (Nat.le_refl _) (.cells #[.int .i64 p0, .int .i64 p1, .int .i64 p2] 24)); have A2 := Lib.hid (Bx.new (W := w2) 24 #[.int .i64 p0, .int .i64 p1, .int .i64 p2] rfl); have ls2 : w.heap.size < w2.heap.size := (S1.out.below hb2).lt; have lm2 : w.heap.size + 1 < w2.heap.size := (M1.out.below hb2).lt; have s0_2 := (S1.out.below hb2).cell (k := 0) rfl; have s1_2 := (S1.out.below hb2).cell (k := 1) rfl; have s2_2 := (S1.out.below hb2).cell (k := 2) rfl; have m0_2 := (M1.out.below hb2).cell (k := 0) rfl; have m1_2 := (M1.out.below hb2).cell (k := 1) rfl; clear hb2)
    | (go_at_call 9; refine (CC _ (HK.out.below B2.out)).mono ?_; rintro e w3 ⟨rfl, hb3⟩; have S3 := Lib.hid (S2.out.below hb3); have M3 := Lib.hid (M2.out.below hb3); have A3 := Lib.hid (A2.out.below hb3); have B3 := Lib.hid (b_cl B2.out (Nat.le_refl _) hb3); have lm3 : w.heap.size + 1 < w3.heap.size := M3.out.lt; have ls3 : w.heap.size < w3.heap.size := S3.out.lt; have s0_3 := S3.out.cell (k := 0) rfl; have s1_3 := S3.out.cell (k := 1) rfl; have s2_3 := S3.out.cell (k := 2) rfl; have m0_3 := M3.out.cell (k := 0) rfl; have m1_3 := M3.out.cell (k := 1) rfl; have a0_3 := A3.out.cell (k := 0) rfl; have a1_3 := A3.out.cell (k := 1) rfl; have a2_3 := A3.out.cell (k := 2) rfl; have la3 : w2.heap.size < w3.heap.size := A3.out.lt; clear hb3)
    | (go_at_call 12; refine (CT _ (HK.out.below B3.out)).mono ?_; rintro e w4 ⟨rfl, hb4⟩; have S4 := Lib.hid (S3.out.below hb4); have M4 := Lib.hid (M3.out.below hb4); have A4 := Lib.hid (A3.out.below hb4); have B4 := Lib.hid (b_cl B3.out (Nat.le_refl _) hb4); have lm4 : w.heap.size + 1 < w4.heap.size := M4.out.lt; have ls4 : w.heap.size < w4.heap.size := S4.out.lt; have s0_4 := S4.out.cell (k := 0) rfl; have s1_4 := S4.out.cell (k := 1) rfl; have s2_4 := S4.out.cell (k := 2) rfl; have m0_4 := M4.out.cell (k := 0) rfl; have m1_4 := M4.out.cell (k := 1) rfl; have a0_4 := A4.out.cell (k := 0) rfl; have a1_4 := A4.out.cell (k := 1) rfl; have a2_4 := A4.out.cell (k := 2) rfl; have la4 : w2.heap.size < w4.heap.size := A4.out.lt; clear hb4)
    | (go_at_call 19; refine (CR _ (HK.out.below B4.out)).mono ?_; rintro e w5 ⟨rfl, hb5⟩; have A5 := Lib.hid (A4.out.below hb5); have B5 := Lib.hid (b_cl B4.out (Nat.le_refl _) hb5); have la5 : w2.heap.size < w5.heap.size := A5.out.lt; clear hb5)
    | (refine wpList_store_box rfl 24 _ _ rfl w5.heap.size #[.int .i64 p0, .int .i64 p1, .int .i64 p2] rfl rfl 24 #[.int .i64 0, .int .i64 0, .int .i64 0] ((Bx.new (W := w5) _ _ rfl).alloc _) (by kernel_rfl) rfl (one3 _ _ _) (fun w6 u => ?_); have N6 := Lib.hid u.box; have T6 := Lib.hid (u.bx (Bx.new (W := w5.alloc (.cells #[.int .i64 0, .int .i64 0, .int .i64 0] 24)) 41 #[.bool false, .bool false, .bool false, .bool false] (show w5.heap.size + 1 = _ by simp)) (by omega)); have A6 := Lib.hid (u.bx ((A5.out.alloc _).alloc _) (by omega)); have B6 := Lib.hid ((b_al (b_al B5.out (Nat.le_refl _) _) (Nat.le_refl _) _).trans (u.bel _ (by have := B5.out.size; omega))); clear u)
    | (refine wpList_store_box rfl 41 _ _ rfl (w5.heap.size + 1) #[.bool t0, .bool t1, .bool t2, .bool t3] rfl rfl 41 #[.bool false, .bool false, .bool false, .bool false] T6.out (by kernel_rfl) rfl (oneb _ _ _ _) (fun w7 u => ?_); have T7 := Lib.hid u.box; have N7 := Lib.hid (u.bx N6.out (by omega)); have A7 := Lib.hid (u.bx A6.out (by omega)); have B7 := Lib.hid (B6.out.trans (u.bel _ (by have := B5.out.size; omega))); clear u))
  go_loopw [13, 14] (fun a s wr => w7 = wr ∧ ((s = .int .i64 0 ∧ a = .int .i64 (0)) ∨ (s = .int .i64 1 ∧ a = .int .i64 (bitN t0 1024)) ∨ (s = .int .i64 2 ∧ a = .int .i64 (bitN t0 1024 + bitN t1 2048)) ∨ (s = .int .i64 3 ∧ a = .int .i64 (bitN t0 1024 + bitN t1 2048 + bitN t2 4096)) ∨ (s = .int .i64 4 ∧ a = .int .i64 (bitN t0 1024 + bitN t1 2048 + bitN t2 4096 + bitN t3 8192)))) (fun _ s _ => 4 - (intOf s).toNat)
  case atStart => exact ⟨rfl, Or.inl ⟨rfl, rfl⟩⟩
  case round =>
    obtain ⟨rfl, H⟩ := hrel
    have lt7 := T7.out.lt
    rcases H with ⟨rfl, rfl⟩ | ⟨rfl, rfl⟩ | ⟨rfl, rfl⟩ | ⟨rfl, rfl⟩ | ⟨rfl, rfl⟩
    · have zt : w7.cell? ⟨w5.heap.size + 1, 0, none⟩ = some (.bool t0) := T7.out.cell (k := 0) rfl
      have bd := bit_top t0 t1 t2 t3
      by_cases ht : t0 = true
      · subst ht
        have HT := Lib.hid (show (1024 : Int) = bitN true 1024 from rfl)
        obtain ⟨bd1, bd2, bd3, bd4, bd5, bd6⟩ := bd
        go_wp2
        go_roundw
        case rel => exact ⟨trivial, Or.inr (Or.inl ⟨by go_num, congrArg (Value.int .i64) HT.out⟩)⟩
        case measure => simp [intOf]
      · have ht2 : t0 = false := by simpa using ht
        subst ht2
        have HT := Lib.hid (show (0 : Int) = bitN false 1024 by simp [bitN])
        clear ht bd
        go_wp2
        go_roundw
        case rel => exact ⟨trivial, Or.inr (Or.inl ⟨by go_num, congrArg (Value.int .i64) HT.out⟩)⟩
        case measure => simp [intOf]
    · have zt : w7.cell? ⟨w5.heap.size + 1, 1, none⟩ = some (.bool t1) := T7.out.cell (k := 1) rfl
      have bd := bit_top t0 t1 t2 t3
      by_cases ht : t1 = true
      · subst ht
        have HT := Lib.hid (show (bitN t0 1024 + 2048 : Int) = bitN t0 1024 + bitN true 2048 from rfl)
        obtain ⟨bd1, bd2, bd3, bd4, bd5, bd6⟩ := bd
        go_wp2
        go_roundw
        case rel => exact ⟨trivial, Or.inr (Or.inr (Or.inl ⟨by go_num, congrArg (Value.int .i64) HT.out⟩))⟩
        case measure => simp [intOf]
      · have ht2 : t1 = false := by simpa using ht
        subst ht2
        have HT := Lib.hid (show (bitN t0 1024 : Int) = bitN t0 1024 + bitN false 2048 by simp [bitN])
        clear ht bd
        go_wp2
        go_roundw
        case rel => exact ⟨trivial, Or.inr (Or.inr (Or.inl ⟨by go_num, congrArg (Value.int .i64) HT.out⟩))⟩
        case measure => simp [intOf]
    · have zt : w7.cell? ⟨w5.heap.size + 1, 2, none⟩ = some (.bool t2) := T7.out.cell (k := 2) rfl
      have bd := bit_top t0 t1 t2 t3
      by_cases ht : t2 = true
      · subst ht
        have HT := Lib.hid (show (bitN t0 1024 + bitN t1 2048 + 4096 : Int) = bitN t0 1024 + bitN t1 2048 + bitN true 4096 from rfl)
        obtain ⟨bd1, bd2, bd3, bd4, bd5, bd6⟩ := bd
        go_wp2
        go_roundw
        case rel => exact ⟨trivial, Or.inr (Or.inr (Or.inr (Or.inl ⟨by go_num, congrArg (Value.int .i64) HT.out⟩)))⟩
        case measure => simp [intOf]
      · have ht2 : t2 = false := by simpa using ht
        subst ht2
        have HT := Lib.hid (show (bitN t0 1024 + bitN t1 2048 : Int) = bitN t0 1024 + bitN t1 2048 + bitN false 4096 by simp [bitN])
        clear ht bd
        go_wp2
        go_roundw
        case rel => exact ⟨trivial, Or.inr (Or.inr (Or.inr (Or.inl ⟨by go_num, congrArg (Value.int .i64) HT.out⟩)))⟩
        case measure => simp [intOf]
    · have zt : w7.cell? ⟨w5.heap.size + 1, 3, none⟩ = some (.bool t3) := T7.out.cell (k := 3) rfl
      have bd := bit_top t0 t1 t2 t3
      by_cases ht : t3 = true
      · subst ht
        have HT := Lib.hid (show (bitN t0 1024 + bitN t1 2048 + bitN t2 4096 + 8192 : Int) = bitN t0 1024 + bitN t1 2048 + bitN t2 4096 + bitN true 8192 from rfl)
        obtain ⟨bd1, bd2, bd3, bd4, bd5, bd6⟩ := bd
        go_wp2
        go_roundw
        case rel => exact ⟨trivial, Or.inr (Or.inr (Or.inr (Or.inr (⟨by go_num, congrArg (Value.int .i64) HT.out⟩))))⟩
        case measure => simp [intOf]
      · have ht2 : t3 = false := by simpa using ht
        subst ht2
        have HT := Lib.hid (show (bitN t0 1024 + bitN t1 2048 + bitN t2 4096 : Int) = bitN t0 1024 + bitN t1 2048 + bitN t2 4096 + bitN false 8192 by simp [bitN])
        clear ht bd
        go_wp2
        go_roundw
        case rel => exact ⟨trivial, Or.inr (Or.inr (Or.inr (Or.inr (⟨by go_num, congrArg (Value.int .i64) HT.out⟩))))⟩
        case measure => simp [intOf]
    · have a0_7 := A7.out.cell (k := 0) rfl
      have a1_7 := A7.out.cell (k := 1) rfl
      have a2_7 := A7.out.cell (k := 2) rfl
      have n0_7 := N7.out.cell (k := 0) rfl
      have n1_7 := N7.out.cell (k := 1) rfl
      have n2_7 := N7.out.cell (k := 2) rfl
      generalize bitN t0 1024 + bitN t1 2048 + bitN t2 4096 + bitN t3 8192 = sv at *
      go_wp2_with (first
        | go_skip
        | (go_at_call 8; refine (alive19_any _).mono ?_; rintro e wz ⟨rfl, hbz⟩))
      go_ret
      exact ⟨rfl, b_cl B7.out (Nat.le_refl _) hbz⟩

set_option maxRecDepth 100000 in
theorem lifted (os : Os) (started : os.Started) (H : Type) (enc : TypeId × Value → H) :
    ReturnsInHanded {} Try.checked os 4 .any (Rows.errandStepsSpec.pre6 enc Try.prog Try.f4 Rows.errandStepsRow.domain false) (Rows.errandStepsSpec.post enc Try.prog Try.f4 false true false false) := by
  refine returnsInHanded_of_change (C := Try.checked) own started (by kernel_rfl) Try.func4
    (ChangeSpec.witness6 (enc := enc) (C := Try.checked) false ⟨#[], #[.slice none 0 0, .agg #[.int .i64 0, .int .i64 0, .int .i64 0], .agg #[.int .i64 0, .int .i64 0]], []⟩ 8 (by kernel_rfl) (by kernel_rfl) (by kernel_rfl) (by kernel_rfl)) ?_
  intro W base args ds gs before hval0 hW hcnd _
  have hval : ∀ (j : Nat) t v, Try.f4.params[j]? = some t → args[j]? = some v → Value.okWide Try.prog W .any base t v := hval0
  have hW' := hW
  obtain ⟨p, q, hA0, hV, rfl, hfz, hnd⟩ := hW
  have hA : DataW.TrodAll enc Try.prog W 0 (fun _ => true) true Try.f4.params.toList args.toList ds p := hA0
  rw [Try.params4] at hA hval
  obtain ⟨v0, vs0, d0, ds0, p0, q0, hargs, rfl, rfl, h0, r0⟩ := trodAll_cons hA
  obtain ⟨v1, vs1, d1, ds1, p1, q1, rfl, rfl, rfl, h1, r1⟩ := trodAll_cons r0
  obtain ⟨v2, vs2, d2, ds2, p2, q2, rfl, rfl, rfl, h2, r2⟩ := trodAll_cons r1
  obtain ⟨rfl, rfl, rfl⟩ := trodAll_nil r2
  obtain rfl : args = #[v0, v1, v2] := by cases args; simp_all
  obtain ⟨rfl, rfl⟩ := trodVars_none hV
  have k0 := h0
  have lt0 : ∀ x ∈ p0, x.block < W.heap.size := by obtain ⟨m, hm⟩ := k0; exact DataW.trod_lt m _ _ _ hm
  obtain ⟨A0, n0, c0, l0, rfl, hn0, rd0, q0, z0⟩ := open_tasks (hval 0 22 v0 rfl rfl) h0
  have k1 := h1
  have lt1 : ∀ x ∈ p1, x.block < W.heap.size := by obtain ⟨m, hm⟩ := k1; exact DataW.trod_lt m _ _ _ hm
  obtain ⟨i1, x1, y1, rfl, _, _, wa1, wb1, wc1⟩ := open_spot (hval 1 24 v1 rfl rfl) h1
  have k2 := h2
  have lt2 : ∀ x ∈ p2, x.block < W.heap.size := by obtain ⟨m, hm⟩ := k2; exact DataW.trod_lt m _ _ _ hm
  obtain ⟨m2, j2, rfl, _, _, wa2, wb2⟩ := open_minute (hval 2 38 v2 rfl rfl) h2
  clear hA0 hval0
  refine (walk W A0 n0 c0 l0 hn0 rd0 q0 z0 i1 x1 y1 (wf_i64 wb1) (wf_i64 wc1) m2 j2 (wf_i64 wa2)).mono fun e W' ⟨he, bel⟩ => ?_
  subst he
  exact ⟨_, rfl, _, _, _, [], _, [], hW', trodAll_mk1 (shut_bool Try.underlying4 _), (trodAll_cons_mk (Below.trod laidOut (by kernel_rfl) (of_decide_eq_true (by kernel_rfl)) k0 bel lt0) (trodAll_cons_mk (Below.trod laidOut (by kernel_rfl) (of_decide_eq_true (by kernel_rfl)) k1 bel lt1) (trodAll_cons_mk (Below.trod laidOut (by kernel_rfl) (of_decide_eq_true (by kernel_rfl)) k2 bel lt2) trodAll_mk0))), rfl, bel.frame _, fun h => by cases h⟩

theorem over : Rows.errandStepsRow.holds Try.pinned (OpenSpec.ofChange Rows.errandStepsSpec) :=
  OpenClaim.holds_of_wide 4 Try.f4 rfl rfl rfl rfl rfl rfl rfl ⟨rfl, rfl, rfl, rfl, rfl⟩ rfl rfl rfl rfl rfl (by kernel_rfl) Try.func4 (by kernel_rfl)
    (of_decide_eq_true (by kernel_rfl)) (by unfold Func.isWrapper; first | (rw [if_pos (by decide +kernel)]; kernel_rfl) | (rw [if_neg (by decide +kernel)]; exact ⟨rfl, rfl⟩))
    (fun os started H enc _ => lifted os started H enc)

theorem proved : Rows.ErrandStepsSaid := over
#print axioms proved
end Go.Proofs.Ythgieanhlmnneaa.errandSteps
