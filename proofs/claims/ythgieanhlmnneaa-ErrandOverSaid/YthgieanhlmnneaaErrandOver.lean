/- Over of tasks answers as the document says. Conditions: none (of more than forty tasks, of a task with more than twenty windows, or of a record of more than three thousand minutes, the law asks the example alone). -/
import Derived.Test.YthgieanhlmnneaaRows
import Derived.Test.YthgieanhlmnneaaBase
import Derived.Test.YthgieanhlmnneaaRow
import Derived.Test.YthgieanhlmnneaaBox
import Derived.Test.YthgieanhlmnneaaBoxRes
import Derived.Test.YthgieanhlmnneaaErrandMath
import Derived.Test.YthgieanhlmnneaaErrandHeap
import Derived.Test.YthgieanhlmnneaaErrandMath2
import Derived.Test.YthgieanhlmnneaaErrandOpen
import Derived.Test.YthgieanhlmnneaaErrandLight
import Derived.Test.YthgieanhlmnneaaErrandAlive
import Derived.Test.YthgieanhlmnneaaErrandPast
import Derived.Test.YthgieanhlmnneaaErrandOverC
import Derived.Test.YthgieanhlmnneaaErrandROver
import Derived.Test.YthgieanhlmnneaaErrandEq
import Derived.Test.YthgieanhlmnneaaRecArg
import Derived.WalkKit
import Derived.WalkSmall
import Derived.WalkSpells
import Derived.ProofKit
import Derived.OpenShut
import Derived.ShutString
import Derived.ChangeOld
import Derived.Below
import Derived.Lib.Hide
import Derived.OwnWalk
namespace Go.Proofs.Ythgieanhlmnneaa.errandOver
open Go.ChangeShapes Go.WideShapes Go.ChangeAt Go.RowKit
open Go.ChangeMaps (open_string shut_string)
set_option linter.unusedVariables false

theorem own : ownKnob Try.prog.godebug = none := by kernel_rfl
theorem laidOut : laidOutB Try.prog = true := by kernel_rfl

open Classical in
set_option maxRecDepth 20000 in
set_option maxHeartbeats 4000000 in
theorem walk (w : World) (A0 : Option Addr) (n0 c0 : Nat) (l0 : List Tk) (hn0 : l0.length = n0) (r0 : RdK w A0 l0) (q0 : n0 ≤ c0) (z0 : A0 = none → c0 = 0) (i1 x1 y1 : Int) (hx1 : -9223372036854775808 ≤ x1 ∧ x1 ≤ 9223372036854775807) (hy1 : -9223372036854775808 ≤ y1 ∧ y1 ≤ 9223372036854775807) (j2 a2 b2 : Int) :
    Calls Try.prog 5 #[.slice A0 n0 c0, .agg #[.int .i64 i1, .int .i64 x1, .int .i64 y1], .agg #[.int .i64 j2, .int .i64 a2, .int .i64 b2]] w fun e w' => e = .returned (.bool true) ∧ Below w.heap.size w w' := by
  have CL := fun W (h : RdK W A0 l0) => light19_any A0 n0 c0 l0 hn0 W h
  have HK := Lib.hid r0
  by_cases lk : LightK l0
  case neg =>
    rw [decide_eq_false lk] at CL
    clear lk r0
    have S0 := Lib.hid (show Bx ((w.alloc (.cells #[.int .i64 i1, .int .i64 x1, .int .i64 y1] 24)).alloc (.cells #[.int .i64 j2, .int .i64 a2, .int .i64 b2] 46)) w.heap.size 24 #[.int .i64 i1, .int .i64 x1, .int .i64 y1] from (Bx.new (W := w) _ _ rfl).alloc _)
    have R0 := Lib.hid (show Bx ((w.alloc (.cells #[.int .i64 i1, .int .i64 x1, .int .i64 y1] 24)).alloc (.cells #[.int .i64 j2, .int .i64 a2, .int .i64 b2] 46)) (w.heap.size + 1) 46 #[.int .i64 j2, .int .i64 a2, .int .i64 b2] from Bx.new (W := w.alloc (.cells #[.int .i64 i1, .int .i64 x1, .int .i64 y1] 24)) _ _ (by simp))
    have B0 := Lib.hid (show Below w.heap.size w ((w.alloc (.cells #[.int .i64 i1, .int .i64 x1, .int .i64 y1] 24)).alloc (.cells #[.int .i64 j2, .int .i64 a2, .int .i64 b2] 46)) by (repeat (first | exact Below.refl _ _ | (refine b_st ?_ (by first | (simp; done) | (simp; omega))) | (refine b_al ?_ (Nat.le_refl _) _) | refine b_dn ?_ | refine b_dr ?_ | (refine b_cl ?_ (Nat.le_refl _) (by assumption)))))
    go_enter Try.func5, Try.ntmps5
    go_wp2_with (first
      | go_skip
      | (go_at_call 7; refine (CL _ (HK.out.below (by (repeat (first | exact Below.refl _ _ | (refine b_st ?_ (by first | (simp; done) | (simp; omega))) | (refine b_al ?_ (Nat.le_refl _) _) | refine b_dn ?_ | refine b_dr ?_ | (refine b_cl ?_ (Nat.le_refl _) (by assumption))))))).mono ?_; rintro e w1 ⟨rfl, hb1⟩; have S1 := Lib.hid (S0.out.below hb1); have R1 := Lib.hid (R0.out.below hb1); have B1 := Lib.hid (b_cl B0.out (Nat.le_refl _) hb1); have lt1 := R1.out.lt; have ls1 := S1.out.lt; have s0_1 := S1.out.cell (k := 0) rfl; have r0_1 := R1.out.cell (k := 0) rfl; have s1_1 := S1.out.cell (k := 1) rfl; have r1_1 := R1.out.cell (k := 1) rfl; have s2_1 := S1.out.cell (k := 2) rfl; have r2_1 := R1.out.cell (k := 2) rfl; clear hb1)
      | (go_at_call 8; refine (alive19_any _).mono ?_; rintro e w9 ⟨rfl, hb9⟩))
    go_ret
    exact ⟨rfl, b_cl B1.out (Nat.le_refl _) hb9⟩
  rw [decide_eq_true lk] at CL
  have CO := fun W (h : RdK W A0 l0) => over19_any A0 n0 c0 l0 hn0 i1 x1 y1 j2 a2 b2 W h lk.few hx1 hy1
  have CR := fun W (h : RdK W A0 l0) => refover19_any A0 n0 c0 l0 hn0 i1 x1 y1 j2 a2 b2 W h lk.few
  clear lk r0 hn0 hx1 hy1 q0 z0
  obtain ⟨⟨⟨u0, u1, u2⟩, ⟨v0, v1, v2, v3⟩, e0⟩, hV⟩ : ∃ V, overV l0 (i1, x1, y1) j2 a2 b2 = V := ⟨_, rfl⟩
  rw [hV] at CO CR
  unfold sp3 fs4 at CO CR
  simp only at CO CR
  clear hV
  by_cases g0 : a2 < 0
  case pos =>
    have S0 := Lib.hid (show Bx ((w.alloc (.cells #[.int .i64 i1, .int .i64 x1, .int .i64 y1] 24)).alloc (.cells #[.int .i64 j2, .int .i64 a2, .int .i64 b2] 46)) w.heap.size 24 #[.int .i64 i1, .int .i64 x1, .int .i64 y1] from (Bx.new (W := w) _ _ rfl).alloc _)
    have R0 := Lib.hid (show Bx ((w.alloc (.cells #[.int .i64 i1, .int .i64 x1, .int .i64 y1] 24)).alloc (.cells #[.int .i64 j2, .int .i64 a2, .int .i64 b2] 46)) (w.heap.size + 1) 46 #[.int .i64 j2, .int .i64 a2, .int .i64 b2] from Bx.new (W := w.alloc (.cells #[.int .i64 i1, .int .i64 x1, .int .i64 y1] 24)) _ _ (by simp))
    have B0 := Lib.hid (show Below w.heap.size w ((w.alloc (.cells #[.int .i64 i1, .int .i64 x1, .int .i64 y1] 24)).alloc (.cells #[.int .i64 j2, .int .i64 a2, .int .i64 b2] 46)) by (repeat (first | exact Below.refl _ _ | (refine b_st ?_ (by first | (simp; done) | (simp; omega))) | (refine b_al ?_ (Nat.le_refl _) _) | refine b_dn ?_ | refine b_dr ?_ | (refine b_cl ?_ (Nat.le_refl _) (by assumption)))))
    go_enter Try.func5, Try.ntmps5
    go_wp2_with (first
      | go_skip
      | (go_at_call 7; refine (CL _ (HK.out.below (by (repeat (first | exact Below.refl _ _ | (refine b_st ?_ (by first | (simp; done) | (simp; omega))) | (refine b_al ?_ (Nat.le_refl _) _) | refine b_dn ?_ | refine b_dr ?_ | (refine b_cl ?_ (Nat.le_refl _) (by assumption))))))).mono ?_; rintro e w1 ⟨rfl, hb1⟩; have S1 := Lib.hid (S0.out.below hb1); have R1 := Lib.hid (R0.out.below hb1); have B1 := Lib.hid (b_cl B0.out (Nat.le_refl _) hb1); have lt1 := R1.out.lt; have ls1 := S1.out.lt; have s0_1 := S1.out.cell (k := 0) rfl; have r0_1 := R1.out.cell (k := 0) rfl; have s1_1 := S1.out.cell (k := 1) rfl; have r1_1 := R1.out.cell (k := 1) rfl; have s2_1 := S1.out.cell (k := 2) rfl; have r2_1 := R1.out.cell (k := 2) rfl; clear hb1)
      | (go_at_call 20; refine (CO _ (HK.out.below B1.out)).mono ?_; rintro e w2 ⟨rfl, hb2⟩; have S2 := Lib.hid (S1.out.below hb2); have R2 := Lib.hid (R1.out.below hb2); have B2 := Lib.hid (b_cl B1.out (Nat.le_refl _) hb2); have ls2 : w.heap.size < w2.heap.size := S2.out.lt; have lr2 : w.heap.size + 1 < w2.heap.size := R2.out.lt; clear hb2)
      | (refine wpList_store_box rfl 24 _ _ rfl w2.heap.size #[.int .i64 u0, .int .i64 u1, .int .i64 u2] rfl rfl 24 #[.int .i64 0, .int .i64 0, .int .i64 0] ((Bx.new (W := w2) _ _ rfl).alloc _) (by kernel_rfl) rfl (one3 _ _ _) (fun w3 u => ?_); have N3 := Lib.hid u.box; have F3 := Lib.hid (u.bx (Bx.new (W := w2.alloc (.cells #[.int .i64 0, .int .i64 0, .int .i64 0] 24)) 48 #[.int .i64 0, .int .i64 0, .int .i64 0, .int .i64 0] (show w2.heap.size + 1 = _ by simp)) (by omega)); have S3 := Lib.hid (u.bx ((S2.out.alloc _).alloc _) (by omega)); have R3 := Lib.hid (u.bx ((R2.out.alloc _).alloc _) (by omega)); have B3 := Lib.hid ((b_al (b_al B2.out (Nat.le_refl _) _) (Nat.le_refl _) _).trans (u.bel _ (by omega))); have z3 := u.size; (try simp at z3); clear u)
      | (refine wpList_store_box rfl 48 _ _ rfl (w2.heap.size + 1) #[.int .i64 v0, .int .i64 v1, .int .i64 v2, .int .i64 v3] rfl rfl 48 #[.int .i64 0, .int .i64 0, .int .i64 0, .int .i64 0] F3.out (by kernel_rfl) rfl (one4 _ _ _ _) (fun w4 u => ?_); have F4' := Lib.hid u.box; have N4 := Lib.hid (u.bx N3.out (by omega)); have S4 := Lib.hid (u.bx S3.out (by omega)); have R4 := Lib.hid (u.bx R3.out (by omega)); have B4 := Lib.hid (B3.out.trans (u.bel _ (by omega))); have z4 := u.size; have s0_4 := S4.out.cell (k := 0) rfl; have s1_4 := S4.out.cell (k := 1) rfl; have s2_4 := S4.out.cell (k := 2) rfl; have r0_4 := R4.out.cell (k := 0) rfl; have r1_4 := R4.out.cell (k := 1) rfl; have r2_4 := R4.out.cell (k := 2) rfl; clear u)
      | (go_at_call 21; refine (CR _ (HK.out.below B4.out)).mono ?_; rintro e w5 ⟨rfl, hb5⟩; have F5 := Lib.hid (F4'.out.below hb5); have N5 := Lib.hid (N4.out.below hb5); have B5 := Lib.hid (b_cl B4.out (Nat.le_refl _) hb5); have lf5 : w2.heap.size + 1 < w5.heap.size := F5.out.lt; have ln5 : w2.heap.size < w5.heap.size := N5.out.lt; clear hb5)
      | (refine wpList_store_box rfl 24 _ _ rfl w5.heap.size #[.int .i64 u0, .int .i64 u1, .int .i64 u2] rfl rfl 24 #[.int .i64 0, .int .i64 0, .int .i64 0] ((Bx.new (W := w5) _ _ rfl).alloc _) (by kernel_rfl) rfl (one3 _ _ _) (fun w6 u => ?_); have M6 := Lib.hid u.box; have G6 := Lib.hid (u.bx (Bx.new (W := w5.alloc (.cells #[.int .i64 0, .int .i64 0, .int .i64 0] 24)) 47 #[.int .i64 0, .int .i64 0, .int .i64 0, .int .i64 0] (show w5.heap.size + 1 = _ by simp)) (by omega)); have F6 := Lib.hid (u.bx ((F5.out.alloc _).alloc _) (by omega)); have N6 := Lib.hid (u.bx ((N5.out.alloc _).alloc _) (by omega)); have B6 := Lib.hid ((b_al (b_al B5.out (Nat.le_refl _) _) (Nat.le_refl _) _).trans (u.bel _ (by have := B5.out.size; omega))); clear u)
      | (refine wpList_store_box rfl 47 _ _ rfl (w5.heap.size + 1) #[.int .i64 v0, .int .i64 v1, .int .i64 v2, .int .i64 v3] rfl rfl 47 #[.int .i64 0, .int .i64 0, .int .i64 0, .int .i64 0] G6.out (by kernel_rfl) rfl (one4 _ _ _ _) (fun w7 u => ?_); have G7 := Lib.hid u.box; have M7 := Lib.hid (u.bx M6.out (by omega)); have F7 := Lib.hid (u.bx F6.out (by omega)); have N7 := Lib.hid (u.bx N6.out (by omega)); have B7 := Lib.hid (B6.out.trans (u.bel _ (by have := B5.out.size; omega))); have n0_7 := N7.out.cell (k := 0) rfl; have n1_7 := N7.out.cell (k := 1) rfl; have n2_7 := N7.out.cell (k := 2) rfl; have m0_7 := M7.out.cell (k := 0) rfl; have m1_7 := M7.out.cell (k := 1) rfl; have m2_7 := M7.out.cell (k := 2) rfl; clear u)
      | refine wpList_load_box (by rfl) 48 _ rfl (w2.heap.size + 1) rfl 48 #[.int .i64 v0, .int .i64 v1, .int .i64 v2, .int .i64 v3] _ F7.out Try.underlying48 rfl (by kernel_rfl) ?_
      | refine wpList_load_box (by rfl) 47 _ rfl (w5.heap.size + 1) rfl 47 #[.int .i64 v0, .int .i64 v1, .int .i64 v2, .int .i64 v3] _ G7.out Try.underlying47 rfl (by kernel_rfl) ?_
      | refine wpList_eql_four (by rfl) rfl v0 v1 v2 v3 rfl rfl ?_
      | (go_at_call 8; refine (alive19_any _).mono ?_; rintro e w9 ⟨rfl, hb9⟩))
    go_ret
    exact ⟨rfl, b_cl B7.out (Nat.le_refl _) hb9⟩
  have h0 : 0 ≤ a2 := by omega
  clear g0
  by_cases g1 : 40320 < b2
  case pos =>
    have S0 := Lib.hid (show Bx ((w.alloc (.cells #[.int .i64 i1, .int .i64 x1, .int .i64 y1] 24)).alloc (.cells #[.int .i64 j2, .int .i64 a2, .int .i64 b2] 46)) w.heap.size 24 #[.int .i64 i1, .int .i64 x1, .int .i64 y1] from (Bx.new (W := w) _ _ rfl).alloc _)
    have R0 := Lib.hid (show Bx ((w.alloc (.cells #[.int .i64 i1, .int .i64 x1, .int .i64 y1] 24)).alloc (.cells #[.int .i64 j2, .int .i64 a2, .int .i64 b2] 46)) (w.heap.size + 1) 46 #[.int .i64 j2, .int .i64 a2, .int .i64 b2] from Bx.new (W := w.alloc (.cells #[.int .i64 i1, .int .i64 x1, .int .i64 y1] 24)) _ _ (by simp))
    have B0 := Lib.hid (show Below w.heap.size w ((w.alloc (.cells #[.int .i64 i1, .int .i64 x1, .int .i64 y1] 24)).alloc (.cells #[.int .i64 j2, .int .i64 a2, .int .i64 b2] 46)) by (repeat (first | exact Below.refl _ _ | (refine b_st ?_ (by first | (simp; done) | (simp; omega))) | (refine b_al ?_ (Nat.le_refl _) _) | refine b_dn ?_ | refine b_dr ?_ | (refine b_cl ?_ (Nat.le_refl _) (by assumption)))))
    go_enter Try.func5, Try.ntmps5
    go_wp2_with (first
      | go_skip
      | (go_at_call 7; refine (CL _ (HK.out.below (by (repeat (first | exact Below.refl _ _ | (refine b_st ?_ (by first | (simp; done) | (simp; omega))) | (refine b_al ?_ (Nat.le_refl _) _) | refine b_dn ?_ | refine b_dr ?_ | (refine b_cl ?_ (Nat.le_refl _) (by assumption))))))).mono ?_; rintro e w1 ⟨rfl, hb1⟩; have S1 := Lib.hid (S0.out.below hb1); have R1 := Lib.hid (R0.out.below hb1); have B1 := Lib.hid (b_cl B0.out (Nat.le_refl _) hb1); have lt1 := R1.out.lt; have ls1 := S1.out.lt; have s0_1 := S1.out.cell (k := 0) rfl; have r0_1 := R1.out.cell (k := 0) rfl; have s1_1 := S1.out.cell (k := 1) rfl; have r1_1 := R1.out.cell (k := 1) rfl; have s2_1 := S1.out.cell (k := 2) rfl; have r2_1 := R1.out.cell (k := 2) rfl; clear hb1)
      | (go_at_call 20; refine (CO _ (HK.out.below B1.out)).mono ?_; rintro e w2 ⟨rfl, hb2⟩; have S2 := Lib.hid (S1.out.below hb2); have R2 := Lib.hid (R1.out.below hb2); have B2 := Lib.hid (b_cl B1.out (Nat.le_refl _) hb2); have ls2 : w.heap.size < w2.heap.size := S2.out.lt; have lr2 : w.heap.size + 1 < w2.heap.size := R2.out.lt; clear hb2)
      | (refine wpList_store_box rfl 24 _ _ rfl w2.heap.size #[.int .i64 u0, .int .i64 u1, .int .i64 u2] rfl rfl 24 #[.int .i64 0, .int .i64 0, .int .i64 0] ((Bx.new (W := w2) _ _ rfl).alloc _) (by kernel_rfl) rfl (one3 _ _ _) (fun w3 u => ?_); have N3 := Lib.hid u.box; have F3 := Lib.hid (u.bx (Bx.new (W := w2.alloc (.cells #[.int .i64 0, .int .i64 0, .int .i64 0] 24)) 48 #[.int .i64 0, .int .i64 0, .int .i64 0, .int .i64 0] (show w2.heap.size + 1 = _ by simp)) (by omega)); have S3 := Lib.hid (u.bx ((S2.out.alloc _).alloc _) (by omega)); have R3 := Lib.hid (u.bx ((R2.out.alloc _).alloc _) (by omega)); have B3 := Lib.hid ((b_al (b_al B2.out (Nat.le_refl _) _) (Nat.le_refl _) _).trans (u.bel _ (by omega))); have z3 := u.size; (try simp at z3); clear u)
      | (refine wpList_store_box rfl 48 _ _ rfl (w2.heap.size + 1) #[.int .i64 v0, .int .i64 v1, .int .i64 v2, .int .i64 v3] rfl rfl 48 #[.int .i64 0, .int .i64 0, .int .i64 0, .int .i64 0] F3.out (by kernel_rfl) rfl (one4 _ _ _ _) (fun w4 u => ?_); have F4' := Lib.hid u.box; have N4 := Lib.hid (u.bx N3.out (by omega)); have S4 := Lib.hid (u.bx S3.out (by omega)); have R4 := Lib.hid (u.bx R3.out (by omega)); have B4 := Lib.hid (B3.out.trans (u.bel _ (by omega))); have z4 := u.size; have s0_4 := S4.out.cell (k := 0) rfl; have s1_4 := S4.out.cell (k := 1) rfl; have s2_4 := S4.out.cell (k := 2) rfl; have r0_4 := R4.out.cell (k := 0) rfl; have r1_4 := R4.out.cell (k := 1) rfl; have r2_4 := R4.out.cell (k := 2) rfl; clear u)
      | (go_at_call 21; refine (CR _ (HK.out.below B4.out)).mono ?_; rintro e w5 ⟨rfl, hb5⟩; have F5 := Lib.hid (F4'.out.below hb5); have N5 := Lib.hid (N4.out.below hb5); have B5 := Lib.hid (b_cl B4.out (Nat.le_refl _) hb5); have lf5 : w2.heap.size + 1 < w5.heap.size := F5.out.lt; have ln5 : w2.heap.size < w5.heap.size := N5.out.lt; clear hb5)
      | (refine wpList_store_box rfl 24 _ _ rfl w5.heap.size #[.int .i64 u0, .int .i64 u1, .int .i64 u2] rfl rfl 24 #[.int .i64 0, .int .i64 0, .int .i64 0] ((Bx.new (W := w5) _ _ rfl).alloc _) (by kernel_rfl) rfl (one3 _ _ _) (fun w6 u => ?_); have M6 := Lib.hid u.box; have G6 := Lib.hid (u.bx (Bx.new (W := w5.alloc (.cells #[.int .i64 0, .int .i64 0, .int .i64 0] 24)) 47 #[.int .i64 0, .int .i64 0, .int .i64 0, .int .i64 0] (show w5.heap.size + 1 = _ by simp)) (by omega)); have F6 := Lib.hid (u.bx ((F5.out.alloc _).alloc _) (by omega)); have N6 := Lib.hid (u.bx ((N5.out.alloc _).alloc _) (by omega)); have B6 := Lib.hid ((b_al (b_al B5.out (Nat.le_refl _) _) (Nat.le_refl _) _).trans (u.bel _ (by have := B5.out.size; omega))); clear u)
      | (refine wpList_store_box rfl 47 _ _ rfl (w5.heap.size + 1) #[.int .i64 v0, .int .i64 v1, .int .i64 v2, .int .i64 v3] rfl rfl 47 #[.int .i64 0, .int .i64 0, .int .i64 0, .int .i64 0] G6.out (by kernel_rfl) rfl (one4 _ _ _ _) (fun w7 u => ?_); have G7 := Lib.hid u.box; have M7 := Lib.hid (u.bx M6.out (by omega)); have F7 := Lib.hid (u.bx F6.out (by omega)); have N7 := Lib.hid (u.bx N6.out (by omega)); have B7 := Lib.hid (B6.out.trans (u.bel _ (by have := B5.out.size; omega))); have n0_7 := N7.out.cell (k := 0) rfl; have n1_7 := N7.out.cell (k := 1) rfl; have n2_7 := N7.out.cell (k := 2) rfl; have m0_7 := M7.out.cell (k := 0) rfl; have m1_7 := M7.out.cell (k := 1) rfl; have m2_7 := M7.out.cell (k := 2) rfl; clear u)
      | refine wpList_load_box (by rfl) 48 _ rfl (w2.heap.size + 1) rfl 48 #[.int .i64 v0, .int .i64 v1, .int .i64 v2, .int .i64 v3] _ F7.out Try.underlying48 rfl (by kernel_rfl) ?_
      | refine wpList_load_box (by rfl) 47 _ rfl (w5.heap.size + 1) rfl 47 #[.int .i64 v0, .int .i64 v1, .int .i64 v2, .int .i64 v3] _ G7.out Try.underlying47 rfl (by kernel_rfl) ?_
      | refine wpList_eql_four (by rfl) rfl v0 v1 v2 v3 rfl rfl ?_
      | (go_at_call 8; refine (alive19_any _).mono ?_; rintro e w9 ⟨rfl, hb9⟩))
    go_ret
    exact ⟨rfl, b_cl B7.out (Nat.le_refl _) hb9⟩
  have h1 : b2 ≤ 40320 := by omega
  clear g1
  by_cases g2 : b2 ≤ a2
  case pos =>
    have S0 := Lib.hid (show Bx ((w.alloc (.cells #[.int .i64 i1, .int .i64 x1, .int .i64 y1] 24)).alloc (.cells #[.int .i64 j2, .int .i64 a2, .int .i64 b2] 46)) w.heap.size 24 #[.int .i64 i1, .int .i64 x1, .int .i64 y1] from (Bx.new (W := w) _ _ rfl).alloc _)
    have R0 := Lib.hid (show Bx ((w.alloc (.cells #[.int .i64 i1, .int .i64 x1, .int .i64 y1] 24)).alloc (.cells #[.int .i64 j2, .int .i64 a2, .int .i64 b2] 46)) (w.heap.size + 1) 46 #[.int .i64 j2, .int .i64 a2, .int .i64 b2] from Bx.new (W := w.alloc (.cells #[.int .i64 i1, .int .i64 x1, .int .i64 y1] 24)) _ _ (by simp))
    have B0 := Lib.hid (show Below w.heap.size w ((w.alloc (.cells #[.int .i64 i1, .int .i64 x1, .int .i64 y1] 24)).alloc (.cells #[.int .i64 j2, .int .i64 a2, .int .i64 b2] 46)) by (repeat (first | exact Below.refl _ _ | (refine b_st ?_ (by first | (simp; done) | (simp; omega))) | (refine b_al ?_ (Nat.le_refl _) _) | refine b_dn ?_ | refine b_dr ?_ | (refine b_cl ?_ (Nat.le_refl _) (by assumption)))))
    go_enter Try.func5, Try.ntmps5
    go_wp2_with (first
      | go_skip
      | (go_at_call 7; refine (CL _ (HK.out.below (by (repeat (first | exact Below.refl _ _ | (refine b_st ?_ (by first | (simp; done) | (simp; omega))) | (refine b_al ?_ (Nat.le_refl _) _) | refine b_dn ?_ | refine b_dr ?_ | (refine b_cl ?_ (Nat.le_refl _) (by assumption))))))).mono ?_; rintro e w1 ⟨rfl, hb1⟩; have S1 := Lib.hid (S0.out.below hb1); have R1 := Lib.hid (R0.out.below hb1); have B1 := Lib.hid (b_cl B0.out (Nat.le_refl _) hb1); have lt1 := R1.out.lt; have ls1 := S1.out.lt; have s0_1 := S1.out.cell (k := 0) rfl; have r0_1 := R1.out.cell (k := 0) rfl; have s1_1 := S1.out.cell (k := 1) rfl; have r1_1 := R1.out.cell (k := 1) rfl; have s2_1 := S1.out.cell (k := 2) rfl; have r2_1 := R1.out.cell (k := 2) rfl; clear hb1)
      | (go_at_call 20; refine (CO _ (HK.out.below B1.out)).mono ?_; rintro e w2 ⟨rfl, hb2⟩; have S2 := Lib.hid (S1.out.below hb2); have R2 := Lib.hid (R1.out.below hb2); have B2 := Lib.hid (b_cl B1.out (Nat.le_refl _) hb2); have ls2 : w.heap.size < w2.heap.size := S2.out.lt; have lr2 : w.heap.size + 1 < w2.heap.size := R2.out.lt; clear hb2)
      | (refine wpList_store_box rfl 24 _ _ rfl w2.heap.size #[.int .i64 u0, .int .i64 u1, .int .i64 u2] rfl rfl 24 #[.int .i64 0, .int .i64 0, .int .i64 0] ((Bx.new (W := w2) _ _ rfl).alloc _) (by kernel_rfl) rfl (one3 _ _ _) (fun w3 u => ?_); have N3 := Lib.hid u.box; have F3 := Lib.hid (u.bx (Bx.new (W := w2.alloc (.cells #[.int .i64 0, .int .i64 0, .int .i64 0] 24)) 48 #[.int .i64 0, .int .i64 0, .int .i64 0, .int .i64 0] (show w2.heap.size + 1 = _ by simp)) (by omega)); have S3 := Lib.hid (u.bx ((S2.out.alloc _).alloc _) (by omega)); have R3 := Lib.hid (u.bx ((R2.out.alloc _).alloc _) (by omega)); have B3 := Lib.hid ((b_al (b_al B2.out (Nat.le_refl _) _) (Nat.le_refl _) _).trans (u.bel _ (by omega))); have z3 := u.size; (try simp at z3); clear u)
      | (refine wpList_store_box rfl 48 _ _ rfl (w2.heap.size + 1) #[.int .i64 v0, .int .i64 v1, .int .i64 v2, .int .i64 v3] rfl rfl 48 #[.int .i64 0, .int .i64 0, .int .i64 0, .int .i64 0] F3.out (by kernel_rfl) rfl (one4 _ _ _ _) (fun w4 u => ?_); have F4' := Lib.hid u.box; have N4 := Lib.hid (u.bx N3.out (by omega)); have S4 := Lib.hid (u.bx S3.out (by omega)); have R4 := Lib.hid (u.bx R3.out (by omega)); have B4 := Lib.hid (B3.out.trans (u.bel _ (by omega))); have z4 := u.size; have s0_4 := S4.out.cell (k := 0) rfl; have s1_4 := S4.out.cell (k := 1) rfl; have s2_4 := S4.out.cell (k := 2) rfl; have r0_4 := R4.out.cell (k := 0) rfl; have r1_4 := R4.out.cell (k := 1) rfl; have r2_4 := R4.out.cell (k := 2) rfl; clear u)
      | (go_at_call 21; refine (CR _ (HK.out.below B4.out)).mono ?_; rintro e w5 ⟨rfl, hb5⟩; have F5 := Lib.hid (F4'.out.below hb5); have N5 := Lib.hid (N4.out.below hb5); have B5 := Lib.hid (b_cl B4.out (Nat.le_refl _) hb5); have lf5 : w2.heap.size + 1 < w5.heap.size := F5.out.lt; have ln5 : w2.heap.size < w5.heap.size := N5.out.lt; clear hb5)
      | (refine wpList_store_box rfl 24 _ _ rfl w5.heap.size #[.int .i64 u0, .int .i64 u1, .int .i64 u2] rfl rfl 24 #[.int .i64 0, .int .i64 0, .int .i64 0] ((Bx.new (W := w5) _ _ rfl).alloc _) (by kernel_rfl) rfl (one3 _ _ _) (fun w6 u => ?_); have M6 := Lib.hid u.box; have G6 := Lib.hid (u.bx (Bx.new (W := w5.alloc (.cells #[.int .i64 0, .int .i64 0, .int .i64 0] 24)) 47 #[.int .i64 0, .int .i64 0, .int .i64 0, .int .i64 0] (show w5.heap.size + 1 = _ by simp)) (by omega)); have F6 := Lib.hid (u.bx ((F5.out.alloc _).alloc _) (by omega)); have N6 := Lib.hid (u.bx ((N5.out.alloc _).alloc _) (by omega)); have B6 := Lib.hid ((b_al (b_al B5.out (Nat.le_refl _) _) (Nat.le_refl _) _).trans (u.bel _ (by have := B5.out.size; omega))); clear u)
      | (refine wpList_store_box rfl 47 _ _ rfl (w5.heap.size + 1) #[.int .i64 v0, .int .i64 v1, .int .i64 v2, .int .i64 v3] rfl rfl 47 #[.int .i64 0, .int .i64 0, .int .i64 0, .int .i64 0] G6.out (by kernel_rfl) rfl (one4 _ _ _ _) (fun w7 u => ?_); have G7 := Lib.hid u.box; have M7 := Lib.hid (u.bx M6.out (by omega)); have F7 := Lib.hid (u.bx F6.out (by omega)); have N7 := Lib.hid (u.bx N6.out (by omega)); have B7 := Lib.hid (B6.out.trans (u.bel _ (by have := B5.out.size; omega))); have n0_7 := N7.out.cell (k := 0) rfl; have n1_7 := N7.out.cell (k := 1) rfl; have n2_7 := N7.out.cell (k := 2) rfl; have m0_7 := M7.out.cell (k := 0) rfl; have m1_7 := M7.out.cell (k := 1) rfl; have m2_7 := M7.out.cell (k := 2) rfl; clear u)
      | refine wpList_load_box (by rfl) 48 _ rfl (w2.heap.size + 1) rfl 48 #[.int .i64 v0, .int .i64 v1, .int .i64 v2, .int .i64 v3] _ F7.out Try.underlying48 rfl (by kernel_rfl) ?_
      | refine wpList_load_box (by rfl) 47 _ rfl (w5.heap.size + 1) rfl 47 #[.int .i64 v0, .int .i64 v1, .int .i64 v2, .int .i64 v3] _ G7.out Try.underlying47 rfl (by kernel_rfl) ?_
      | refine wpList_eql_four (by rfl) rfl v0 v1 v2 v3 rfl rfl ?_
      | (go_at_call 8; refine (alive19_any _).mono ?_; rintro e w9 ⟨rfl, hb9⟩))
    go_ret
    exact ⟨rfl, b_cl B7.out (Nat.le_refl _) hb9⟩
  have h2 : a2 < b2 := by omega
  clear g2
  by_cases g3 : 3000 < b2 - a2
  case pos =>
    clear CO CR
    have S0 := Lib.hid (show Bx ((w.alloc (.cells #[.int .i64 i1, .int .i64 x1, .int .i64 y1] 24)).alloc (.cells #[.int .i64 j2, .int .i64 a2, .int .i64 b2] 46)) w.heap.size 24 #[.int .i64 i1, .int .i64 x1, .int .i64 y1] from (Bx.new (W := w) _ _ rfl).alloc _)
    have R0 := Lib.hid (show Bx ((w.alloc (.cells #[.int .i64 i1, .int .i64 x1, .int .i64 y1] 24)).alloc (.cells #[.int .i64 j2, .int .i64 a2, .int .i64 b2] 46)) (w.heap.size + 1) 46 #[.int .i64 j2, .int .i64 a2, .int .i64 b2] from Bx.new (W := w.alloc (.cells #[.int .i64 i1, .int .i64 x1, .int .i64 y1] 24)) _ _ (by simp))
    have B0 := Lib.hid (show Below w.heap.size w ((w.alloc (.cells #[.int .i64 i1, .int .i64 x1, .int .i64 y1] 24)).alloc (.cells #[.int .i64 j2, .int .i64 a2, .int .i64 b2] 46)) by (repeat (first | exact Below.refl _ _ | (refine b_st ?_ (by first | (simp; done) | (simp; omega))) | (refine b_al ?_ (Nat.le_refl _) _) | refine b_dn ?_ | refine b_dr ?_ | (refine b_cl ?_ (Nat.le_refl _) (by assumption)))))
    go_enter Try.func5, Try.ntmps5
    go_wp2_with (first
      | go_skip
      | (go_at_call 7; refine (CL _ (HK.out.below (by (repeat (first | exact Below.refl _ _ | (refine b_st ?_ (by first | (simp; done) | (simp; omega))) | (refine b_al ?_ (Nat.le_refl _) _) | refine b_dn ?_ | refine b_dr ?_ | (refine b_cl ?_ (Nat.le_refl _) (by assumption))))))).mono ?_; rintro e w1 ⟨rfl, hb1⟩; have S1 := Lib.hid (S0.out.below hb1); have R1 := Lib.hid (R0.out.below hb1); have B1 := Lib.hid (b_cl B0.out (Nat.le_refl _) hb1); have lt1 := R1.out.lt; have ls1 := S1.out.lt; have s0_1 := S1.out.cell (k := 0) rfl; have r0_1 := R1.out.cell (k := 0) rfl; have s1_1 := S1.out.cell (k := 1) rfl; have r1_1 := R1.out.cell (k := 1) rfl; have s2_1 := S1.out.cell (k := 2) rfl; have r2_1 := R1.out.cell (k := 2) rfl; clear hb1)
      | (go_at_call 8; refine (alive19_any _).mono ?_; rintro e w9 ⟨rfl, hb9⟩))
    go_ret
    exact ⟨rfl, b_cl B1.out (Nat.le_refl _) hb9⟩
  have h3 : b2 - a2 ≤ 3000 := by omega
  clear g3
  have S0 := Lib.hid (show Bx ((w.alloc (.cells #[.int .i64 i1, .int .i64 x1, .int .i64 y1] 24)).alloc (.cells #[.int .i64 j2, .int .i64 a2, .int .i64 b2] 46)) w.heap.size 24 #[.int .i64 i1, .int .i64 x1, .int .i64 y1] from (Bx.new (W := w) _ _ rfl).alloc _)
  have R0 := Lib.hid (show Bx ((w.alloc (.cells #[.int .i64 i1, .int .i64 x1, .int .i64 y1] 24)).alloc (.cells #[.int .i64 j2, .int .i64 a2, .int .i64 b2] 46)) (w.heap.size + 1) 46 #[.int .i64 j2, .int .i64 a2, .int .i64 b2] from Bx.new (W := w.alloc (.cells #[.int .i64 i1, .int .i64 x1, .int .i64 y1] 24)) _ _ (by simp))
  have B0 := Lib.hid (show Below w.heap.size w ((w.alloc (.cells #[.int .i64 i1, .int .i64 x1, .int .i64 y1] 24)).alloc (.cells #[.int .i64 j2, .int .i64 a2, .int .i64 b2] 46)) by (repeat (first | exact Below.refl _ _ | (refine b_st ?_ (by first | (simp; done) | (simp; omega))) | (refine b_al ?_ (Nat.le_refl _) _) | refine b_dn ?_ | refine b_dr ?_ | (refine b_cl ?_ (Nat.le_refl _) (by assumption)))))
  go_enter Try.func5, Try.ntmps5
  go_wp2_with (first
    | go_skip
    | (go_at_call 7; refine (CL _ (HK.out.below (by (repeat (first | exact Below.refl _ _ | (refine b_st ?_ (by first | (simp; done) | (simp; omega))) | (refine b_al ?_ (Nat.le_refl _) _) | refine b_dn ?_ | refine b_dr ?_ | (refine b_cl ?_ (Nat.le_refl _) (by assumption))))))).mono ?_; rintro e w1 ⟨rfl, hb1⟩; have S1 := Lib.hid (S0.out.below hb1); have R1 := Lib.hid (R0.out.below hb1); have B1 := Lib.hid (b_cl B0.out (Nat.le_refl _) hb1); have lt1 := R1.out.lt; have ls1 := S1.out.lt; have s0_1 := S1.out.cell (k := 0) rfl; have r0_1 := R1.out.cell (k := 0) rfl; have s1_1 := S1.out.cell (k := 1) rfl; have r1_1 := R1.out.cell (k := 1) rfl; have s2_1 := S1.out.cell (k := 2) rfl; have r2_1 := R1.out.cell (k := 2) rfl; clear hb1)
    | (go_at_call 20; refine (CO _ (HK.out.below B1.out)).mono ?_; rintro e w2 ⟨rfl, hb2⟩; have S2 := Lib.hid (S1.out.below hb2); have R2 := Lib.hid (R1.out.below hb2); have B2 := Lib.hid (b_cl B1.out (Nat.le_refl _) hb2); have ls2 : w.heap.size < w2.heap.size := S2.out.lt; have lr2 : w.heap.size + 1 < w2.heap.size := R2.out.lt; clear hb2)
    | (refine wpList_store_box rfl 24 _ _ rfl w2.heap.size #[.int .i64 u0, .int .i64 u1, .int .i64 u2] rfl rfl 24 #[.int .i64 0, .int .i64 0, .int .i64 0] ((Bx.new (W := w2) _ _ rfl).alloc _) (by kernel_rfl) rfl (one3 _ _ _) (fun w3 u => ?_); have N3 := Lib.hid u.box; have F3 := Lib.hid (u.bx (Bx.new (W := w2.alloc (.cells #[.int .i64 0, .int .i64 0, .int .i64 0] 24)) 48 #[.int .i64 0, .int .i64 0, .int .i64 0, .int .i64 0] (show w2.heap.size + 1 = _ by simp)) (by omega)); have S3 := Lib.hid (u.bx ((S2.out.alloc _).alloc _) (by omega)); have R3 := Lib.hid (u.bx ((R2.out.alloc _).alloc _) (by omega)); have B3 := Lib.hid ((b_al (b_al B2.out (Nat.le_refl _) _) (Nat.le_refl _) _).trans (u.bel _ (by omega))); have z3 := u.size; (try simp at z3); clear u)
    | (refine wpList_store_box rfl 48 _ _ rfl (w2.heap.size + 1) #[.int .i64 v0, .int .i64 v1, .int .i64 v2, .int .i64 v3] rfl rfl 48 #[.int .i64 0, .int .i64 0, .int .i64 0, .int .i64 0] F3.out (by kernel_rfl) rfl (one4 _ _ _ _) (fun w4 u => ?_); have F4' := Lib.hid u.box; have N4 := Lib.hid (u.bx N3.out (by omega)); have S4 := Lib.hid (u.bx S3.out (by omega)); have R4 := Lib.hid (u.bx R3.out (by omega)); have B4 := Lib.hid (B3.out.trans (u.bel _ (by omega))); have z4 := u.size; have s0_4 := S4.out.cell (k := 0) rfl; have s1_4 := S4.out.cell (k := 1) rfl; have s2_4 := S4.out.cell (k := 2) rfl; have r0_4 := R4.out.cell (k := 0) rfl; have r1_4 := R4.out.cell (k := 1) rfl; have r2_4 := R4.out.cell (k := 2) rfl; clear u)
    | (go_at_call 21; refine (CR _ (HK.out.below B4.out)).mono ?_; rintro e w5 ⟨rfl, hb5⟩; have F5 := Lib.hid (F4'.out.below hb5); have N5 := Lib.hid (N4.out.below hb5); have B5 := Lib.hid (b_cl B4.out (Nat.le_refl _) hb5); have lf5 : w2.heap.size + 1 < w5.heap.size := F5.out.lt; have ln5 : w2.heap.size < w5.heap.size := N5.out.lt; clear hb5)
    | (refine wpList_store_box rfl 24 _ _ rfl w5.heap.size #[.int .i64 u0, .int .i64 u1, .int .i64 u2] rfl rfl 24 #[.int .i64 0, .int .i64 0, .int .i64 0] ((Bx.new (W := w5) _ _ rfl).alloc _) (by kernel_rfl) rfl (one3 _ _ _) (fun w6 u => ?_); have M6 := Lib.hid u.box; have G6 := Lib.hid (u.bx (Bx.new (W := w5.alloc (.cells #[.int .i64 0, .int .i64 0, .int .i64 0] 24)) 47 #[.int .i64 0, .int .i64 0, .int .i64 0, .int .i64 0] (show w5.heap.size + 1 = _ by simp)) (by omega)); have F6 := Lib.hid (u.bx ((F5.out.alloc _).alloc _) (by omega)); have N6 := Lib.hid (u.bx ((N5.out.alloc _).alloc _) (by omega)); have B6 := Lib.hid ((b_al (b_al B5.out (Nat.le_refl _) _) (Nat.le_refl _) _).trans (u.bel _ (by have := B5.out.size; omega))); clear u)
    | (refine wpList_store_box rfl 47 _ _ rfl (w5.heap.size + 1) #[.int .i64 v0, .int .i64 v1, .int .i64 v2, .int .i64 v3] rfl rfl 47 #[.int .i64 0, .int .i64 0, .int .i64 0, .int .i64 0] G6.out (by kernel_rfl) rfl (one4 _ _ _ _) (fun w7 u => ?_); have G7 := Lib.hid u.box; have M7 := Lib.hid (u.bx M6.out (by omega)); have F7 := Lib.hid (u.bx F6.out (by omega)); have N7 := Lib.hid (u.bx N6.out (by omega)); have B7 := Lib.hid (B6.out.trans (u.bel _ (by have := B5.out.size; omega))); have n0_7 := N7.out.cell (k := 0) rfl; have n1_7 := N7.out.cell (k := 1) rfl; have n2_7 := N7.out.cell (k := 2) rfl; have m0_7 := M7.out.cell (k := 0) rfl; have m1_7 := M7.out.cell (k := 1) rfl; have m2_7 := M7.out.cell (k := 2) rfl; clear u)
    | refine wpList_load_box (by rfl) 48 _ rfl (w2.heap.size + 1) rfl 48 #[.int .i64 v0, .int .i64 v1, .int .i64 v2, .int .i64 v3] _ F7.out Try.underlying48 rfl (by kernel_rfl) ?_
    | refine wpList_load_box (by rfl) 47 _ rfl (w5.heap.size + 1) rfl 47 #[.int .i64 v0, .int .i64 v1, .int .i64 v2, .int .i64 v3] _ G7.out Try.underlying47 rfl (by kernel_rfl) ?_
    | refine wpList_eql_four (by rfl) rfl v0 v1 v2 v3 rfl rfl ?_
    | (go_at_call 8; refine (alive19_any _).mono ?_; rintro e w9 ⟨rfl, hb9⟩))
  go_ret
  exact ⟨rfl, b_cl B7.out (Nat.le_refl _) hb9⟩

set_option maxRecDepth 100000 in
theorem lifted (os : Os) (started : os.Started) (H : Type) (enc : TypeId × Value → H) :
    ReturnsInHanded {} Try.checked os 5 .any (Rows.errandOverSpec.pre6 enc Try.prog Try.f5 Rows.errandOverRow.domain false) (Rows.errandOverSpec.post enc Try.prog Try.f5 false true false false) := by
  refine returnsInHanded_of_change (C := Try.checked) own started (by kernel_rfl) Try.func5
    (ChangeSpec.witness6 (enc := enc) (C := Try.checked) false ⟨#[], #[.slice none 0 0, .agg #[.int .i64 0, .int .i64 0, .int .i64 0], .agg #[.int .i64 0, .int .i64 0, .int .i64 0]], []⟩ 8 (by kernel_rfl) (by kernel_rfl) (by kernel_rfl) (by kernel_rfl)) ?_
  intro W base args ds gs before hval0 hW hcnd _
  have hval : ∀ (j : Nat) t v, Try.f5.params[j]? = some t → args[j]? = some v → Value.okWide Try.prog W .any base t v := hval0
  have hW' := hW
  obtain ⟨p, q, hA0, hV, rfl, hfz, hnd⟩ := hW
  have hA : DataW.TrodAll enc Try.prog W 0 (fun _ => true) true Try.f5.params.toList args.toList ds p := hA0
  rw [Try.params5] at hA hval
  obtain ⟨v0, vs0, d0, ds0, p0, q0, hargs, rfl, rfl, h0, r0⟩ := trodAll_cons hA
  obtain ⟨v1, vs1, d1, ds1, p1, q1, rfl, rfl, rfl, h1, r1⟩ := trodAll_cons r0
  obtain ⟨v2, vs2, d2, ds2, p2, q2, rfl, rfl, rfl, h2, r2⟩ := trodAll_cons r1
  obtain ⟨rfl, rfl, rfl⟩ := trodAll_nil r2
  obtain rfl : args = #[v0, v1, v2] := by cases args; simp_all
  obtain ⟨rfl, rfl⟩ := trodVars_none hV
  have k0 := h0
  have lt0 : ∀ x ∈ p0, x.block < W.heap.size := by obtain ⟨m, hm⟩ := k0; exact DataW.trod_lt m _ _ _ hm
  obtain ⟨A0, n0, c0, l0, rfl, hn0, rd0, q0, z0⟩ := open_tasks (hval 0 22 v0 rfl rfl) h0
  have k1 := h1
  have lt1 : ∀ x ∈ p1, x.block < W.heap.size := by obtain ⟨m, hm⟩ := k1; exact DataW.trod_lt m _ _ _ hm
  obtain ⟨i1, x1, y1, rfl, _, _, wa1, wb1, wc1⟩ := open_spot (hval 1 24 v1 rfl rfl) h1
  have k2 := h2
  have lt2 : ∀ x ∈ p2, x.block < W.heap.size := by obtain ⟨m, hm⟩ := k2; exact DataW.trod_lt m _ _ _ hm
  obtain ⟨j2, a2, b2, rfl, _, _, wa2, wb2, wc2⟩ := open_rec (hval 2 46 v2 rfl rfl) h2
  clear hA0 hval0
  refine (walk W A0 n0 c0 l0 hn0 rd0 q0 z0 i1 x1 y1 (wf_i64 wb1) (wf_i64 wc1) j2 a2 b2).mono fun e W' ⟨he, bel⟩ => ?_
  subst he
  exact ⟨_, rfl, _, _, _, [], _, [], hW', trodAll_mk1 (shut_bool Try.underlying4 _), (trodAll_cons_mk (Below.trod laidOut (by kernel_rfl) (of_decide_eq_true (by kernel_rfl)) k0 bel lt0) (trodAll_cons_mk (Below.trod laidOut (by kernel_rfl) (of_decide_eq_true (by kernel_rfl)) k1 bel lt1) (trodAll_cons_mk (Below.trod laidOut (by kernel_rfl) (of_decide_eq_true (by kernel_rfl)) k2 bel lt2) trodAll_mk0))), rfl, bel.frame _, fun h => by cases h⟩

theorem over : Rows.errandOverRow.holds Try.pinned (OpenSpec.ofChange Rows.errandOverSpec) :=
  OpenClaim.holds_of_wide 5 Try.f5 rfl rfl rfl rfl rfl rfl rfl ⟨rfl, rfl, rfl, rfl, rfl⟩ rfl rfl rfl rfl rfl (by kernel_rfl) Try.func5 (by kernel_rfl)
    (of_decide_eq_true (by kernel_rfl)) (by unfold Func.isWrapper; first | (rw [if_pos (by decide +kernel)]; kernel_rfl) | (rw [if_neg (by decide +kernel)]; exact ⟨rfl, rfl⟩))
    (fun os started H enc _ => lifted os started H enc)

theorem proved : Rows.ErrandOverSaid := over
#print axioms proved
end Go.Proofs.Ythgieanhlmnneaa.errandOver
