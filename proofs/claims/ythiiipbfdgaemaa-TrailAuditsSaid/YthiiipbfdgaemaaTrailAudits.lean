/- Audit of layer 20 answers as the document's own. -/
import Derived.Test.YthiiipbfdgaemaaRows
import Derived.Test.YthiiipbfdgaemaaZ1
import Derived.Test.YthiiipbfdgaemaaZ2
import Derived.Test.YthiiipbfdgaemaaErrandLight
import Derived.Test.YthiiipbfdgaemaaErrandPast
import Derived.Test.YthiiipbfdgaemaaErrandOverC
import Derived.Test.YthiiipbfdgaemaaRecCheckR
import Derived.Test.YthiiipbfdgaemaaZ3
import Derived.Test.YthiiipbfdgaemaaZ4
import Derived.Test.YthiiipbfdgaemaaTrailLeaf
import Derived.Test.YthiiipbfdgaemaaZ5
import Derived.Test.YthiiipbfdgaemaaTrailVis
import Derived.Test.YthiiipbfdgaemaaTrailRChk
import Derived.Test.YthiiipbfdgaemaaTrailAlive
import Derived.Test.YthiiipbfdgaemaaTrailFollows
import Derived.Test.YthiiipbfdgaemaaTrailRAud
import Derived.WalkKit
import Derived.WalkSmall
import Derived.WalkSpells
import Derived.ProofKit
import Derived.OpenShut
import Derived.ShutString
import Derived.ChangeOld
import Derived.Below
import Derived.Lib.Hide
import Derived.OwnWalk
import Derived.Outline
import Derived.Deep.DeepCutAuto
import Derived.BigQuiet
import Derived.Deep.QuietTactic
import Derived.Deep.LoopGhost
import Derived.WalkMore
import Derived.OrdersHeld
import Derived.Deep.RegionHeld3
namespace Go.Proofs.Ythiiipbfdgaemaa.trailAudits
open Go.ChangeShapes Go.WideShapes Go.ChangeAt Go.RowKit
open Go.ChangeMaps (open_string shut_string)
set_option linter.unusedVariables false

theorem own : ownKnob Try.prog.godebug = none := by kernel_rfl
theorem laidOut : laidOutB Try.prog = true := by kernel_rfl

set_option maxRecDepth 20000 in
set_option maxHeartbeats 2000000 in
theorem walk (w : World) (A0 : Option Addr) (n0 c0 : Nat) (l0 : List Tk) (hn0 : l0.length = n0) (r0 : RdK w A0 l0) (q0 : n0 ≤ c0) (z0 : A0 = none → c0 = 0) (i1 x1 y1 : Int) (hx1 : -9223372036854775808 ≤ x1 ∧ x1 ≤ 9223372036854775807) (hy1 : -9223372036854775808 ≤ y1 ∧ y1 ≤ 9223372036854775807) (A2 : Option Addr) (c2 : Nat) (l2 : List Rc) (r2 : RdR w A2 l2) (z2 : A2 = none → c2 = 0) :
    Calls Try.prog 3 #[.slice A0 n0 c0, .agg #[.int .i64 i1, .int .i64 x1, .int .i64 y1], .slice A2 l2.length c2] w fun e w' => e = .returned (.bool true) ∧ Below w.heap.size w w' := by
  obtain ⟨n', hn'⟩ : ∃ n', l2.length = n' := ⟨_, rfl⟩
  rw [hn']
  have CL := fun W (h : RdK W A0 l0) (hr : RdR W A2 l2) => light20_any A0 n0 c0 l0 hn0 A2 n' c2 l2 hn' W h hr
  have S0 := Lib.hid (show Bx (w.alloc (.cells #[.int .i64 i1, .int .i64 x1, .int .i64 y1] 24)) w.heap.size 24 #[.int .i64 i1, .int .i64 x1, .int .i64 y1] from Bx.new (W := w) _ _ rfl)
  have B0 := Lib.hid (show Below w.heap.size w (w.alloc (.cells #[.int .i64 i1, .int .i64 x1, .int .i64 y1] 24)) by (repeat (first | exact Below.refl _ _ | (refine b_st ?_ (by first | (simp; done) | (simp; omega))) | (refine b_al ?_ (Nat.le_refl _) _) | refine b_dn ?_ | refine b_dr ?_ | (refine b_cl ?_ (Nat.le_refl _) (by assumption)))))
  have HK := Lib.hid r0
  have HR := Lib.hid r2
  cases hlv : lightV l0 l2 with
  | false =>
    rw [hlv] at CL
    clear hlv
    go_enter Try.func3, Try.ntmps3
    go_wp2_with (first | go_skip | (go_at_call 6; refine (CL _ (HK.out.below B0.out) (HR.out.below B0.out)).mono ?_; rintro e w1 ⟨rfl, hb1⟩; have S1 := Lib.hid (S0.out.below hb1); have B1 := Lib.hid (b_cl B0.out (Nat.le_refl _) hb1); have lt1 := S1.out.lt; have s0_1 := S1.out.cell (k := 0) rfl; have s1_1 := S1.out.cell (k := 1) rfl; have s2_1 := S1.out.cell (k := 2) rfl; clear hb1) | (go_at_call 7; refine (alive20_any _).mono ?_; rintro e w9 ⟨rfl, hb9⟩))
    go_ret
    exact ⟨rfl, b_cl B1.out (Nat.le_refl _) hb9⟩
  | true =>
  rw [hlv] at CL
  obtain ⟨lk, h60⟩ := lightV_is hlv
  clear hlv
  obtain ⟨⟨p, fl, er⟩, hV⟩ : ∃ X, audV l0 (i1, x1, y1) l2 = X := ⟨_, rfl⟩
  obtain ⟨m, hm⟩ : ∃ m, fl.length = m := ⟨_, rfl⟩
  have hml : m ≤ 4611686018427387904 := by
    have h1 : fl = (audV l0 (i1, x1, y1) l2).2.1 := by rw [hV]
    have h2 : fl.length ≤ 5 := by
      rw [h1]
      unfold audV
      split
      · exact outG_len _ 5
      · simp
    omega
  have CA := fun W (h : RdK W A0 l0) (hr : RdR W A2 l2) => audit20_any A0 n0 c0 l0 hn0 i1 x1 y1 A2 n' c2 l2 hn' W h lk.few q0 z0 hx1 hy1 hr (by omega) hV hm
  have CR := fun W (h : RdK W A0 l0) (hr : RdR W A2 l2) => raud20_any A0 n0 c0 l0 hn0 i1 x1 y1 A2 n' c2 l2 hn' W h lk.few hr (by omega) hV hm
  have CF := fun W (h : RdK W A0 l0) (hr : RdR W A2 l2) => follows20_any A0 n0 c0 l0 hn0 i1 x1 y1 A2 n' c2 l2 hn' W h lk.few q0 z0 hx1 hy1 hr (by omega) hV
  obtain ⟨u0, u1, u2⟩ := p
  unfold sp3 at CA CR
  simp only at CA CR
  have HM := Lib.hid hm
  have HML := Lib.hid hml
  have em : ((m : Int) == 0) = decide (fl = []) := by
    rw [← hm]
    rcases fl with _ | ⟨z, fl⟩
    · rfl
    · rw [decide_eq_false (by simp)]
      simp
      omega
  by_cases he : er = 0
  · subst he
    rw [decide_eq_decide.2 (show ((0 : Int) = 0 ∧ fl = []) ↔ fl = [] from ⟨fun h => h.2, fun h => ⟨rfl, h⟩⟩)] at CF
    obtain ⟨rr, hrr⟩ : ∃ rr, decide (fl = []) = rr := ⟨_, rfl⟩
    rw [hrr] at em CF
    clear hV hm hml hrr r0 r2 hn0 hn' q0 z0 hx1 hy1 lk h60
    go_enter Try.func3, Try.ntmps3
    go_wp2_with (first
      | go_skip
      | (go_at_call 6; refine (CL _ (HK.out.below B0.out) (HR.out.below B0.out)).mono ?_; rintro e w1 ⟨rfl, hb1⟩; have S1 := Lib.hid (S0.out.below hb1); have B1 := Lib.hid (b_cl B0.out (Nat.le_refl _) hb1); have lt1 := S1.out.lt; have s0_1 := S1.out.cell (k := 0) rfl; have s1_1 := S1.out.cell (k := 1) rfl; have s2_1 := S1.out.cell (k := 2) rfl; clear hb1)
      | (go_at_call 8; refine (CA _ (HK.out.below B1.out) (HR.out.below B1.out)).mono ?_; rintro e w2 ⟨AX, cX, rfl, hrx, _, hb2⟩; have X2 := Lib.hid hrx; have S2 := Lib.hid (S1.out.below hb2); have B2 := Lib.hid (b_cl B1.out (Nat.le_refl _) hb2); have ls2 : w.heap.size < w2.heap.size := S2.out.lt; clear hb2 hrx)
      | (refine wpList_store_box (by rfl) 24 _ _ rfl w2.heap.size #[.int .i64 u0, .int .i64 u1, .int .i64 u2] rfl rfl 24 #[.int .i64 0, .int .i64 0, .int .i64 0] (Bx.new (W := w2) _ _ rfl) size_spot rfl (one3 _ _ _) (fun w3 u => ?_); have bb := ((Below.refl w2.heap.size w2).alloc (Nat.le_refl _) _).trans (u.bel w2.heap.size (Nat.le_refl _)); have N3 := Lib.hid u.box; have S3 := Lib.hid (S2.out.below bb); have X3 := Lib.hid (X2.out.below bb); have B3 := Lib.hid (b_cl B2.out (Nat.le_refl _) bb); have ln3 := N3.out.lt; have s0_3 := S3.out.cell (k := 0) rfl; have s1_3 := S3.out.cell (k := 1) rfl; have s2_3 := S3.out.cell (k := 2) rfl; clear u bb)
      | (go_at_call 9; refine (CR _ (HK.out.below B3.out) (HR.out.below B3.out)).mono ?_; rintro e w4 ⟨AY, cY, rfl, hry, _, hb4⟩; have Y4 := Lib.hid hry; have X4 := Lib.hid (X3.out.below hb4); have S4 := Lib.hid (S3.out.below hb4); have N4 := Lib.hid (N3.out.below hb4); have B4 := Lib.hid (b_cl B3.out (Nat.le_refl _) hb4); have ln4 : w2.heap.size < w4.heap.size := N4.out.lt; clear hb4 hry)
      | (refine wpList_store_box (by rfl) 24 _ _ rfl w4.heap.size #[.int .i64 u0, .int .i64 u1, .int .i64 u2] rfl rfl 24 #[.int .i64 0, .int .i64 0, .int .i64 0] (Bx.new (W := w4) _ _ rfl) size_spot rfl (one3 _ _ _) (fun w5 u => ?_); have bb := ((Below.refl w4.heap.size w4).alloc (Nat.le_refl _) _).trans (u.bel w4.heap.size (Nat.le_refl _)); have M5 := Lib.hid u.box; have N5 := Lib.hid (N4.out.below bb); have S5 := Lib.hid (S4.out.below bb); have X5 := Lib.hid (X4.out.below bb); have Y5 := Lib.hid (Y4.out.below bb); have B5 := Lib.hid (b_cl B4.out (Nat.le_refl _) bb); have lm5 := M5.out.lt; have ln5 := N5.out.lt; have n0_5 := N5.out.cell (k := 0) rfl; have n1_5 := N5.out.cell (k := 1) rfl; have n2_5 := N5.out.cell (k := 2) rfl; have m0_5 := M5.out.cell (k := 0) rfl; have m1_5 := M5.out.cell (k := 1) rfl; have m2_5 := M5.out.cell (k := 2) rfl; clear u bb)
      | (go_at_call 10; refine (sameF_any _ _ _ _ _ _ fl fl _ HM HM X5.out Y5.out HML.out).mono ?_; rintro e w6 ⟨rfl, hb6⟩; rw [decide_eq_true (rfl : fl = fl)]; have S6 := Lib.hid (S5.out.below hb6); have B6 := Lib.hid (b_cl B5.out (Nat.le_refl _) hb6); have ls6 := S6.out.lt; have s0_6 := S6.out.cell (k := 0) rfl; have s1_6 := S6.out.cell (k := 1) rfl; have s2_6 := S6.out.cell (k := 2) rfl; clear hb6)
      | (go_at_call 11; refine (CF _ (HK.out.below B6.out) (HR.out.below B6.out)).mono ?_; rintro e w7 ⟨rfl, hb7⟩; have B7 := Lib.hid (b_cl B6.out (Nat.le_refl _) hb7); clear hb7)
      | (go_at_call 7; refine (alive20_any _).mono ?_; rintro e w9 ⟨rfl, hb9⟩))
    go_ret
    exact ⟨by first | rfl | simp, b_cl B7.out (Nat.le_refl _) hb9⟩
  · rw [decide_eq_false (fun h => he h.1)] at CF
    have ne : (er == 0) = false := by simp [he]
    clear hV hm hml r0 r2 hn0 hn' q0 z0 hx1 hy1 lk h60 em he
    go_enter Try.func3, Try.ntmps3
    go_wp2_with (first
      | go_skip
      | (go_at_call 6; refine (CL _ (HK.out.below B0.out) (HR.out.below B0.out)).mono ?_; rintro e w1 ⟨rfl, hb1⟩; have S1 := Lib.hid (S0.out.below hb1); have B1 := Lib.hid (b_cl B0.out (Nat.le_refl _) hb1); have lt1 := S1.out.lt; have s0_1 := S1.out.cell (k := 0) rfl; have s1_1 := S1.out.cell (k := 1) rfl; have s2_1 := S1.out.cell (k := 2) rfl; clear hb1)
      | (go_at_call 8; refine (CA _ (HK.out.below B1.out) (HR.out.below B1.out)).mono ?_; rintro e w2 ⟨AX, cX, rfl, hrx, _, hb2⟩; have X2 := Lib.hid hrx; have S2 := Lib.hid (S1.out.below hb2); have B2 := Lib.hid (b_cl B1.out (Nat.le_refl _) hb2); have ls2 : w.heap.size < w2.heap.size := S2.out.lt; clear hb2 hrx)
      | (refine wpList_store_box (by rfl) 24 _ _ rfl w2.heap.size #[.int .i64 u0, .int .i64 u1, .int .i64 u2] rfl rfl 24 #[.int .i64 0, .int .i64 0, .int .i64 0] (Bx.new (W := w2) _ _ rfl) size_spot rfl (one3 _ _ _) (fun w3 u => ?_); have bb := ((Below.refl w2.heap.size w2).alloc (Nat.le_refl _) _).trans (u.bel w2.heap.size (Nat.le_refl _)); have N3 := Lib.hid u.box; have S3 := Lib.hid (S2.out.below bb); have X3 := Lib.hid (X2.out.below bb); have B3 := Lib.hid (b_cl B2.out (Nat.le_refl _) bb); have ln3 := N3.out.lt; have s0_3 := S3.out.cell (k := 0) rfl; have s1_3 := S3.out.cell (k := 1) rfl; have s2_3 := S3.out.cell (k := 2) rfl; clear u bb)
      | (go_at_call 9; refine (CR _ (HK.out.below B3.out) (HR.out.below B3.out)).mono ?_; rintro e w4 ⟨AY, cY, rfl, hry, _, hb4⟩; have Y4 := Lib.hid hry; have X4 := Lib.hid (X3.out.below hb4); have S4 := Lib.hid (S3.out.below hb4); have N4 := Lib.hid (N3.out.below hb4); have B4 := Lib.hid (b_cl B3.out (Nat.le_refl _) hb4); have ln4 : w2.heap.size < w4.heap.size := N4.out.lt; clear hb4 hry)
      | (refine wpList_store_box (by rfl) 24 _ _ rfl w4.heap.size #[.int .i64 u0, .int .i64 u1, .int .i64 u2] rfl rfl 24 #[.int .i64 0, .int .i64 0, .int .i64 0] (Bx.new (W := w4) _ _ rfl) size_spot rfl (one3 _ _ _) (fun w5 u => ?_); have bb := ((Below.refl w4.heap.size w4).alloc (Nat.le_refl _) _).trans (u.bel w4.heap.size (Nat.le_refl _)); have M5 := Lib.hid u.box; have N5 := Lib.hid (N4.out.below bb); have S5 := Lib.hid (S4.out.below bb); have X5 := Lib.hid (X4.out.below bb); have Y5 := Lib.hid (Y4.out.below bb); have B5 := Lib.hid (b_cl B4.out (Nat.le_refl _) bb); have lm5 := M5.out.lt; have ln5 := N5.out.lt; have n0_5 := N5.out.cell (k := 0) rfl; have n1_5 := N5.out.cell (k := 1) rfl; have n2_5 := N5.out.cell (k := 2) rfl; have m0_5 := M5.out.cell (k := 0) rfl; have m1_5 := M5.out.cell (k := 1) rfl; have m2_5 := M5.out.cell (k := 2) rfl; clear u bb)
      | (go_at_call 10; refine (sameF_any _ _ _ _ _ _ fl fl _ HM HM X5.out Y5.out HML.out).mono ?_; rintro e w6 ⟨rfl, hb6⟩; rw [decide_eq_true (rfl : fl = fl)]; have S6 := Lib.hid (S5.out.below hb6); have B6 := Lib.hid (b_cl B5.out (Nat.le_refl _) hb6); have ls6 := S6.out.lt; have s0_6 := S6.out.cell (k := 0) rfl; have s1_6 := S6.out.cell (k := 1) rfl; have s2_6 := S6.out.cell (k := 2) rfl; clear hb6)
      | (go_at_call 11; refine (CF _ (HK.out.below B6.out) (HR.out.below B6.out)).mono ?_; rintro e w7 ⟨rfl, hb7⟩; have B7 := Lib.hid (b_cl B6.out (Nat.le_refl _) hb7); clear hb7)
      | (go_at_call 7; refine (alive20_any _).mono ?_; rintro e w9 ⟨rfl, hb9⟩))
    go_ret
    exact ⟨by first | rfl | simp, b_cl B7.out (Nat.le_refl _) hb9⟩

set_option maxRecDepth 100000 in
theorem lifted (os : Os) (started : os.Started) (H : Type) (enc : TypeId × Value → H) :
    ReturnsInHanded {} Try.checked os 3 .any (Rows.trailAuditsSpec.pre6 enc Try.prog Try.f3 Rows.trailAuditsRow.domain false) (Rows.trailAuditsSpec.post enc Try.prog Try.f3 false true false false) := by
  refine returnsInHanded_of_change (C := Try.checked) own started (by kernel_rfl) Try.func3
    (ChangeSpec.witness6 (enc := enc) (C := Try.checked) false ⟨#[], #[.slice none 0 0, .agg #[.int .i64 0, .int .i64 0, .int .i64 0], .slice none 0 0], []⟩ 8 (by kernel_rfl) (by kernel_rfl) (by kernel_rfl) (by kernel_rfl)) ?_
  intro W base args ds gs before hval0 hW hcnd _
  have hval : ∀ (j : Nat) t v, Try.f3.params[j]? = some t → args[j]? = some v → Value.okWide Try.prog W .any base t v := hval0
  have hW' := hW
  obtain ⟨p, q, hA0, hV, rfl, hfz, hnd⟩ := hW
  have hA : DataW.TrodAll enc Try.prog W 0 (fun _ => true) true Try.f3.params.toList args.toList ds p := hA0
  rw [Try.params3] at hA hval
  obtain ⟨v0, vs0, d0, ds0, p0, q0, hargs, rfl, rfl, h0, r0⟩ := trodAll_cons hA
  obtain ⟨v1, vs1, d1, ds1, p1, q1, rfl, rfl, rfl, h1, r1⟩ := trodAll_cons r0
  obtain ⟨v2, vs2, d2, ds2, p2, q2, rfl, rfl, rfl, h2, r2⟩ := trodAll_cons r1
  obtain ⟨rfl, rfl, rfl⟩ := trodAll_nil r2
  obtain rfl : args = #[v0, v1, v2] := by cases args; simp_all
  obtain ⟨rfl, rfl⟩ := trodVars_none hV
  have k0 := h0
  have lt0 : ∀ x ∈ p0, x.block < W.heap.size := by obtain ⟨m, hm⟩ := k0; exact DataW.trod_lt m _ _ _ hm
  obtain ⟨A0, n0, c0, l0, rfl, hn0, rd0, q0, z0⟩ := open_tasks (hval 0 22 v0 rfl rfl) h0
  have k1 := h1
  have lt1 : ∀ x ∈ p1, x.block < W.heap.size := by obtain ⟨m, hm⟩ := k1; exact DataW.trod_lt m _ _ _ hm
  obtain ⟨i1, x1, y1, rfl, _, _, wa1, wb1, wc1⟩ := open_spot (hval 1 24 v1 rfl rfl) h1
  have k2 := h2
  have lt2 : ∀ x ∈ p2, x.block < W.heap.size := by obtain ⟨m, hm⟩ := k2; exact DataW.trod_lt m _ _ _ hm
  obtain ⟨A2, n2, c2, l2, rfl, rfl, rd2, zz2⟩ := open_recs (hval 2 25 v2 rfl rfl) h2
  clear hA0 hval0
  refine (walk W A0 n0 c0 l0 hn0 rd0 q0 z0 i1 x1 y1 (wf_i64 wb1) (wf_i64 wc1) A2 c2 l2 rd2 zz2).mono fun e W' ⟨he, bel⟩ => ?_
  subst he
  exact ⟨_, rfl, _, _, _, [], _, [], hW', trodAll_mk1 (shut_bool Try.underlying4 _), (trodAll_cons_mk (Below.trod laidOut (by kernel_rfl) (of_decide_eq_true (by kernel_rfl)) k0 bel lt0) (trodAll_cons_mk (Below.trod laidOut (by kernel_rfl) (of_decide_eq_true (by kernel_rfl)) k1 bel lt1) (trodAll_cons_mk (Below.trod laidOut (by kernel_rfl) (of_decide_eq_true (by kernel_rfl)) k2 bel lt2) trodAll_mk0))), rfl, bel.frame _, fun h => by cases h⟩

theorem over : Rows.trailAuditsRow.holds Try.pinned (OpenSpec.ofChange Rows.trailAuditsSpec) :=
  OpenClaim.holds_of_wide 3 Try.f3 rfl rfl rfl rfl rfl rfl rfl ⟨rfl, rfl, rfl, rfl, rfl⟩ rfl rfl rfl rfl rfl (by kernel_rfl) Try.func3 (by kernel_rfl)
    (of_decide_eq_true (by kernel_rfl)) (by unfold Func.isWrapper; first | (rw [if_pos (by decide +kernel)]; kernel_rfl) | (rw [if_neg (by decide +kernel)]; exact ⟨rfl, rfl⟩))
    (fun os started H enc _ => lifted os started H enc)

theorem proved : Rows.TrailAuditsSaid := over
#print axioms proved
end Go.Proofs.Ythiiipbfdgaemaa.trailAudits
