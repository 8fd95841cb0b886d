/- Visits and Strip of layer 20 answer as the document's own. -/
import Derived.Test.YthiiipbfdgaemaaRows
import Derived.Test.YthiiipbfdgaemaaZ1
import Derived.Test.YthiiipbfdgaemaaZ2
import Derived.Test.YthiiipbfdgaemaaErrandLight
import Derived.Test.YthiiipbfdgaemaaErrandPast
import Derived.Test.YthiiipbfdgaemaaErrandOverC
import Derived.Test.YthiiipbfdgaemaaRecCheckR
import Derived.Test.YthiiipbfdgaemaaZ3
import Derived.Test.YthiiipbfdgaemaaZ4
import Derived.Test.YthiiipbfdgaemaaTrailLeaf
import Derived.Test.YthiiipbfdgaemaaZ5
import Derived.Test.YthiiipbfdgaemaaTrailVis
import Derived.Test.YthiiipbfdgaemaaTrailRChk
import Derived.Test.YthiiipbfdgaemaaTrailAlive
import Derived.Test.YthiiipbfdgaemaaTrailVisitsC
import Derived.Test.YthiiipbfdgaemaaTrailStrip
import Derived.Test.YthiiipbfdgaemaaTrailRStrip
import Derived.Test.YthiiipbfdgaemaaTrailRVis
import Derived.WalkKit
import Derived.WalkSmall
import Derived.WalkSpells
import Derived.ProofKit
import Derived.OpenShut
import Derived.ShutString
import Derived.ChangeOld
import Derived.Below
import Derived.Lib.Hide
import Derived.OwnWalk
import Derived.Outline
import Derived.Deep.DeepCutAuto
import Derived.BigQuiet
import Derived.Deep.QuietTactic
import Derived.Deep.LoopGhost
import Derived.WalkMore
import Derived.OrdersHeld
import Derived.Deep.RegionHeld3
namespace Go.Proofs.Ythiiipbfdgaemaa.trailVisits
open Go.ChangeShapes Go.WideShapes Go.ChangeAt Go.RowKit
open Go.ChangeMaps (open_string shut_string)
set_option linter.unusedVariables false

theorem own : ownKnob Try.prog.godebug = none := by kernel_rfl
theorem laidOut : laidOutB Try.prog = true := by kernel_rfl

set_option maxRecDepth 20000 in
set_option maxHeartbeats 2000000 in
theorem walk (w : World) (A0 : Option Addr) (n0 c0 : Nat) (l0 : List Tk) (hn0 : l0.length = n0) (r0 : RdK w A0 l0) (q0 : n0 ≤ c0) (z0 : A0 = none → c0 = 0) (i1 x1 y1 : Int) (hx1 : -9223372036854775808 ≤ x1 ∧ x1 ≤ 9223372036854775807) (hy1 : -9223372036854775808 ≤ y1 ∧ y1 ≤ 9223372036854775807) (A2 : Option Addr) (c2 : Nat) (l2 : List Rc) (r2 : RdR w A2 l2) (z2 : A2 = none → c2 = 0) :
    Calls Try.prog 4 #[.slice A0 n0 c0, .agg #[.int .i64 i1, .int .i64 x1, .int .i64 y1], .slice A2 l2.length c2] w fun e w' => e = .returned (.bool true) ∧ Below w.heap.size w w' := by
  obtain ⟨n', hn'⟩ : ∃ n', l2.length = n' := ⟨_, rfl⟩
  rw [hn']
  have CL := fun W (h : RdK W A0 l0) (hr : RdR W A2 l2) => light20_any A0 n0 c0 l0 hn0 A2 n' c2 l2 hn' W h hr
  have S0 := Lib.hid (show Bx (w.alloc (.cells #[.int .i64 i1, .int .i64 x1, .int .i64 y1] 24)) w.heap.size 24 #[.int .i64 i1, .int .i64 x1, .int .i64 y1] from Bx.new (W := w) _ _ rfl)
  have B0 := Lib.hid (show Below w.heap.size w (w.alloc (.cells #[.int .i64 i1, .int .i64 x1, .int .i64 y1] 24)) by (repeat (first | exact Below.refl _ _ | (refine b_st ?_ (by first | (simp; done) | (simp; omega))) | (refine b_al ?_ (Nat.le_refl _) _) | refine b_dn ?_ | refine b_dr ?_ | (refine b_cl ?_ (Nat.le_refl _) (by assumption)))))
  have HK := Lib.hid r0
  have HR := Lib.hid r2
  cases hlv : lightV l0 l2 with
  | false =>
    rw [hlv] at CL
    clear hlv
    go_enter Try.func4, Try.ntmps4
    go_wp2_with (first | go_skip | (go_at_call 6; refine (CL _ (HK.out.below B0.out) (HR.out.below B0.out)).mono ?_; rintro e w1 ⟨rfl, hb1⟩; have S1 := Lib.hid (S0.out.below hb1); have B1 := Lib.hid (b_cl B0.out (Nat.le_refl _) hb1); have lt1 := S1.out.lt; have s0_1 := S1.out.cell (k := 0) rfl; have s1_1 := S1.out.cell (k := 1) rfl; have s2_1 := S1.out.cell (k := 2) rfl; clear hb1) | (go_at_call 7; refine (alive20_any _).mono ?_; rintro e w9 ⟨rfl, hb9⟩))
    go_ret
    exact ⟨rfl, b_cl B1.out (Nat.le_refl _) hb9⟩
  | true =>
  rw [hlv] at CL
  obtain ⟨lk, h60⟩ := lightV_is hlv
  clear hlv
  have CR := fun W (h : RdK W A0 l0) (hr : RdR W A2 l2) => rchk20_any A0 n0 c0 l0 hn0 i1 x1 y1 A2 n' c2 l2 hn' W h lk.few hr (by omega)
  have CC := fun W (hr : RdR W A2 l2) => refrcheck_any A2 c2 l2 W hr (by omega)
  rw [hn'] at CC
  obtain ⟨E, hE⟩ : ∃ E, checkE l0 (i1, x1, y1) l2 = E := ⟨_, rfl⟩
  obtain ⟨G, hG⟩ : ∃ G, (checkV l2).2 = G := ⟨_, rfl⟩
  obtain ⟨gp, hgp⟩ : ∃ gp, (checkV l2).1 = gp := ⟨_, rfl⟩
  rw [hE] at CR
  rw [hG, hgp] at CC
  by_cases g0 : G = 0
  case neg =>
    have e0 : E ≠ 0 := by
      rw [← hE]
      unfold checkE
      split
      · rw [hG]; exact g0
      · assumption
    have CV := fun W (h : RdK W A0 l0) (hr : RdR W A2 l2) => visits20_any A0 n0 c0 l0 hn0 i1 x1 y1 A2 n' c2 l2 hn' W h lk.few q0 z0 hx1 hy1 hr (by omega) (visv_bad hE e0) (m := 0) rfl
    have CS := fun W (hr : RdR W A2 l2) => strip20_any A2 n' c2 l2 hn' W hr (by omega) (vl := []) (er := G) (by unfold stripV; rw [hG, if_neg g0]) (m := 0) rfl
    have g1 : (G == 0) = false := by simp [g0]
    have g2 : (G != 0) = true := by simp [g0]
    have g3 : (E != 0) = true := by simp [e0]
    have g4 : (E == 0) = false := by simp [e0]
    clear hE hG hgp r0 r2 hn0 hn' q0 z0 hx1 hy1 lk h60 g0 e0
    go_enter Try.func4, Try.ntmps4
    go_wp2_with (first
      | go_skip
      | (go_at_call 6; refine (CL _ (HK.out.below B0.out) (HR.out.below B0.out)).mono ?_; rintro e w1 ⟨rfl, hb1⟩; have S1 := Lib.hid (S0.out.below hb1); have B1 := Lib.hid (b_cl B0.out (Nat.le_refl _) hb1); have lt1 := S1.out.lt; have s0_1 := S1.out.cell (k := 0) rfl; have s1_1 := S1.out.cell (k := 1) rfl; have s2_1 := S1.out.cell (k := 2) rfl; clear hb1)
      | (go_at_call 12; refine (CV _ (HK.out.below B1.out) (HR.out.below B1.out)).mono ?_; rintro e w2 ⟨AV, cV, rfl, hrv, _, hb2⟩; have X2 := Lib.hid hrv; have S2 := Lib.hid (S1.out.below hb2); have B2 := Lib.hid (b_cl B1.out (Nat.le_refl _) hb2); clear hb2 hrv)
      | (go_at_call 13; refine (CS _ (HR.out.below B2.out)).mono ?_; rintro e w3 ⟨AS, cS, rfl, hrs, hb3⟩; have Y3 := Lib.hid hrs; have X3 := Lib.hid (X2.out.below hb3); have S3 := Lib.hid (S2.out.below hb3); have B3 := Lib.hid (b_cl B2.out (Nat.le_refl _) hb3); clear hb3 hrs)
      | (go_at_call 14; refine (CC _ (HR.out.below B3.out)).mono ?_; rintro e w4 ⟨rfl, hb4⟩; have Y4 := Lib.hid (Y3.out.below hb4); have X4 := Lib.hid (X3.out.below hb4); have S4 := Lib.hid (S3.out.below hb4); have B4 := Lib.hid (b_cl B3.out (Nat.le_refl _) hb4); have ls4 := S4.out.lt; have s0_4 := S4.out.cell (k := 0) rfl; have s1_4 := S4.out.cell (k := 1) rfl; have s2_4 := S4.out.cell (k := 2) rfl; clear hb4)
      | (go_at_call 15; refine (CR _ (HK.out.below B4.out) (HR.out.below B4.out)).mono ?_; rintro e w5 ⟨rfl, hb5⟩; have Y5 := Lib.hid (Y4.out.below hb5); have X5 := Lib.hid (X4.out.below hb5); have S5 := Lib.hid (S4.out.below hb5); have B5 := Lib.hid (b_cl B4.out (Nat.le_refl _) hb5); clear hb5)
      | (go_at_call 7; refine (alive20_any _).mono ?_; rintro e w9 ⟨rfl, hb9⟩))
    go_ret
    exact ⟨by first | rfl | simp, b_cl B5.out (Nat.le_refl _) hb9⟩
  subst g0
  have tl := check_tl hG
  obtain ⟨xs, hxs⟩ : ∃ xs, stripR l2 = xs := ⟨_, rfl⟩
  obtain ⟨M, hM⟩ : ∃ M, xs.length = M := ⟨_, rfl⟩
  have CS := fun W (hr : RdR W A2 l2) => strip20_any A2 n' c2 l2 hn' W hr (by omega) (vl := xs) (er := 0) (by unfold stripV; rw [hG, if_pos rfl, hxs]) hM
  have CT := fun W (hr : RdR W A2 l2) => rstrip20_any A2 n' c2 l2 hn' W hr (by omega) tl (M := M) (by rw [strip_kinds tl, hxs, hM])
  rw [strip_kinds tl, hxs] at CT
  have HM2 := Lib.hid hM
  have HML := Lib.hid (show M ≤ 4611686018427387904 by
    have h1 := tl.short
    have h2 := stripK_len (kindsV l2)
    rw [strip_kinds tl, hxs, hM] at h2
    omega)
  by_cases e0 : E = 0
  case neg =>
    have CV := fun W (h : RdK W A0 l0) (hr : RdR W A2 l2) => visits20_any A0 n0 c0 l0 hn0 i1 x1 y1 A2 n' c2 l2 hn' W h lk.few q0 z0 hx1 hy1 hr (by omega) (visv_bad hE e0) (m := 0) rfl
    have g3 : (E != 0) = true := by simp [e0]
    have g4 : (E == 0) = false := by simp [e0]
    clear hE hG hgp hxs hM tl r0 r2 hn0 hn' q0 z0 hx1 hy1 lk h60 e0
    go_enter Try.func4, Try.ntmps4
    go_wp2_with (first
      | go_skip
      | (go_at_call 6; refine (CL _ (HK.out.below B0.out) (HR.out.below B0.out)).mono ?_; rintro e w1 ⟨rfl, hb1⟩; have S1 := Lib.hid (S0.out.below hb1); have B1 := Lib.hid (b_cl B0.out (Nat.le_refl _) hb1); have lt1 := S1.out.lt; have s0_1 := S1.out.cell (k := 0) rfl; have s1_1 := S1.out.cell (k := 1) rfl; have s2_1 := S1.out.cell (k := 2) rfl; clear hb1)
      | (go_at_call 12; refine (CV _ (HK.out.below B1.out) (HR.out.below B1.out)).mono ?_; rintro e w2 ⟨AV, cV, rfl, hrv, _, hb2⟩; have X2 := Lib.hid hrv; have S2 := Lib.hid (S1.out.below hb2); have B2 := Lib.hid (b_cl B1.out (Nat.le_refl _) hb2); clear hb2 hrv)
      | (go_at_call 13; refine (CS _ (HR.out.below B2.out)).mono ?_; rintro e w3 ⟨AS, cS, rfl, hrs, hb3⟩; have Y3 := Lib.hid hrs; have X3 := Lib.hid (X2.out.below hb3); have S3 := Lib.hid (S2.out.below hb3); have B3 := Lib.hid (b_cl B2.out (Nat.le_refl _) hb3); clear hb3 hrs)
      | (go_at_call 14; refine (CC _ (HR.out.below B3.out)).mono ?_; rintro e w4 ⟨rfl, hb4⟩; have Y4 := Lib.hid (Y3.out.below hb4); have X4 := Lib.hid (X3.out.below hb4); have S4 := Lib.hid (S3.out.below hb4); have B4 := Lib.hid (b_cl B3.out (Nat.le_refl _) hb4); have ls4 := S4.out.lt; have s0_4 := S4.out.cell (k := 0) rfl; have s1_4 := S4.out.cell (k := 1) rfl; have s2_4 := S4.out.cell (k := 2) rfl; clear hb4)
      | (go_at_call 15; refine (CR _ (HK.out.below B4.out) (HR.out.below B4.out)).mono ?_; rintro e w5 ⟨rfl, hb5⟩; have Y5 := Lib.hid (Y4.out.below hb5); have X5 := Lib.hid (X4.out.below hb5); have S5 := Lib.hid (S4.out.below hb5); have B5 := Lib.hid (b_cl B4.out (Nat.le_refl _) hb5); clear hb5)
      | (go_at_call 17; refine (CT _ (HR.out.below B5.out)).mono ?_; rintro e w6 ⟨AT, cT, rfl, hrt, hb6⟩; have T6 := Lib.hid hrt; have Y6 := Lib.hid (Y5.out.below hb6); have X6 := Lib.hid (X5.out.below hb6); have S6 := Lib.hid (S5.out.below hb6); have B6 := Lib.hid (b_cl B5.out (Nat.le_refl _) hb6); clear hb6 hrt)
      | (go_at_call 16; refine (sameN_any _ _ _ _ _ _ xs xs _ HM2 HM2 Y6.out T6.out HML.out HML.out).mono ?_; rintro e w7 ⟨rfl, hb7⟩; rw [decide_eq_true (rfl : xs = xs)]; have X7 := Lib.hid (X6.out.below hb7); have S7 := Lib.hid (S6.out.below hb7); have B7 := Lib.hid (b_cl B6.out (Nat.le_refl _) hb7); have ls7 := S7.out.lt; have s0_7 := S7.out.cell (k := 0) rfl; have s1_7 := S7.out.cell (k := 1) rfl; have s2_7 := S7.out.cell (k := 2) rfl; clear hb7)
      | (go_at_call 7; refine (alive20_any _).mono ?_; rintro e w9 ⟨rfl, hb9⟩))
    go_ret
    exact ⟨by first | rfl | simp, b_cl B7.out (Nat.le_refl _) hb9⟩
  subst e0
  obtain ⟨ck, fit, _⟩ := checkE_zero hE
  obtain ⟨vs, hvs⟩ : ∃ vs, (visS l0 (kindsV l2) (beg l2) ((i1, x1, y1), -1, [])).2.2 = vs := ⟨_, rfl⟩
  obtain ⟨m, hm⟩ : ∃ m, vs.length = m := ⟨_, rfl⟩
  have CV := fun W (h : RdK W A0 l0) (hr : RdR W A2 l2) => visits20_any A0 n0 c0 l0 hn0 i1 x1 y1 A2 n' c2 l2 hn' W h lk.few q0 z0 hx1 hy1 hr (by omega) (show visV l0 (i1, x1, y1) l2 = (vs, 0) by rw [visv_ok hE, hvs]) hm
  have CW := fun W (h : RdK W A0 l0) (hr : RdR W A2 l2) => rvisits20_any A0 n0 c0 l0 hn0 i1 x1 y1 A2 n' c2 l2 hn' W h lk.few hr (by omega) ck fit tl (M := m) (by rw [hvs, hm])
  rw [hvs] at CW
  have hml : m ≤ 40320 := by
    have h1 := vis_len l0 (kindsV l2) (beg l2) (i1, x1, y1) (-1) []
    rw [hvs, hm] at h1
    have h2 := tl.short
    simp only [List.length_nil] at h1
    omega
  have HVM := Lib.hid hm
  clear hE hG hgp hxs hM hvs hm tl ck fit r0 r2 hn0 hn' q0 z0 hx1 hy1 lk h60
  go_enter Try.func4, Try.ntmps4
  go_wp2_with (first
    | go_skip
    | (go_at_call 6; refine (CL _ (HK.out.below B0.out) (HR.out.below B0.out)).mono ?_; rintro e w1 ⟨rfl, hb1⟩; have S1 := Lib.hid (S0.out.below hb1); have B1 := Lib.hid (b_cl B0.out (Nat.le_refl _) hb1); have lt1 := S1.out.lt; have s0_1 := S1.out.cell (k := 0) rfl; have s1_1 := S1.out.cell (k := 1) rfl; have s2_1 := S1.out.cell (k := 2) rfl; clear hb1)
    | (go_at_call 12; refine (CV _ (HK.out.below B1.out) (HR.out.below B1.out)).mono ?_; rintro e w2 ⟨AV, cV, rfl, hrv, _, hb2⟩; have X2 := Lib.hid hrv; have S2 := Lib.hid (S1.out.below hb2); have B2 := Lib.hid (b_cl B1.out (Nat.le_refl _) hb2); clear hb2 hrv)
    | (go_at_call 13; refine (CS _ (HR.out.below B2.out)).mono ?_; rintro e w3 ⟨AS, cS, rfl, hrs, hb3⟩; have Y3 := Lib.hid hrs; have X3 := Lib.hid (X2.out.below hb3); have S3 := Lib.hid (S2.out.below hb3); have B3 := Lib.hid (b_cl B2.out (Nat.le_refl _) hb3); clear hb3 hrs)
    | (go_at_call 14; refine (CC _ (HR.out.below B3.out)).mono ?_; rintro e w4 ⟨rfl, hb4⟩; have Y4 := Lib.hid (Y3.out.below hb4); have X4 := Lib.hid (X3.out.below hb4); have S4 := Lib.hid (S3.out.below hb4); have B4 := Lib.hid (b_cl B3.out (Nat.le_refl _) hb4); have ls4 := S4.out.lt; have s0_4 := S4.out.cell (k := 0) rfl; have s1_4 := S4.out.cell (k := 1) rfl; have s2_4 := S4.out.cell (k := 2) rfl; clear hb4)
    | (go_at_call 15; refine (CR _ (HK.out.below B4.out) (HR.out.below B4.out)).mono ?_; rintro e w5 ⟨rfl, hb5⟩; have Y5 := Lib.hid (Y4.out.below hb5); have X5 := Lib.hid (X4.out.below hb5); have S5 := Lib.hid (S4.out.below hb5); have B5 := Lib.hid (b_cl B4.out (Nat.le_refl _) hb5); clear hb5)
    | (go_at_call 17; refine (CT _ (HR.out.below B5.out)).mono ?_; rintro e w6 ⟨AT, cT, rfl, hrt, hb6⟩; have T6 := Lib.hid hrt; have Y6 := Lib.hid (Y5.out.below hb6); have X6 := Lib.hid (X5.out.below hb6); have S6 := Lib.hid (S5.out.below hb6); have B6 := Lib.hid (b_cl B5.out (Nat.le_refl _) hb6); clear hb6 hrt)
    | (go_at_call 16; refine (sameN_any _ _ _ _ _ _ xs xs _ HM2 HM2 Y6.out T6.out HML.out HML.out).mono ?_; rintro e w7 ⟨rfl, hb7⟩; rw [decide_eq_true (rfl : xs = xs)]; have X7 := Lib.hid (X6.out.below hb7); have S7 := Lib.hid (S6.out.below hb7); have B7 := Lib.hid (b_cl B6.out (Nat.le_refl _) hb7); have ls7 := S7.out.lt; have s0_7 := S7.out.cell (k := 0) rfl; have s1_7 := S7.out.cell (k := 1) rfl; have s2_7 := S7.out.cell (k := 2) rfl; clear hb7)
    | (go_at_call 18; refine (CW _ (HK.out.below B7.out) (HR.out.below B7.out)).mono ?_; rintro e w8 ⟨AW, cW, rfl, hrw, hb8⟩; have Z8 := Lib.hid hrw; have X8 := Lib.hid (X7.out.below hb8); have B8 := Lib.hid (b_cl B7.out (Nat.le_refl _) hb8); clear hb8 hrw)
    | (go_at_call 7; refine (alive20_any _).mono ?_; rintro e w9 ⟨rfl, hb9⟩))
  go_loopw [91] (fun i wr => ∃ k : Nat, k ≤ m ∧ i = .int .i64 k ∧ Below w8.heap.size w8 wr) (fun i _ => m - (intOf i).toNat)
  case atStart => exact ⟨0, Nat.zero_le _, rfl, Below.refl _ _⟩
  case round =>
    obtain ⟨k, hk, rfl, hbw⟩ := hrel
    have hsz := hbw.size
    by_cases hlt : k < m
    · have gk : (k : Int) < (m : Int) := by omega
      obtain ⟨b1, off, x, y, z, rfl, hbb, hc0, hc1, hc2, hs⟩ := (X8.out.below hbw).at_ (k := k) (by rw [HVM.out]; exact hlt)
      obtain ⟨b2, off2, x2, y2, z2, rfl, hbb2, hd0, hd1, hd2, hs2⟩ := (Z8.out.below hbw).at_ (k := k) (by rw [HVM.out]; exact hlt)
      have he := hs.out.symm.trans hs2.out
      simp only [Prod.mk.injEq] at he
      obtain ⟨rfl, rfl, rfl⟩ := he
      have q0 : ∀ p : BelowOf wr, p.world.cell? ⟨b1, off + k * 3, none⟩ = some (.int .i64 x) := fun p => p.cell hc0
      have q1 : ∀ p : BelowOf wr, p.world.cell? ⟨b1, off + k * 3 + 1, none⟩ = some (.int .i64 y) := fun p => p.cell hc1
      have q2 : ∀ p : BelowOf wr, p.world.cell? ⟨b1, off + k * 3 + 2, none⟩ = some (.int .i64 z) := fun p => p.cell hc2
      have q3 : ∀ p : BelowOf wr, p.world.cell? ⟨b2, off2 + k * 3, none⟩ = some (.int .i64 x) := fun p => p.cell hd0
      have q4 : ∀ p : BelowOf wr, p.world.cell? ⟨b2, off2 + k * 3 + 1, none⟩ = some (.int .i64 y) := fun p => p.cell hd1
      have q5 : ∀ p : BelowOf wr, p.world.cell? ⟨b2, off2 + k * 3 + 2, none⟩ = some (.int .i64 z) := fun p => p.cell hd2
      go_upto_region 19 with fail
      refine wp_region_bel (by kernel_rfl) (by kernel_rfl) ?_
      repeat (go_big_quiet_step (first | (fail)))
      refine wpQuiet_nil ?_
      refine bel_all fun wq hbq => ?_
      clear q0 q1 q2 q3 q4 q5
      go_wp2_with fail
      go_roundw
      case rel => exact ⟨k + 1, by omega, by go_num, hbw.trans (hbq.mono hsz)⟩
      case measure => simp [intOf]; omega
    · have gk : (m : Int) ≤ (k : Int) := by omega
      go_wp2_with (first | go_skip | (go_at_call 7; refine (alive20_any _).mono ?_; rintro e w9 ⟨rfl, hb9⟩))
      go_ret
      exact ⟨rfl, (B8.out.trans (hbw.mono (by have := B8.out.size; omega))).trans (hb9.mono (by have := B8.out.size; omega))⟩

set_option maxRecDepth 100000 in
theorem lifted (os : Os) (started : os.Started) (H : Type) (enc : TypeId × Value → H) :
    ReturnsInHanded {} Try.checked os 4 .any (Rows.trailVisitsSpec.pre6 enc Try.prog Try.f4 Rows.trailVisitsRow.domain false) (Rows.trailVisitsSpec.post enc Try.prog Try.f4 false true false false) := by
  refine returnsInHanded_of_change (C := Try.checked) own started (by kernel_rfl) Try.func4
    (ChangeSpec.witness6 (enc := enc) (C := Try.checked) false ⟨#[], #[.slice none 0 0, .agg #[.int .i64 0, .int .i64 0, .int .i64 0], .slice none 0 0], []⟩ 8 (by kernel_rfl) (by kernel_rfl) (by kernel_rfl) (by kernel_rfl)) ?_
  intro W base args ds gs before hval0 hW hcnd _
  have hval : ∀ (j : Nat) t v, Try.f4.params[j]? = some t → args[j]? = some v → Value.okWide Try.prog W .any base t v := hval0
  have hW' := hW
  obtain ⟨p, q, hA0, hV, rfl, hfz, hnd⟩ := hW
  have hA : DataW.TrodAll enc Try.prog W 0 (fun _ => true) true Try.f4.params.toList args.toList ds p := hA0
  rw [Try.params4] at hA hval
  obtain ⟨v0, vs0, d0, ds0, p0, q0, hargs, rfl, rfl, h0, r0⟩ := trodAll_cons hA
  obtain ⟨v1, vs1, d1, ds1, p1, q1, rfl, rfl, rfl, h1, r1⟩ := trodAll_cons r0
  obtain ⟨v2, vs2, d2, ds2, p2, q2, rfl, rfl, rfl, h2, r2⟩ := trodAll_cons r1
  obtain ⟨rfl, rfl, rfl⟩ := trodAll_nil r2
  obtain rfl : args = #[v0, v1, v2] := by cases args; simp_all
  obtain ⟨rfl, rfl⟩ := trodVars_none hV
  have k0 := h0
  have lt0 : ∀ x ∈ p0, x.block < W.heap.size := by obtain ⟨m, hm⟩ := k0; exact DataW.trod_lt m _ _ _ hm
  obtain ⟨A0, n0, c0, l0, rfl, hn0, rd0, q0, z0⟩ := open_tasks (hval 0 22 v0 rfl rfl) h0
  have k1 := h1
  have lt1 : ∀ x ∈ p1, x.block < W.heap.size := by obtain ⟨m, hm⟩ := k1; exact DataW.trod_lt m _ _ _ hm
  obtain ⟨i1, x1, y1, rfl, _, _, wa1, wb1, wc1⟩ := open_spot (hval 1 24 v1 rfl rfl) h1
  have k2 := h2
  have lt2 : ∀ x ∈ p2, x.block < W.heap.size := by obtain ⟨m, hm⟩ := k2; exact DataW.trod_lt m _ _ _ hm
  obtain ⟨A2, n2, c2, l2, rfl, rfl, rd2, zz2⟩ := open_recs (hval 2 25 v2 rfl rfl) h2
  clear hA0 hval0
  refine (walk W A0 n0 c0 l0 hn0 rd0 q0 z0 i1 x1 y1 (wf_i64 wb1) (wf_i64 wc1) A2 c2 l2 rd2 zz2).mono fun e W' ⟨he, bel⟩ => ?_
  subst he
  exact ⟨_, rfl, _, _, _, [], _, [], hW', trodAll_mk1 (shut_bool Try.underlying4 _), (trodAll_cons_mk (Below.trod laidOut (by kernel_rfl) (of_decide_eq_true (by kernel_rfl)) k0 bel lt0) (trodAll_cons_mk (Below.trod laidOut (by kernel_rfl) (of_decide_eq_true (by kernel_rfl)) k1 bel lt1) (trodAll_cons_mk (Below.trod laidOut (by kernel_rfl) (of_decide_eq_true (by kernel_rfl)) k2 bel lt2) trodAll_mk0))), rfl, bel.frame _, fun h => by cases h⟩

theorem over : Rows.trailVisitsRow.holds Try.pinned (OpenSpec.ofChange Rows.trailVisitsSpec) :=
  OpenClaim.holds_of_wide 4 Try.f4 rfl rfl rfl rfl rfl rfl rfl ⟨rfl, rfl, rfl, rfl, rfl⟩ rfl rfl rfl rfl rfl (by kernel_rfl) Try.func4 (by kernel_rfl)
    (of_decide_eq_true (by kernel_rfl)) (by unfold Func.isWrapper; first | (rw [if_pos (by decide +kernel)]; kernel_rfl) | (rw [if_neg (by decide +kernel)]; exact ⟨rfl, rfl⟩))
    (fun os started H enc _ => lifted os started H enc)

theorem proved : Rows.TrailVisitsSaid := over
#print axioms proved
end Go.Proofs.Ythiiipbfdgaemaa.trailVisits
