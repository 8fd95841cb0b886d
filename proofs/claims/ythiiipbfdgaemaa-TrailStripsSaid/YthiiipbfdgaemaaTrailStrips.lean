/- Strip of a timeline that follows is the sum of what was left, and its Visits are the services in it. -/
import Derived.Test.YthiiipbfdgaemaaRows
import Derived.Test.YthiiipbfdgaemaaZ1
import Derived.Test.YthiiipbfdgaemaaZ2
import Derived.Test.YthiiipbfdgaemaaErrandLight
import Derived.Test.YthiiipbfdgaemaaErrandPast
import Derived.Test.YthiiipbfdgaemaaErrandOverC
import Derived.Test.YthiiipbfdgaemaaRecCheckR
import Derived.Test.YthiiipbfdgaemaaZ3
import Derived.Test.YthiiipbfdgaemaaZ4
import Derived.Test.YthiiipbfdgaemaaTrailLeaf
import Derived.Test.YthiiipbfdgaemaaZ5
import Derived.Test.YthiiipbfdgaemaaTrailVis
import Derived.Test.YthiiipbfdgaemaaTrailRChk
import Derived.Test.YthiiipbfdgaemaaTrailAlive
import Derived.Test.YthiiipbfdgaemaaTrailFollows
import Derived.Test.YthiiipbfdgaemaaTrailVisitsC
import Derived.Test.YthiiipbfdgaemaaTrailStrip
import Derived.Test.YthiiipbfdgaemaaTrailRSum
import Derived.Test.YthiiipbfdgaemaaErrandSpot
import Derived.WalkKit
import Derived.WalkSmall
import Derived.WalkSpells
import Derived.ProofKit
import Derived.OpenShut
import Derived.ShutString
import Derived.ChangeOld
import Derived.Below
import Derived.Lib.Hide
import Derived.OwnWalk
import Derived.Outline
import Derived.Deep.DeepCutAuto
import Derived.BigQuiet
import Derived.Deep.QuietTactic
import Derived.Deep.LoopGhost
import Derived.WalkMore
import Derived.OrdersHeld
import Derived.Deep.RegionHeld3
namespace Go.Proofs.Ythiiipbfdgaemaa.trailStrips
open Go.ChangeShapes Go.WideShapes Go.ChangeAt Go.RowKit
open Go.ChangeMaps (open_string shut_string)
set_option linter.unusedVariables false

theorem own : ownKnob Try.prog.godebug = none := by kernel_rfl
theorem laidOut : laidOutB Try.prog = true := by kernel_rfl

set_option maxRecDepth 20000 in
set_option maxHeartbeats 2000000 in
theorem walk (w : World) (A0 : Option Addr) (n0 c0 : Nat) (l0 : List Tk) (hn0 : l0.length = n0) (r0 : RdK w A0 l0) (q0 : n0 ≤ c0) (z0 : A0 = none → c0 = 0) (i1 x1 y1 : Int) (hx1 : -9223372036854775808 ≤ x1 ∧ x1 ≤ 9223372036854775807) (hy1 : -9223372036854775808 ≤ y1 ∧ y1 ≤ 9223372036854775807) (A2 : Option Addr) (c2 : Nat) (l2 : List Rc) (r2 : RdR w A2 l2) (z2 : A2 = none → c2 = 0) :
    Calls Try.prog 5 #[.slice A0 n0 c0, .agg #[.int .i64 i1, .int .i64 x1, .int .i64 y1], .slice A2 l2.length c2] w fun e w' => e = .returned (.bool true) ∧ Below w.heap.size w w' := by
  obtain ⟨n', hn'⟩ : ∃ n', l2.length = n' := ⟨_, rfl⟩
  rw [hn']
  have CL := fun W (h : RdK W A0 l0) (hr : RdR W A2 l2) => light20_any A0 n0 c0 l0 hn0 A2 n' c2 l2 hn' W h hr
  have S0 := Lib.hid (show Bx (w.alloc (.cells #[.int .i64 i1, .int .i64 x1, .int .i64 y1] 24)) w.heap.size 24 #[.int .i64 i1, .int .i64 x1, .int .i64 y1] from Bx.new (W := w) _ _ rfl)
  have B0 := Lib.hid (show Below w.heap.size w (w.alloc (.cells #[.int .i64 i1, .int .i64 x1, .int .i64 y1] 24)) by (repeat (first | exact Below.refl _ _ | (refine b_st ?_ (by first | (simp; done) | (simp; omega))) | (refine b_al ?_ (Nat.le_refl _) _) | refine b_dn ?_ | refine b_dr ?_ | (refine b_cl ?_ (Nat.le_refl _) (by assumption)))))
  have HK := Lib.hid r0
  have HR := Lib.hid r2
  cases hlv : lightV l0 l2 with
  | false =>
    rw [hlv] at CL
    clear hlv
    go_enter Try.func5, Try.ntmps5
    go_wp2_with (first | go_skip | (go_at_call 6; refine (CL _ (HK.out.below B0.out) (HR.out.below B0.out)).mono ?_; rintro e w1 ⟨rfl, hb1⟩; have S1 := Lib.hid (S0.out.below hb1); have B1 := Lib.hid (b_cl B0.out (Nat.le_refl _) hb1); have lt1 := S1.out.lt; have s0_1 := S1.out.cell (k := 0) rfl; have s1_1 := S1.out.cell (k := 1) rfl; have s2_1 := S1.out.cell (k := 2) rfl; clear hb1) | (go_at_call 7; refine (alive20_any _).mono ?_; rintro e w9 ⟨rfl, hb9⟩))
    go_ret
    exact ⟨rfl, b_cl B1.out (Nat.le_refl _) hb9⟩
  | true =>
  rw [hlv] at CL
  obtain ⟨lk, h60⟩ := lightV_is hlv
  clear hlv
  obtain ⟨⟨p, fl, er⟩, hV⟩ : ∃ X, audV l0 (i1, x1, y1) l2 = X := ⟨_, rfl⟩
  have CF := fun W (h : RdK W A0 l0) (hr : RdR W A2 l2) => follows20_any A0 n0 c0 l0 hn0 i1 x1 y1 A2 n' c2 l2 hn' W h lk.few q0 z0 hx1 hy1 hr (by omega) hV
  by_cases hfo : er = 0 ∧ fl = []
  case neg =>
    rw [decide_eq_false hfo] at CF
    clear hV hfo r0 r2 hn0 hn' q0 z0 hx1 hy1 lk h60
    go_enter Try.func5, Try.ntmps5
    go_wp2_with (first
      | go_skip
      | (go_at_call 6; refine (CL _ (HK.out.below B0.out) (HR.out.below B0.out)).mono ?_; rintro e w1 ⟨rfl, hb1⟩; have S1 := Lib.hid (S0.out.below hb1); have B1 := Lib.hid (b_cl B0.out (Nat.le_refl _) hb1); have lt1 := S1.out.lt; have s0_1 := S1.out.cell (k := 0) rfl; have s1_1 := S1.out.cell (k := 1) rfl; have s2_1 := S1.out.cell (k := 2) rfl; clear hb1)
      | (go_at_call 11; refine (CF _ (HK.out.below B1.out) (HR.out.below B1.out)).mono ?_; rintro e w2 ⟨rfl, hb2⟩; have S2 := Lib.hid (S1.out.below hb2); have B2 := Lib.hid (b_cl B1.out (Nat.le_refl _) hb2); clear hb2)
      | (go_at_call 7; refine (alive20_any _).mono ?_; rintro e w9 ⟨rfl, hb9⟩))
    go_ret
    exact ⟨by first | rfl | simp, b_cl B2.out (Nat.le_refl _) hb9⟩
  rw [decide_eq_true hfo] at CF
  obtain ⟨rfl, rfl⟩ := hfo
  have hE : checkE l0 (i1, x1, y1) l2 = 0 := by
    by_cases h : checkE l0 (i1, x1, y1) l2 = 0
    · exact h
    · rw [aud_bad rfl h] at hV
      injection hV with _ h2
      injection h2 with _ h3
  obtain ⟨ck, fit, tl⟩ := checkE_zero hE
  obtain ⟨ok, hl2⟩ := checkt_zero ck
  have tb0 := tl.bd.1
  obtain ⟨hno, hnl⟩ : (runS l0 (kindsV l2) (beg l2) ((i1, x1, y1), none4)).2 = none4 ∧ ¬ (runS l0 (kindsV l2) (beg l2) ((i1, x1, y1), none4)).1.1 < l0.length := by
    rw [aud_ok hE rfl] at hV
    injection hV with _ h2
    injection h2 with h3 _
    exact follows_none (runS_ok (kindsV l2) fok_none tb0) h3
  have hst := follow_strip ok fit tb0 hno hnl
  obtain ⟨vs, hvs⟩ : ∃ vs, (visS l0 (kindsV l2) (beg l2) ((i1, x1, y1), -1, [])).2.2 = vs := ⟨_, rfl⟩
  obtain ⟨hall, hord, hcnt⟩ := follow_visits ok fit tb0 hno hnl hvs
  obtain ⟨m, hm⟩ : ∃ m, vs.length = m := ⟨_, rfl⟩
  obtain ⟨xs, hxs⟩ : ∃ xs, sumT l0 (i1, x1, y1) = xs := ⟨_, rfl⟩
  obtain ⟨M, hM⟩ : ∃ M, xs.length = M := ⟨_, rfl⟩
  have CS := fun W (hr : RdR W A2 l2) => strip20_any A2 n' c2 l2 hn' W hr (by omega) (vl := xs) (er := 0) (by unfold stripV; rw [tl_check tl, if_pos rfl, ← strip_kinds tl, hst, hxs]) hM
  have CV := fun W (h : RdK W A0 l0) (hr : RdR W A2 l2) => visits20_any A0 n0 c0 l0 hn0 i1 x1 y1 A2 n' c2 l2 hn' W h lk.few q0 z0 hx1 hy1 hr (by omega) (show visV l0 (i1, x1, y1) l2 = (vs, 0) by rw [visv_ok hE, hvs]) hm
  have CU := fun W (h : RdK W A0 l0) => rsum20_any A0 n0 c0 l0 hn0 i1 x1 y1 W h ok (by omega) fit (M := M) (by rw [hxs, hM])
  rw [hxs] at CU
  have CI := fun W (h : RdK W A0 l0) => reffits19_any A0 n0 c0 l0 hn0 i1 x1 y1 W h
  rw [decide_eq_true fit] at CI
  have hsh := tl.short
  have HM2 := Lib.hid hM
  have HML := Lib.hid (show M ≤ 4611686018427387904 by
    have h2 := stripK_len (kindsV l2)
    rw [hst, hxs, hM] at h2
    omega)
  have hml : m ≤ 40320 := by
    have h1 := vis_len l0 (kindsV l2) (beg l2) (i1, x1, y1) (-1) []
    rw [hvs, hm] at h1
    simp only [List.length_nil] at h1
    omega
  have HVM := Lib.hid hm
  have HALL := Lib.hid hall
  have HORD := Lib.hid hord
  have fi0 := fit.1
  have fi1 := fit.2.1
  obtain ⟨i0, rfl⟩ : ∃ i0 : Nat, i1 = (i0 : Int) := ⟨i1.toNat, by simp only at fi0; omega⟩
  rw [hm] at hcnt
  have HCN := Lib.hid (show 0 + restW l0 ((i0 : Int), x1, y1) i0 i0 = m by rw [hcnt]; unfold restW; rw [if_pos rfl]; omega)
  have hi0 : i0 ≤ n0 := by simp only at fi1; omega
  have HN := Lib.hid hn0
  have OK := Lib.hid ok
  have lkf := Lib.hid lk.few
  have hnn : n0 ≤ 2001 := by omega
  clear hV hE ck fit tl ok tb0 hno hnl hst hvs hall hord hcnt hm hxs hM hsh fi0 fi1 r0 r2 hn0 hn' q0 z0 hx1 hy1 lk h60 hl2
  go_enter Try.func5, Try.ntmps5
  go_wp2_with (first
    | go_skip
    | (go_at_call 6; refine (CL _ (HK.out.below B0.out) (HR.out.below B0.out)).mono ?_; rintro e w1 ⟨rfl, hb1⟩; have S1 := Lib.hid (S0.out.below hb1); have B1 := Lib.hid (b_cl B0.out (Nat.le_refl _) hb1); have lt1 := S1.out.lt; have s0_1 := S1.out.cell (k := 0) rfl; have s1_1 := S1.out.cell (k := 1) rfl; have s2_1 := S1.out.cell (k := 2) rfl; clear hb1)
    | (go_at_call 11; refine (CF _ (HK.out.below B1.out) (HR.out.below B1.out)).mono ?_; rintro e w2 ⟨rfl, hb2⟩; have S2 := Lib.hid (S1.out.below hb2); have B2 := Lib.hid (b_cl B1.out (Nat.le_refl _) hb2); clear hb2)
    | (go_at_call 13; refine (CS _ (HR.out.below B2.out)).mono ?_; rintro e w3 ⟨AS, cS, rfl, hrs, hb3⟩; have Y3 := Lib.hid hrs; have S3 := Lib.hid (S2.out.below hb3); have B3 := Lib.hid (b_cl B2.out (Nat.le_refl _) hb3); have ls3 := S3.out.lt; have s0_3 := S3.out.cell (k := 0) rfl; have s1_3 := S3.out.cell (k := 1) rfl; have s2_3 := S3.out.cell (k := 2) rfl; clear hb3 hrs)
    | (go_at_call 12; refine (CV _ (HK.out.below B3.out) (HR.out.below B3.out)).mono ?_; rintro e w4 ⟨AV, cV, rfl, hrv, _, hb4⟩; have X4 := Lib.hid hrv; have Y4 := Lib.hid (Y3.out.below hb4); have S4 := Lib.hid (S3.out.below hb4); have B4 := Lib.hid (b_cl B3.out (Nat.le_refl _) hb4); have ls4 := S4.out.lt; have s0_4 := S4.out.cell (k := 0) rfl; have s1_4 := S4.out.cell (k := 1) rfl; have s2_4 := S4.out.cell (k := 2) rfl; clear hb4 hrv)
    | (go_at_call 19; refine (CU _ (HK.out.below B4.out)).mono ?_; rintro e w5 ⟨AU, cU, rfl, hru, hb5⟩; have U5 := Lib.hid hru; have Y5 := Lib.hid (Y4.out.below hb5); have X5 := Lib.hid (X4.out.below hb5); have S5 := Lib.hid (S4.out.below hb5); have B5 := Lib.hid (b_cl B4.out (Nat.le_refl _) hb5); clear hb5 hru)
    | (go_at_call 16; refine (sameN_any _ _ _ _ _ _ xs xs _ HM2 HM2 Y5.out U5.out HML.out HML.out).mono ?_; rintro e w6 ⟨rfl, hb6⟩; rw [decide_eq_true (rfl : xs = xs)]; have X6 := Lib.hid (X5.out.below hb6); have S6 := Lib.hid (S5.out.below hb6); have B6 := Lib.hid (b_cl B5.out (Nat.le_refl _) hb6); have ls6 := S6.out.lt; have s0_6 := S6.out.cell (k := 0) rfl; have s1_6 := S6.out.cell (k := 1) rfl; have s2_6 := S6.out.cell (k := 2) rfl; clear hb6))
  go_loopw [11, 12] (fun s11 s12 wr => ∃ k cw : Nat, i0 ≤ k ∧ k ≤ n0 ∧ s12 = .int .i64 (k : Int) ∧ s11 = .int .i64 (cw : Int) ∧ Below w6.heap.size w6 wr ∧ Hid (cw + restW l0 ((i0 : Int), x1, y1) i0 k = m)) (fun _ s12 _ => n0 - (intOf s12).toNat)
  case atStart => exact ⟨i0, 0, Nat.le_refl _, hi0, rfl, rfl, Below.refl _ _, HCN⟩
  case round =>
    clear HCN
    obtain ⟨k, cw, hk0, hk, rfl, rfl, hbw, hcn⟩ := hrel
    have hsz := hbw.size
    have cwm : cw ≤ m := by have := hcn.out; omega
    have B7 := Lib.hid (B6.out.trans (hbw.mono B6.out.size))
    have S7 := Lib.hid (S6.out.below hbw)
    have ls7 := S7.out.lt
    have s0_7 := S7.out.cell (k := 0) rfl
    have s1_7 := S7.out.cell (k := 1) rfl
    have s2_7 := S7.out.cell (k := 2) rfl
    by_cases hlt : k < n0
    · have gk : (k : Int) < (n0 : Int) := by omega
      obtain ⟨tb, toff, dv, sv, OB, oq, oc, rfl, htb, hd0, hd1, hd2, hts⟩ := (HK.out.below B7.out).at_ (k := k) (by rw [HN.out]; exact hlt)
      have hsv : (l0.getD k tz).2.1 = sv := by obtain ⟨o, ho, _⟩ := hts.out; rw [ho]
      have hrw := restW_step (l := l0) (x := x1) (y := y1) hk0 (by rw [HN.out]; exact hlt)
      rw [hsv] at hrw
      clear hts hsv hd0 hd2
      by_cases h1 : 0 < sv
      case neg =>
        rw [if_neg (fun c => h1 c.1)] at hrw
        have HCN := Lib.hid (show cw + restW l0 ((i0 : Int), x1, y1) i0 (k + 1) = m by have := hcn.out; omega)
        have g1 : sv ≤ 0 := by omega
        clear h1 hrw hcn
        go_wp2_with go_skip
        go_roundw
        case rel => exact ⟨k + 1, cw, by omega, by omega, by go_num, rfl, hbw, HCN⟩
        case measure => simp [intOf]; omega
      case pos =>
      by_cases h2 : i0 < k
      · rw [if_pos ⟨h1, Or.inl h2⟩] at hrw
        have HCN := Lib.hid (show (cw + 1) + restW l0 ((i0 : Int), x1, y1) i0 (k + 1) = m by have := hcn.out; omega)
        have g2 : (i0 : Int) < (k : Int) := by omega
        clear hrw hcn
        go_wp2_with go_skip
        go_roundw
        case rel => exact ⟨k + 1, cw + 1, by omega, by omega, by go_num, by go_num, hbw, HCN⟩
        case measure => simp [intOf]; omega
      · obtain rfl : k = i0 := by omega
        by_cases h3 : y1 = 0
        · rw [if_pos ⟨h1, Or.inr h3⟩] at hrw
          have HCN := Lib.hid (show (cw + 1) + restW l0 ((k : Int), x1, y1) k (k + 1) = m by have := hcn.out; omega)
          have g3 : (y1 == 0) = true := by simp [h3]
          have g2 : ¬ ((k : Int) < (k : Int)) := by omega
          clear hrw hcn h3 h2
          go_wp2_with go_skip
          go_roundw
          case rel => exact ⟨k + 1, cw + 1, by omega, by omega, by go_num, by go_num, hbw, HCN⟩
          case measure => simp [intOf]; omega
        · rw [if_neg (fun c => c.2.elim h2 h3)] at hrw
          have HCN := Lib.hid (show cw + restW l0 ((k : Int), x1, y1) k (k + 1) = m by have := hcn.out; omega)
          have g3 : (y1 == 0) = false := by simp [h3]
          have g2 : ¬ ((k : Int) < (k : Int)) := by omega
          clear hrw hcn h3 h2
          go_wp2_with go_skip
          go_roundw
          case rel => exact ⟨k + 1, cw, by omega, by omega, by go_num, rfl, hbw, HCN⟩
          case measure => simp [intOf]; omega
    obtain rfl : n0 = k := by omega
    obtain rfl : m = cw := by
      have h1 := hcn.out
      have h2 := restW_end (l := l0) (i0 := i0) (x := x1) (y := y1)
      rw [HN.out] at h2
      omega
    have X7 := Lib.hid (X6.out.below hbw)
    have hlk : ¬ ((n0 : Int) < (n0 : Int)) := by omega
    clear hcn hlt hk hk0 cwm
    go_wp2_with (first | go_skip | (go_at_call 20; refine (CI _ (HK.out.below B7.out)).mono ?_; rintro e w8 ⟨rfl, hb8⟩; have X8 := Lib.hid (X7.out.below hb8); have B8 := Lib.hid (b_cl B7.out (Nat.le_refl _) hb8); clear hb8))
    go_loopw [95] (fun s95 wr => ∃ k : Nat, k ≤ m ∧ s95 = .int .i64 (k : Int) ∧ Below w8.heap.size w8 wr) (fun s95 _ => m - (intOf s95).toNat)
    case atStart => exact ⟨0, Nat.zero_le _, rfl, Below.refl _ _⟩
    case round =>
      clear hsz hbw
      obtain ⟨k, hk, rfl, hbw⟩ := hrel
      have hsz := hbw.size
      have B10 := Lib.hid (B8.out.trans (hbw.mono B8.out.size))
      by_cases hlt : k < m
      case neg =>
        have gk : (m : Int) ≤ (k : Int) := by omega
        go_wp2_with (first | go_skip | (go_at_call 7; refine (alive20_any _).mono ?_; rintro e w9 ⟨rfl, hb9⟩))
        go_ret
        exact ⟨rfl, B10.out.trans (hb9.mono B10.out.size)⟩
      case pos =>
      have gk : (k : Int) < (m : Int) := by omega
      have XK := X8.out.below hbw
      obtain ⟨vb, voff, a, fr, tt, rfl, hvb, hv0, hv1, hv2, hvv⟩ := XK.at_ (k := k) (by rw [HVM.out]; exact hlt)
      obtain ⟨g4, g5, g6, g7⟩ := vs_at HALL.out (by rw [HVM.out]; exact hlt) hvv.out
      rw [HN.out] at g5
      obtain ⟨ka, rfl⟩ : ∃ ka : Nat, a = (ka : Int) := ⟨a.toNat, by omega⟩
      obtain ⟨tb, toff, dv, sv, OB, oq, oc, rfl, htb, hd0, hd1, hd2, hts⟩ := (HK.out.below B10.out).at_ (k := ka) (by rw [HN.out]; omega)
      have hsv : (tk l0 (ka : Int)).2.1 = sv := by obtain ⟨o, ho, _⟩ := hts.out; rw [tk_nat rfl, ho]
      rw [hsv] at g6
      have hok := OK.out _ (tk_mem g4 (by rw [HN.out]; exact g5))
      unfold TkOk at hok
      rw [hsv] at hok
      have gsv : IntKind.i64.wrap sv = sv := IntWalk.i64_in _ ⟨by omega, by omega⟩
      clear hok hsv
      have d0 : decide ((ka : Int) < 0) = false := decide_eq_false (by omega)
      have d1 : decide ((n0 : Int) ≤ (ka : Int)) = false := decide_eq_false (by omega)
      have d2 : decide (n0 ≤ ka) = false := decide_eq_false (by omega)
      rcases Nat.eq_zero_or_pos k with hk0 | hk0
      · have gk0 : (k : Int) ≤ 0 := by omega
        have d3 : decide ((0 : Int) < (k : Int)) = false := decide_eq_false (by omega)
        have d4 : decide (0 < k) = false := decide_eq_false (by omega)
        clear XK hvv hk0
        go_upto_region 18 with (refine wpList_store_box (by rfl) 49 _ _ rfl wr.heap.size #[.int .i64 (ka : Int), .int .i64 fr, .int .i64 tt] rfl rfl 49 #[.int .i64 0, .int .i64 0, .int .i64 0] (Bx.new (W := wr) _ _ rfl) (by kernel_rfl) rfl (one3 _ _ _) (fun w11 u11 => ?_))
        have hb11 := ((Below.refl wr.heap.size wr).alloc (Nat.le_refl _) _).trans (u11.bel wr.heap.size (Nat.le_refl _))
        have p0_11 := u11.box.cell (k := 0) rfl
        have p1_11 := u11.box.cell (k := 1) rfl
        have p2_11 := u11.box.cell (k := 2) rfl
        have lp11 := u11.box.lt
        clear u11 hv0 hv1 hv2
        (try go_frame)
        have q0 : ∀ p : BelowOf w11, p.world.cell? ⟨wr.heap.size, 0, none⟩ = some (.int .i64 (ka : Int)) := fun p => p.cell p0_11
        have q1 : ∀ p : BelowOf w11, p.world.cell? ⟨wr.heap.size, 1, none⟩ = some (.int .i64 fr) := fun p => p.cell p1_11
        have q2 : ∀ p : BelowOf w11, p.world.cell? ⟨wr.heap.size, 2, none⟩ = some (.int .i64 tt) := fun p => p.cell p2_11
        have q3 : ∀ p : BelowOf w11, p.world.cell? ⟨tb, toff + ka * 3 + 1, none⟩ = some (.int .i64 sv) := fun p => p.cell (c_cl hd1 hb11)
        refine wp_region_bel (by kernel_rfl) (by kernel_rfl) ?_
        repeat (go_big_quiet_step (first | (fail)))
        refine wpQuiet_nil ?_
        refine bel_all fun wq hbq => ?_
        clear q0 q1 q2 q3 d0 d1 d2 d3 d4
        obtain ⟨o, ho, hoq, hro⟩ := hts.out
        have hso : hasL o fr = true := by rw [tk_nat rfl, ho] at g7; exact g7
        have HOQ := Lib.hid hoq
        have HSO := Lib.hid hso
        have bq := hb11.trans (hbq.mono hb11.size)
        have hp1 := c_cl p1_11 hbq
        have hp0 := c_cl p0_11 hbq
        have hc2 := c_cl hd2 bq
        have HRO := Lib.hid (hro.below bq)
        have lq1 : wr.heap.size < wq.heap.size := Nat.lt_of_lt_of_le lp11 hbq.size
        have lq2 : tb < wq.heap.size := Nat.lt_of_lt_of_le htb bq.size
        have lq3 : oq ≤ 4611686018427387904 := by have := lkf.out.at_ (k := ka) (by have := HN.out; omega) ho; omega
        have BQ := Lib.hid (hbw.trans (bq.mono hsz))
        clear hts ho hoq hro hso g7 hbq bq p0_11 p1_11 p2_11 hb11 lp11 hd0 hd1 hd2 htb gsv
        go_wp2_with fail
        go_loopw [15, 157] (fun s15 s157 wr => ∃ j : Nat, j ≤ oq ∧ s157 = .int .i64 (j : Int) ∧ s15 = .bool (hasL (o.take j) fr) ∧ Below wq.heap.size wq wr) (fun _ s157 _ => oq - (intOf s157).toNat)
        case atStart => exact ⟨0, Nat.zero_le _, rfl, rfl, Below.refl _ _⟩
        case round =>
          obtain ⟨j, hj, rfl, rfl, hbj⟩ := hrel
          have hszj := hbj.size
          by_cases hjl : j < oq
          · have gj : (j : Int) < (oq : Int) := by omega
            obtain ⟨ob, ooff, ox, oy, rfl, hob, he0, he1, hes⟩ := (HRO.out.below hbj).at_ (k := j) (by rw [HOQ.out]; exact hjl)
            have HMO := Lib.hid (hasL_more (m := fr) (by rw [HOQ.out]; exact hjl) hes.out)
            obtain ⟨hv, hhv⟩ : ∃ hv, hasL (o.take j) fr = hv := ⟨_, rfl⟩
            rw [hhv] at HMO
            rw [hhv]
            have hf1 := c_cl hp1 hbj
            clear hhv hes
            go_upto_region 24 with (refine wpList_store_box (by rfl) 56 _ _ rfl wr.heap.size #[.int .i64 ox, .int .i64 oy] rfl rfl 56 #[.int .i64 0, .int .i64 0] (Bx.new (W := wr) _ _ rfl) (by kernel_rfl) rfl (by simp [Value.oneCell']) (fun w14 u14 => ?_))
            have hb14 := ((Below.refl wr.heap.size wr).alloc (Nat.le_refl _) _).trans (u14.bel wr.heap.size (Nat.le_refl _))
            have k0 := u14.box.cell (k := 0) rfl
            have k1 := u14.box.cell (k := 1) rfl
            have hf2 := c_cl hf1 hb14
            have lk14 := u14.box.lt
            have lk15 := hb14.size
            have B14 := Lib.hid (hbj.trans (hb14.mono hszj))
            clear u14 hb14 he0 he1 hf1
            (try go_frame)
            cases hv with
            | true =>
              go_wp2_with go_skip
              go_roundw
              case rel => exact ⟨j + 1, by omega, by go_num, by rw [HMO.out]; rfl, B14.out⟩
              case measure => simp [intOf]; omega
            | false =>
              by_cases hx0 : ox ≤ fr
              case neg =>
                have gx : fr < ox := by omega
                rw [decide_eq_false hx0] at HMO
                clear hx0
                go_wp2_with go_skip
                go_roundw
                case rel => exact ⟨j + 1, by omega, by go_num, by rw [HMO.out]; rfl, B14.out⟩
                case measure => simp [intOf]; omega
              case pos =>
              rw [decide_eq_true hx0] at HMO
              by_cases hy0 : fr < oy
              · rw [decide_eq_true hy0] at HMO
                go_wp2_with go_skip
                go_roundw
                case rel => exact ⟨j + 1, by omega, by go_num, by rw [HMO.out]; rfl, B14.out⟩
                case measure => simp [intOf]; omega
              · have gy : oy ≤ fr := by omega
                rw [decide_eq_false hy0] at HMO
                clear hy0
                go_wp2_with go_skip
                go_roundw
                case rel => exact ⟨j + 1, by omega, by go_num, by rw [HMO.out, decide_eq_false (show ¬ fr < oy by omega)]; rfl, B14.out⟩
                case measure => simp [intOf]; omega
          · have gj : (oq : Int) ≤ (j : Int) := by omega
            have hall : o.take j = o := List.take_of_length_le (by rw [HOQ.out]; omega)
            rw [hall, HSO.out]
            clear hall
            go_wp2_with go_skip
            go_roundw
            case rel => exact ⟨k + 1, by omega, by go_num, BQ.out.trans (hbj.mono BQ.out.size)⟩
            case measure => simp [intOf]; omega
      · obtain ⟨j, hj⟩ : ∃ j, k = j + 1 := ⟨k - 1, by omega⟩
        obtain ⟨vb2, voff2, a', fr', tt', he2, _, hu0, hu1, hu2, huu⟩ := XK.at_ (k := j) (by rw [HVM.out]; omega)
        simp only [Option.some.injEq, Addr.mk.injEq, and_true] at he2
        obtain ⟨rfl, rfl⟩ := he2
        have hvv2 : vs.getD (j + 1) rz = ((ka : Int), fr, tt) := by rw [← hj]; exact hvv.out
        obtain ⟨g8, g9⟩ := vs_lt HORD.out (j := j) (by rw [HVM.out]; omega) hvv2 huu.out
        clear hvv2
        have hkj : (k : Int) - 1 = (j : Int) := by omega
        have gk0 : (0 : Int) < (k : Int) := by omega
        have d3 : decide ((0 : Int) < (k : Int)) = true := decide_eq_true (by omega)
        have d4 : decide (0 < k) = true := decide_eq_true (by omega)
        have d5 : decide ((ka : Int) ≤ a') = false := decide_eq_false (by omega)
        have d6 : decide (fr < tt') = false := decide_eq_false (by omega)
        have gkj : (j : Int) < (m : Int) := by omega
        have gwj : IntKind.i64.wrap (j : Int) = (j : Int) := IntWalk.i64_in _ ⟨by omega, by omega⟩
        have HJ := Lib.hid hj
        clear XK hvv huu hj hk0
        go_upto_region 18 with (refine wpList_store_box (by rfl) 49 _ _ rfl wr.heap.size #[.int .i64 (ka : Int), .int .i64 fr, .int .i64 tt] rfl rfl 49 #[.int .i64 0, .int .i64 0, .int .i64 0] (Bx.new (W := wr) _ _ rfl) (by kernel_rfl) rfl (one3 _ _ _) (fun w11 u11 => ?_))
        have hb11 := ((Below.refl wr.heap.size wr).alloc (Nat.le_refl _) _).trans (u11.bel wr.heap.size (Nat.le_refl _))
        have p0_11 := u11.box.cell (k := 0) rfl
        have p1_11 := u11.box.cell (k := 1) rfl
        have p2_11 := u11.box.cell (k := 2) rfl
        have lp11 := u11.box.lt
        clear u11 hv0 hv1 hv2
        (try go_frame)
        have q4 : ∀ p : BelowOf w11, p.world.cell? ⟨vb, voff + j * 3, none⟩ = some (.int .i64 a') := fun p => p.cell (c_cl hu0 hb11)
        have q5 : ∀ p : BelowOf w11, p.world.cell? ⟨vb, voff + j * 3 + 2, none⟩ = some (.int .i64 tt') := fun p => p.cell (c_cl hu2 hb11)
        clear hu1
        have q0 : ∀ p : BelowOf w11, p.world.cell? ⟨wr.heap.size, 0, none⟩ = some (.int .i64 (ka : Int)) := fun p => p.cell p0_11
        have q1 : ∀ p : BelowOf w11, p.world.cell? ⟨wr.heap.size, 1, none⟩ = some (.int .i64 fr) := fun p => p.cell p1_11
        have q2 : ∀ p : BelowOf w11, p.world.cell? ⟨wr.heap.size, 2, none⟩ = some (.int .i64 tt) := fun p => p.cell p2_11
        have q3 : ∀ p : BelowOf w11, p.world.cell? ⟨tb, toff + ka * 3 + 1, none⟩ = some (.int .i64 sv) := fun p => p.cell (c_cl hd1 hb11)
        refine wp_region_bel (by kernel_rfl) (by kernel_rfl) ?_
        repeat (go_big_quiet_step (first | (fail)))
        refine wpQuiet_nil ?_
        refine bel_all fun wq hbq => ?_
        clear q0 q1 q2 q3 q4 q5 hu0 hu2 d0 d1 d2 d3 d4 d5 d6
        obtain ⟨o, ho, hoq, hro⟩ := hts.out
        have hso : hasL o fr = true := by rw [tk_nat rfl, ho] at g7; exact g7
        have HOQ := Lib.hid hoq
        have HSO := Lib.hid hso
        have bq := hb11.trans (hbq.mono hb11.size)
        have hp1 := c_cl p1_11 hbq
        have hp0 := c_cl p0_11 hbq
        have hc2 := c_cl hd2 bq
        have HRO := Lib.hid (hro.below bq)
        have lq1 : wr.heap.size < wq.heap.size := Nat.lt_of_lt_of_le lp11 hbq.size
        have lq2 : tb < wq.heap.size := Nat.lt_of_lt_of_le htb bq.size
        have lq3 : oq ≤ 4611686018427387904 := by have := lkf.out.at_ (k := ka) (by have := HN.out; omega) ho; omega
        have BQ := Lib.hid (hbw.trans (bq.mono hsz))
        clear hts ho hoq hro hso g7 hbq bq p0_11 p1_11 p2_11 hb11 lp11 hd0 hd1 hd2 htb gsv
        go_wp2_with fail
        go_loopw [15, 157] (fun s15 s157 wr => ∃ j : Nat, j ≤ oq ∧ s157 = .int .i64 (j : Int) ∧ s15 = .bool (hasL (o.take j) fr) ∧ Below wq.heap.size wq wr) (fun _ s157 _ => oq - (intOf s157).toNat)
        case atStart => exact ⟨0, Nat.zero_le _, rfl, rfl, Below.refl _ _⟩
        case round =>
          obtain ⟨j, hj, rfl, rfl, hbj⟩ := hrel
          have hszj := hbj.size
          by_cases hjl : j < oq
          · have gj : (j : Int) < (oq : Int) := by omega
            obtain ⟨ob, ooff, ox, oy, rfl, hob, he0, he1, hes⟩ := (HRO.out.below hbj).at_ (k := j) (by rw [HOQ.out]; exact hjl)
            have HMO := Lib.hid (hasL_more (m := fr) (by rw [HOQ.out]; exact hjl) hes.out)
            obtain ⟨hv, hhv⟩ : ∃ hv, hasL (o.take j) fr = hv := ⟨_, rfl⟩
            rw [hhv] at HMO
            rw [hhv]
            have hf1 := c_cl hp1 hbj
            clear hhv hes
            go_upto_region 24 with (refine wpList_store_box (by rfl) 56 _ _ rfl wr.heap.size #[.int .i64 ox, .int .i64 oy] rfl rfl 56 #[.int .i64 0, .int .i64 0] (Bx.new (W := wr) _ _ rfl) (by kernel_rfl) rfl (by simp [Value.oneCell']) (fun w14 u14 => ?_))
            have hb14 := ((Below.refl wr.heap.size wr).alloc (Nat.le_refl _) _).trans (u14.bel wr.heap.size (Nat.le_refl _))
            have k0 := u14.box.cell (k := 0) rfl
            have k1 := u14.box.cell (k := 1) rfl
            have hf2 := c_cl hf1 hb14
            have lk14 := u14.box.lt
            have lk15 := hb14.size
            have B14 := Lib.hid (hbj.trans (hb14.mono hszj))
            clear u14 hb14 he0 he1 hf1
            (try go_frame)
            cases hv with
            | true =>
              go_wp2_with go_skip
              go_roundw
              case rel => exact ⟨j + 1, by omega, by go_num, by rw [HMO.out]; rfl, B14.out⟩
              case measure => simp [intOf]; omega
            | false =>
              by_cases hx0 : ox ≤ fr
              case neg =>
                have gx : fr < ox := by omega
                rw [decide_eq_false hx0] at HMO
                clear hx0
                go_wp2_with go_skip
                go_roundw
                case rel => exact ⟨j + 1, by omega, by go_num, by rw [HMO.out]; rfl, B14.out⟩
                case measure => simp [intOf]; omega
              case pos =>
              rw [decide_eq_true hx0] at HMO
              by_cases hy0 : fr < oy
              · rw [decide_eq_true hy0] at HMO
                go_wp2_with go_skip
                go_roundw
                case rel => exact ⟨j + 1, by omega, by go_num, by rw [HMO.out]; rfl, B14.out⟩
                case measure => simp [intOf]; omega
              · have gy : oy ≤ fr := by omega
                rw [decide_eq_false hy0] at HMO
                clear hy0
                go_wp2_with go_skip
                go_roundw
                case rel => exact ⟨j + 1, by omega, by go_num, by rw [HMO.out, decide_eq_false (show ¬ fr < oy by omega)]; rfl, B14.out⟩
                case measure => simp [intOf]; omega
          · have gj : (oq : Int) ≤ (j : Int) := by omega
            have hall : o.take j = o := List.take_of_length_le (by rw [HOQ.out]; omega)
            rw [hall, HSO.out]
            clear hall
            go_wp2_with go_skip
            go_roundw
            case rel => exact ⟨k + 1, by omega, by go_num, BQ.out.trans (hbj.mono BQ.out.size)⟩
            case measure => simp [intOf]; omega

set_option maxRecDepth 100000 in
theorem lifted (os : Os) (started : os.Started) (H : Type) (enc : TypeId × Value → H) :
    ReturnsInHanded {} Try.checked os 5 .any (Rows.trailStripsSpec.pre6 enc Try.prog Try.f5 Rows.trailStripsRow.domain false) (Rows.trailStripsSpec.post enc Try.prog Try.f5 false true false false) := by
  refine returnsInHanded_of_change (C := Try.checked) own started (by kernel_rfl) Try.func5
    (ChangeSpec.witness6 (enc := enc) (C := Try.checked) false ⟨#[], #[.slice none 0 0, .agg #[.int .i64 0, .int .i64 0, .int .i64 0], .slice none 0 0], []⟩ 8 (by kernel_rfl) (by kernel_rfl) (by kernel_rfl) (by kernel_rfl)) ?_
  intro W base args ds gs before hval0 hW hcnd _
  have hval : ∀ (j : Nat) t v, Try.f5.params[j]? = some t → args[j]? = some v → Value.okWide Try.prog W .any base t v := hval0
  have hW' := hW
  obtain ⟨p, q, hA0, hV, rfl, hfz, hnd⟩ := hW
  have hA : DataW.TrodAll enc Try.prog W 0 (fun _ => true) true Try.f5.params.toList args.toList ds p := hA0
  rw [Try.params5] at hA hval
  obtain ⟨v0, vs0, d0, ds0, p0, q0, hargs, rfl, rfl, h0, r0⟩ := trodAll_cons hA
  obtain ⟨v1, vs1, d1, ds1, p1, q1, rfl, rfl, rfl, h1, r1⟩ := trodAll_cons r0
  obtain ⟨v2, vs2, d2, ds2, p2, q2, rfl, rfl, rfl, h2, r2⟩ := trodAll_cons r1
  obtain ⟨rfl, rfl, rfl⟩ := trodAll_nil r2
  obtain rfl : args = #[v0, v1, v2] := by cases args; simp_all
  obtain ⟨rfl, rfl⟩ := trodVars_none hV
  have k0 := h0
  have lt0 : ∀ x ∈ p0, x.block < W.heap.size := by obtain ⟨m, hm⟩ := k0; exact DataW.trod_lt m _ _ _ hm
  obtain ⟨A0, n0, c0, l0, rfl, hn0, rd0, q0, z0⟩ := open_tasks (hval 0 22 v0 rfl rfl) h0
  have k1 := h1
  have lt1 : ∀ x ∈ p1, x.block < W.heap.size := by obtain ⟨m, hm⟩ := k1; exact DataW.trod_lt m _ _ _ hm
  obtain ⟨i1, x1, y1, rfl, _, _, wa1, wb1, wc1⟩ := open_spot (hval 1 24 v1 rfl rfl) h1
  have k2 := h2
  have lt2 : ∀ x ∈ p2, x.block < W.heap.size := by obtain ⟨m, hm⟩ := k2; exact DataW.trod_lt m _ _ _ hm
  obtain ⟨A2, n2, c2, l2, rfl, rfl, rd2, zz2⟩ := open_recs (hval 2 25 v2 rfl rfl) h2
  clear hA0 hval0
  refine (walk W A0 n0 c0 l0 hn0 rd0 q0 z0 i1 x1 y1 (wf_i64 wb1) (wf_i64 wc1) A2 c2 l2 rd2 zz2).mono fun e W' ⟨he, bel⟩ => ?_
  subst he
  exact ⟨_, rfl, _, _, _, [], _, [], hW', trodAll_mk1 (shut_bool Try.underlying4 _), (trodAll_cons_mk (Below.trod laidOut (by kernel_rfl) (of_decide_eq_true (by kernel_rfl)) k0 bel lt0) (trodAll_cons_mk (Below.trod laidOut (by kernel_rfl) (of_decide_eq_true (by kernel_rfl)) k1 bel lt1) (trodAll_cons_mk (Below.trod laidOut (by kernel_rfl) (of_decide_eq_true (by kernel_rfl)) k2 bel lt2) trodAll_mk0))), rfl, bel.frame _, fun h => by cases h⟩

theorem over : Rows.trailStripsRow.holds Try.pinned (OpenSpec.ofChange Rows.trailStripsSpec) :=
  OpenClaim.holds_of_wide 5 Try.f5 rfl rfl rfl rfl rfl rfl rfl ⟨rfl, rfl, rfl, rfl, rfl⟩ rfl rfl rfl rfl rfl (by kernel_rfl) Try.func5 (by kernel_rfl)
    (of_decide_eq_true (by kernel_rfl)) (by unfold Func.isWrapper; first | (rw [if_pos (by decide +kernel)]; kernel_rfl) | (rw [if_neg (by decide +kernel)]; exact ⟨rfl, rfl⟩))
    (fun os started H enc _ => lifted os started H enc)

theorem proved : Rows.TrailStripsSaid := over
#print axioms proved
end Go.Proofs.Ythiiipbfdgaemaa.trailStrips
