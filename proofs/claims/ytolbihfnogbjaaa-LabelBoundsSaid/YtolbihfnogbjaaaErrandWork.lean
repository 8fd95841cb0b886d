/- How a spot goes on by work, by the code. Conditions: the tasks can be read and may be, the spot is right, the minutes are of the horizon. -/
import Derived.Test.YtolbihfnogbjaaaRows
import Derived.Test.YtolbihfnogbjaaaBase
import Derived.Test.YtolbihfnogbjaaaZ2
import Derived.Test.YtolbihfnogbjaaaZ3
import Derived.Test.YtolbihfnogbjaaaZ1
import Derived.Test.YtolbihfnogbjaaaErrandLeaf
import Derived.Test.YtolbihfnogbjaaaZ7
import Derived.Test.YtolbihfnogbjaaaErrandDrive
import Derived.Test.YtolbihfnogbjaaaWindowC
import Derived.WalkKit
import Derived.WalkSpells
import Derived.WalkSmall
import Derived.Below
import Derived.Lib.Hide
import Derived.Outline
import Derived.Deep.DeepCutAuto
import Derived.OwnWalk
import Derived.BigQuiet
import Derived.Deep.QuietTactic
import Derived.Deep.LoopGhost
import Derived.WalkMore
import Derived.Lib.MinMax
import Derived.Deep.RegionWith
namespace Go.Proofs.Ytolbihfnogbjaaa
open Go.RowKit

set_option maxRecDepth 20000 in
set_option maxHeartbeats 2000000 in
theorem work19_any (n0 g : Nat) (A : Option Addr) (n c : Nat) (l : List Tk) (hn : l.length = n) (s : Pt) (f0 f1 f2 f3 a b : Int) (w : World) (hB : Bx w g 123 (wk A n c s f0 f1 f2 f3)) (hK : RdKn n0 w A l) (hg : n0 ≤ g) (hl : n ≤ 2001)
    (few : Few l) (ok : ∀ t ∈ l, TkOk t) (fit : Fits l s) (ha : 0 ≤ a) (hab : a ≤ b) (hb : b ≤ 40320) :
    Calls Try.prog 61 #[.pointer (some ⟨g, 0, none⟩), .int .i64 a, .int .i64 b] w fun e w' => e = .returned (.tuple #[]) ∧ Chg w g 123 (wkS A n c (runK l 2 (b - a).toNat a (s, f0, f1, f2, f3))) w' := by
  obtain ⟨V, hV⟩ : ∃ V, runK l 2 (b - a).toNat a (s, f0, f1, f2, f3) = V := ⟨_, rfl⟩
  rw [hV]
  have HV := Lib.hid hV
  have HN := Lib.hid hn
  have OK := Lib.hid ok
  have HK := Lib.hid hK
  have HFT := Lib.hid fit
  have HFW := Lib.hid few
  have HB := Lib.hid (Chg.refl hB)
  have hlt := hB.lt
  have hn0 : n0 ≤ w.heap.size := by omega
  obtain ⟨F2, hF2⟩ : ∃ F2 : Int, F2 = f2 := ⟨_, rfl⟩
  have HF2 := Lib.hid hF2
  clear hV hn ok hK fit hB few hF2
  go_enter Try.func61, Try.ntmps61
  go_wp2
  go_loopw [1] (fun s1 wr => ∃ (m : Int) (t : Pt) (f2 : Int), s1 = .int .i64 m ∧ a ≤ m ∧ m ≤ b ∧ Hid (runK l 2 (m - a).toNat a (s, f0, f1, F2, f3) = (t, f0, f1, f2, f3)) ∧ Hid (Fits l t) ∧ Chg w g 123 (wk A n c t f0 f1 f2 f3) wr) (fun s1 _ => (b - intOf s1).toNat)
  case atStart => exact ⟨a, s, f2, rfl, by omega, by omega, Lib.hid (by rw [Int.sub_self, HF2.out]; rfl), HFT, HB.out⟩
  case round =>
    rw [← HF2.out] at HV
    clear HFT HB HF2
    obtain ⟨m, ⟨i, x, y⟩, f2, rfl, m0, m1, HR, FT, C⟩ := hrel
    have hsz := C.size
    have B1 := C.box
    have HK1 := Lib.hid (HK.out.below (C.bel n0 hg hn0))
    have q0 : ∀ p : BelowOf wr, p.world.cell? ⟨g, 0, none⟩ = some (.slice A n c) := fun p => p.cell (B1.cell (k := 0) rfl)
    have q1 : ∀ p : BelowOf wr, p.world.cell? ⟨g, 1, none⟩ = some (.int .i64 i) := fun p => p.cell (B1.cell (k := 1) rfl)
    have q2 : ∀ p : BelowOf wr, p.world.cell? ⟨g, 2, none⟩ = some (.int .i64 x) := fun p => p.cell (B1.cell (k := 2) rfl)
    have q3 : ∀ p : BelowOf wr, p.world.cell? ⟨g, 3, none⟩ = some (.int .i64 y) := fun p => p.cell (B1.cell (k := 3) rfl)
    have hglt := B1.lt
    by_cases hm : m < b
    case neg =>
      obtain rfl : m = b := by omega
      have HE := Lib.hid (HV.out.symm.trans HR.out)
      clear q0 q1 q2 q3
      go_wp2
      refine bodyPost_end (results_none Try.results61 _ _ _) rfl ⟨rfl, ?_⟩
      rw [HE.out]; exact C
    obtain ⟨r, hr⟩ : ∃ r : Nat, b - m = (r : Int) + 1 := ⟨(b - m - 1).toNat, by omega⟩
    have HR2 := Lib.hid (show runK l 2 (r + 1) m ((i, x, y), f0, f1, f2, f3) = V by
      rw [← HV.out, ← HR.out, show (b - a).toNat = (m - a).toNat + (r + 1) by omega, runK_add l _ (m - a).toNat (r + 1) a, show a + ((m - a).toNat : Int) = m by omega])
    by_cases hi : i = (n : Int)
    case pos =>
      have HE := Lib.hid (HR2.out.symm.trans (runK_nowork FT.out (fun c => by have := c.1; have := HN.out; simp only at *; omega) (by omega) r))
      have CL := fun W => left19_end A n c i x y W hi
      clear hi hr
      go_wp2
      refine wp_region_bel (by kernel_rfl) (by kernel_rfl) ?_
      repeat (go_big_quiet_step ((go_at_call 56; (with_reducible exact Calls.bel_of (CL _)))))
      refine wpQuiet_nil ?_
      refine bel_all fun wq hbq => ?_
      clear q0 q1 q2 q3
      have Bq := Lib.hid (C.below hbq)
      go_wp2_with (go_at_call 59; refine (breaks19_1 g A n c (i, x, y) f0 f1 f2 f3 m _ Bq.out.box).mono ?_; rintro e w4 ⟨rfl, u4⟩)
      refine bodyPost_ret (results_none Try.results61 _ _ _) rfl ⟨rfl, ?_⟩
      rw [HE.out]; exact Bq.out.upd u4
    obtain ⟨i0, i1, _, _⟩ := FT.out
    simp only at i0 i1
    rw [HN.out] at i1
    obtain ⟨k, rfl⟩ : ∃ k : Nat, i = k := ⟨i.toNat, by omega⟩
    have hk : k < n := by omega
    obtain ⟨tok, t1, t2, t3, t4⟩ := near_task OK.out FT.out.near (by rw [HN.out]; exact hk)
    have CL := fun W (h : RdK W A l) => left19_in A n c l HN.out k x y W h hk
    obtain ⟨d, hd⟩ : ∃ d, (tk l k).1 = d := ⟨_, rfl⟩
    obtain ⟨v, hv⟩ : ∃ v, (tk l k).2.1 = v := ⟨_, rfl⟩
    have z1 := tok.1
    have z2 := tok.2.1
    have z3 := tok.2.2.1
    have z4 := tok.2.2.2
    rw [hd] at z1 z2 t2 CL
    rw [hv] at z3 z4 t4 CL
    rw [IntWalk.wrap64_in _ (by omega), IntWalk.wrap64_in _ (by omega)] at CL
    obtain ⟨p, hp⟩ : ∃ p, d - x = p := ⟨_, rfl⟩
    obtain ⟨q, hq⟩ : ∃ q, v - y = q := ⟨_, rfl⟩
    rw [hp, hq] at CL
    have CLp : ∀ P : BelowOf wr, Calls Try.prog 56 #[.slice A n c, .agg #[.int .i64 (k : Int), .int .i64 x, .int .i64 y]] P.world fun e w' => e = .returned (.tuple #[.int .i64 p, .int .i64 q]) ∧ Below P.world.heap.size P.world w' := fun P => CL _ (HK1.out.below (P.ok.mono (by omega))).rd
    by_cases hp0 : 0 < p
    case pos =>
      have HE := Lib.hid (HR2.out.symm.trans (runK_nowork FT.out (fun c => by have := c.2.1; simp only at this; omega) (by omega) r))
      clear tok t1 t2 t3 t4 z1 z2 z3 z4 hp hq CL hd hv i0 i1 hi hr
      go_wp2
      refine wp_region_bel (by kernel_rfl) (by kernel_rfl) ?_
      repeat (go_big_quiet_step ((go_at_call 56; (with_reducible exact Calls.bel_of (CLp _)))))
      refine wpQuiet_nil ?_
      refine bel_all fun wq hbq => ?_
      clear q0 q1 q2 q3
      have Bq := Lib.hid (C.below hbq)
      go_wp2_with (go_at_call 59; refine (breaks19_1 g A n c (k, x, y) f0 f1 f2 f3 m _ Bq.out.box).mono ?_; rintro e w4 ⟨rfl, u4⟩)
      refine bodyPost_ret (results_none Try.results61 _ _ _) rfl ⟨rfl, ?_⟩
      rw [HE.out]; exact Bq.out.upd u4
    obtain rfl : p = 0 := by omega
    by_cases hq0 : q = 0
    case pos =>
      have HE := Lib.hid (HR2.out.symm.trans (runK_nowork FT.out (fun c => by have := c.2.2; simp only at this; omega) (by omega) r))
      have e1 : (q == 0) = true := by simp [hq0]
      clear tok t1 t2 t3 t4 z1 z2 z3 z4 hp hq CL hd hv i0 i1 hi hq0 hp0 hr
      go_wp2
      refine wp_region_bel (by kernel_rfl) (by kernel_rfl) ?_
      repeat (go_big_quiet_step ((go_at_call 56; (with_reducible exact Calls.bel_of (CLp _)))))
      refine wpQuiet_nil ?_
      refine bel_all fun wq hbq => ?_
      clear q0 q1 q2 q3
      have Bq := Lib.hid (C.below hbq)
      go_wp2_with (go_at_call 59; refine (breaks19_1 g A n c (k, x, y) f0 f1 f2 f3 m _ Bq.out.box).mono ?_; rintro e w4 ⟨rfl, u4⟩)
      refine bodyPost_ret (results_none Try.results61 _ _ _) rfl ⟨rfl, ?_⟩
      rw [HE.out]; exact Bq.out.upd u4
    have e1 : (q == 0) = false := by simp [hq0]
    have hq1 : 0 < q := by omega
    have can : CanW l ((k : Int), x, y) := ⟨by have := HN.out; simp only; omega, by simp only; omega, by simp only; omega⟩
    obtain ⟨u, hu⟩ : ∃ u : Nat, min q (b - m) = (u : Int) + 1 := ⟨(min q (b - m) - 1).toNat, by omega⟩
    have HS := Lib.hid (runK_work OK.out u FT.out can m f0 f1 f2 f3 (by simp only; omega))
    have NR := Lib.hid (show Near l ((k : Int), x, y + min q (b - m)) from ⟨by simp, by have := HN.out; simp only; omega, fun e => by have := HN.out; simp only at e; omega, fun _ => show 0 ≤ x ∧ x ≤ (tk l (k : Int)).1 ∧ 0 ≤ y + min q (b - m) ∧ y + min q (b - m) ≤ (tk l (k : Int)).2.1 ∧ (y + min q (b - m) = 0 ∨ x = (tk l (k : Int)).1) by rw [hd, hv]; exact ⟨by omega, by omega, by omega, by omega, Or.inr (by omega)⟩⟩)
    have NF := Lib.hid (pastT_fits OK.out NR.out)
    have CP := fun W (h : RdK W A l) => past19_any A n c l HN.out k x (y + min q (b - m)) W h (by omega) OK.out NR.out
    have NX := Lib.hid (show runK l 2 (m + min q (b - m) - a).toNat a (s, f0, f1, F2, f3) = (pastT l ((k : Int), x, y + min q (b - m)), f0, f1, noteF f2 (decide (y = 0 ∧ hasL (tk l (k : Int)).2.2 m = false)) m, f3) by
      rw [show (m + min q (b - m) - a).toNat = (m - a).toNat + (u + 1) by omega, runK_add l _ (m - a).toNat (u + 1) a, show a + ((m - a).toNat : Int) = m by omega, HR.out, HS.out, hu])
    obtain ⟨⟨i2, x2, y2⟩, hP⟩ : ∃ P, pastT l ((k : Int), x, y + min q (b - m)) = P := ⟨_, rfl⟩
    rw [hP] at NF NX CP
    unfold sp3 at CP
    simp only at CP
    have m2 : m + min q (b - m) ≤ b := by omega
    have m3 : m < m + min q (b - m) := by omega
    have m4 : y + min q (b - m) ≤ 1440 := by omega
    have m5 : 0 ≤ y + min q (b - m) := by omega
    have hsub : b - m ≤ 40320 ∧ 0 ≤ b - m := by omega
    obtain ⟨hs1, hs2⟩ := hsub
    obtain ⟨b', off, d', v', B, nq, cq, hA, hbb, h0, h1, h2, hs⟩ := HK1.out.rd.at_ (k := k) (by rw [HN.out]; exact hk)
    obtain ⟨o, ho, hoq, hro⟩ := hs.out
    have hol := HFW.out.at_ (by rw [HN.out]; exact hk) ho
    have e9 : tk l (k : Int) = (d', v', o) := ho
    rw [e9] at NX
    simp only at NX
    obtain ⟨hv2, hh2⟩ : ∃ hv2, hasL o m = hv2 := ⟨_, rfl⟩
    rw [hh2] at NX
    have HRo := Lib.hid hro
    have HOL := Lib.hid hol
    have HOQ := Lib.hid hoq
    have HH2 := Lib.hid hh2
    have CM : ∀ W (h : RdS W B o), Calls Try.prog 66 #[.slice B nq cq, .int .i64 m] W fun e w' => e = .returned (.bool hv2) ∧ Below W.heap.size W w' := fun W h => by
      have := may18_any B cq o m W h HOL.out
      rw [HOQ.out, HH2.out] at this
      exact this
    have HA := Lib.hid hA
    clear hp hq hP hu HS NR can tok t2 t4 z1 z2 z3 z4 hd hv i0 i1 hi hp0 CL hr hq0 e9 ho hoq hro hol hs hh2 h0 h1 hA
    have h2' : Hid (∀ P : BelowOf wr, P.world.cell? ⟨b', off + k * 3 + 2, none⟩ = some (.slice B nq cq)) := Lib.hid (fun P => P.cell h2)
    clear h2
    go_wp2
    refine wp_region_bel (by kernel_rfl) (by kernel_rfl) ?_
    repeat (go_big_quiet_step ((go_at_call 56; (with_reducible exact Calls.bel_of (CLp _)))))
    refine wpQuiet_nil ?_
    refine bel_all fun wq hbq => ?_
    clear q0 q1 q2 q3
    clear CLp
    have HCq := Lib.hid (C.below hbq)
    have BO : ∀ P : BelowOf wq, Below wr.heap.size wr P.world := fun P => hbq.trans (P.ok.mono hbq.size)
    have q0 : ∀ P : BelowOf wq, P.world.cell? ⟨g, 0, none⟩ = some (.slice A n c) := fun P => P.cell (HCq.out.box.cell (k := 0) rfl)
    have q1 : ∀ P : BelowOf wq, P.world.cell? ⟨g, 1, none⟩ = some (.int .i64 k) := fun P => P.cell (HCq.out.box.cell (k := 1) rfl)
    have q3 : ∀ P : BelowOf wq, P.world.cell? ⟨g, 3, none⟩ = some (.int .i64 y) := fun P => P.cell (HCq.out.box.cell (k := 3) rfl)
    have lq := HCq.out.box.lt
    by_cases hy : y = 0
    case neg =>
      have ey : (y == 0) = false := by simp [hy]
      have HX := Lib.hid (show noteF f2 (decide (y = 0 ∧ hv2 = false)) m = f2 by rw [decide_eq_false (fun c => hy c.1), note_no])
      rw [HX.out] at NX
      clear hy q0 q1 BO h2' CM
      go_wp2
      refine wp_region_bel (by kernel_rfl) (by kernel_rfl) ?_
      repeat (go_big_quiet_step (fail))
      refine wpQuiet_nil ?_
      refine bel_all fun wp hbp => ?_
      clear q3
      have HCp := Lib.hid (HCq.out.below hbp)
      have r3 : wp.cell? ⟨g, 3, none⟩ = some (.int .i64 y) := HCp.out.box.cell (k := 3) rfl
      have lp := HCp.out.box.lt
      go_upto_region 8 with (refine wpList_store_fld (by rfl) 3 _ _ rfl g 3 (.int .i64 (y + min q (b - m))) rfl rfl rfl 123 (wk A n c (k, x, y) f0 f1 f2 f3) HCp.out.box (show 3 < 8 by decide) (by kernel_rfl) (fun w5 u5 => ?_); have HC5 := Lib.hid (HCp.out.upd u5); clear u5)
      have HK5 := Lib.hid (HK.out.below (HC5.out.bel n0 hg hn0))
      have HB5 := Lib.hid (show Bx w5 g 123 (wk A n c (k, x, y + min q (b - m)) f0 f1 f2 f3) from HC5.out.box)
      have v0 : w5.cell? ⟨g, 0, none⟩ = some (.slice A n c) := HB5.out.cell (k := 0) rfl
      have v1 : w5.cell? ⟨g, 1, none⟩ = some (.int .i64 k) := HB5.out.cell (k := 1) rfl
      have v2 : w5.cell? ⟨g, 2, none⟩ = some (.int .i64 x) := HB5.out.cell (k := 2) rfl
      have v3 : w5.cell? ⟨g, 3, none⟩ = some (.int .i64 (y + min q (b - m))) := HB5.out.cell (k := 3) rfl
      have l5 := HC5.out.box.lt
      go_region_with (go_at_call 54; refine (CP _ ?_).mono ?_; (focus exact (HK5.out.below (b_dr (Below.refl _ _))).rd); rintro e w6 ⟨rfl, hb6⟩; have B6 := HB5.out.drew.below hb6; have c1 := B6.cell (k := 1) rfl; have c2 := B6.cell (k := 2) rfl; have c3 := B6.cell (k := 3) rfl; have e1 := B6.free 1; have e2 := B6.free 2; have e3 := B6.free 3; have l6 := B6.lt)
      all_goals
        have U1 := B6.setOne (k := 1) (v := .int .i64 i2)
        have U2 := U1.trans (U1.box.setOne (k := 2) (v := .int .i64 x2))
        have U3 := U2.trans (U2.box.setOne (k := 3) (v := .int .i64 y2))
        have C8 := Lib.hid (show Chg w g 123 (wk A n c (i2, x2, y2) f0 f1 f2 f3) _ from (HC5.out.drew.below hb6).upd U3)
        clear U1 U2 U3 c1 c2 c3 e1 e2 e3 v0 v1 v2 v3 B6
        go_wp2
        go_roundw
        case rel => exact ⟨m + min q (b - m), (i2, x2, y2), f2, rfl, by omega, by omega, NX, NF, C8.out⟩
        case measure => simp [intOf]; omega
    case pos =>
      have ey : (y == 0) = true := by simp [hy]
      obtain rfl := HA.out
      have q2 : ∀ P : BelowOf wq, P.world.cell? ⟨b', off + k * 3 + 2, none⟩ = some (.slice B nq cq) := fun P => h2'.out ⟨P.world, BO P⟩
      have CMp : ∀ P : BelowOf wq, Calls Try.prog 66 #[.slice B nq cq, .int .i64 m] P.world fun e w' => e = .returned (.bool hv2) ∧ Below P.world.heap.size P.world w' := fun P => CM _ (HRo.out.below (BO P))
      clear BO h2' CM
      cases hv2 with
      | true =>
        have HX := Lib.hid (show noteF f2 (decide (y = 0 ∧ true = false)) m = f2 by rw [decide_eq_false (fun c => by cases c.2), note_no])
        rw [HX.out] at NX
        clear hy
        go_wp2
        refine wp_region_bel (by kernel_rfl) (by kernel_rfl) ?_
        repeat (go_big_quiet_step ((go_at_call 66; (with_reducible exact Calls.bel_of (CMp _)))))
        refine wpQuiet_nil ?_
        refine bel_all fun wp hbp => ?_
        clear q0 q1 q2 q3 CMp
        have HCp := Lib.hid (HCq.out.below hbp)
        have r3 : wp.cell? ⟨g, 3, none⟩ = some (.int .i64 y) := HCp.out.box.cell (k := 3) rfl
        have lp := HCp.out.box.lt
        go_upto_region 8 with (refine wpList_store_fld (by rfl) 3 _ _ rfl g 3 (.int .i64 (y + min q (b - m))) rfl rfl rfl 123 (wk (some ⟨b', off, none⟩) n c (k, x, y) f0 f1 f2 f3) HCp.out.box (show 3 < 8 by decide) (by kernel_rfl) (fun w5 u5 => ?_); have HC5 := Lib.hid (HCp.out.upd u5); clear u5)
        have HK5 := Lib.hid (HK.out.below (HC5.out.bel n0 hg hn0))
        have HB5 := Lib.hid (show Bx w5 g 123 (wk (some ⟨b', off, none⟩) n c (k, x, y + min q (b - m)) f0 f1 f2 f3) from HC5.out.box)
        have v0 : w5.cell? ⟨g, 0, none⟩ = some (.slice (some ⟨b', off, none⟩) n c) := HB5.out.cell (k := 0) rfl
        have v1 : w5.cell? ⟨g, 1, none⟩ = some (.int .i64 k) := HB5.out.cell (k := 1) rfl
        have v2 : w5.cell? ⟨g, 2, none⟩ = some (.int .i64 x) := HB5.out.cell (k := 2) rfl
        have v3 : w5.cell? ⟨g, 3, none⟩ = some (.int .i64 (y + min q (b - m))) := HB5.out.cell (k := 3) rfl
        have l5 := HC5.out.box.lt
        go_region_with (go_at_call 54; refine (CP _ ?_).mono ?_; (focus exact (HK5.out.below (b_dr (Below.refl _ _))).rd); rintro e w6 ⟨rfl, hb6⟩; have B6 := HB5.out.drew.below hb6; have c1 := B6.cell (k := 1) rfl; have c2 := B6.cell (k := 2) rfl; have c3 := B6.cell (k := 3) rfl; have e1 := B6.free 1; have e2 := B6.free 2; have e3 := B6.free 3; have l6 := B6.lt)
        all_goals
          have U1 := B6.setOne (k := 1) (v := .int .i64 i2)
          have U2 := U1.trans (U1.box.setOne (k := 2) (v := .int .i64 x2))
          have U3 := U2.trans (U2.box.setOne (k := 3) (v := .int .i64 y2))
          have C8 := Lib.hid (show Chg w g 123 (wk (some ⟨b', off, none⟩) n c (i2, x2, y2) f0 f1 f2 f3) _ from (HC5.out.drew.below hb6).upd U3)
          clear U1 U2 U3 c1 c2 c3 e1 e2 e3 v0 v1 v2 v3 B6
          go_wp2
          go_roundw
          case rel => exact ⟨m + min q (b - m), (i2, x2, y2), f2, rfl, by omega, by omega, NX, NF, C8.out⟩
          case measure => simp [intOf]; omega
      | false =>
        have HX := Lib.hid (show noteF f2 (decide (y = 0 ∧ false = false)) m = noteF f2 true m by rw [decide_eq_true ⟨hy, rfl⟩])
        rw [HX.out] at NX
        clear hy
        go_wp2
        refine wp_region_bel (by kernel_rfl) (by kernel_rfl) ?_
        repeat (go_big_quiet_step ((go_at_call 66; (with_reducible exact Calls.bel_of (CMp _)))))
        refine wpQuiet_nil ?_
        refine bel_all fun wp hbp => ?_
        clear q0 q1 q2 q3 CMp
        have HCp := Lib.hid (HCq.out.below hbp)
        go_upto_region 8 with (first
          | (go_at_call 59; refine (breaks19_2 g (some ⟨b', off, none⟩) n c (k, x, y) f0 f1 f2 f3 m _ HCp.out.box).mono ?_; rintro e w4 ⟨rfl, u4⟩; have HCr := Lib.hid (HCp.out.upd u4); clear u4; have r3 : w4.cell? ⟨g, 3, none⟩ = some (.int .i64 y) := HCr.out.box.cell (k := 3) rfl; have lp := HCr.out.box.lt)
          | (refine wpList_store_fld (by rfl) 3 _ _ rfl g 3 (.int .i64 (y + min q (b - m))) rfl rfl rfl 123 (wk (some ⟨b', off, none⟩) n c (k, x, y) f0 f1 (noteF f2 true m) f3) HCr.out.box (show 3 < 8 by decide) (by kernel_rfl) (fun w5 u5 => ?_); have HC5 := Lib.hid (HCr.out.upd u5); clear u5))
        have HK5 := Lib.hid (HK.out.below (HC5.out.bel n0 hg hn0))
        have HB5 := Lib.hid (show Bx w5 g 123 (wk (some ⟨b', off, none⟩) n c (k, x, y + min q (b - m)) f0 f1 (noteF f2 true m) f3) from HC5.out.box)
        have v0 : w5.cell? ⟨g, 0, none⟩ = some (.slice (some ⟨b', off, none⟩) n c) := HB5.out.cell (k := 0) rfl
        have v1 : w5.cell? ⟨g, 1, none⟩ = some (.int .i64 k) := HB5.out.cell (k := 1) rfl
        have v2 : w5.cell? ⟨g, 2, none⟩ = some (.int .i64 x) := HB5.out.cell (k := 2) rfl
        have v3 : w5.cell? ⟨g, 3, none⟩ = some (.int .i64 (y + min q (b - m))) := HB5.out.cell (k := 3) rfl
        have l5 := HC5.out.box.lt
        go_region_with (go_at_call 54; refine (CP _ ?_).mono ?_; (focus exact (HK5.out.below (b_dr (Below.refl _ _))).rd); rintro e w6 ⟨rfl, hb6⟩; have B6 := HB5.out.drew.below hb6; have c1 := B6.cell (k := 1) rfl; have c2 := B6.cell (k := 2) rfl; have c3 := B6.cell (k := 3) rfl; have e1 := B6.free 1; have e2 := B6.free 2; have e3 := B6.free 3; have l6 := B6.lt)
        all_goals
          have U1 := B6.setOne (k := 1) (v := .int .i64 i2)
          have U2 := U1.trans (U1.box.setOne (k := 2) (v := .int .i64 x2))
          have U3 := U2.trans (U2.box.setOne (k := 3) (v := .int .i64 y2))
          have C8 := Lib.hid (show Chg w g 123 (wk (some ⟨b', off, none⟩) n c (i2, x2, y2) f0 f1 (noteF f2 true m) f3) _ from (HC5.out.drew.below hb6).upd U3)
          clear U1 U2 U3 c1 c2 c3 e1 e2 e3 v0 v1 v2 v3 B6
          go_wp2
          go_roundw
          case rel => exact ⟨m + min q (b - m), (i2, x2, y2), noteF f2 true m, rfl, by omega, by omega, NX, NF, C8.out⟩
          case measure => simp [intOf]; omega

end Go.Proofs.Ytolbihfnogbjaaa
