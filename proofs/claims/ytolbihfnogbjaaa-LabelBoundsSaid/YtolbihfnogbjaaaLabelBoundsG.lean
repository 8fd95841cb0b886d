/- The law LabelBounds where all is right. Conditions: as the theorem says. -/
import Derived.Test.YtolbihfnogbjaaaRows
import Derived.Test.YtolbihfnogbjaaaBase
import Derived.Test.YtolbihfnogbjaaaZ2
import Derived.Test.YtolbihfnogbjaaaBookLim
import Derived.Test.YtolbihfnogbjaaaZ1
import Derived.Test.YtolbihfnogbjaaaZ4
import Derived.Test.YtolbihfnogbjaaaZ6
import Derived.Test.YtolbihfnogbjaaaZ3
import Derived.Test.YtolbihfnogbjaaaErrandChk
import Derived.Test.YtolbihfnogbjaaaZ7
import Derived.Test.YtolbihfnogbjaaaErrandSpot
import Derived.Test.YtolbihfnogbjaaaZ8
import Derived.Test.YtolbihfnogbjaaaZ9
import Derived.Test.YtolbihfnogbjaaaZ10
import Derived.Test.YtolbihfnogbjaaaLabelRPlay
import Derived.Test.YtolbihfnogbjaaaLabelRef
import Derived.Test.YtolbihfnogbjaaaBookMayR
import Derived.Test.YtolbihfnogbjaaaErrandFits
import Derived.Test.YtolbihfnogbjaaaErrandRStep
import Derived.WalkKit
import Derived.WalkSpells
import Derived.WalkSmall
import Derived.Below
import Derived.Lib.Hide
import Derived.BigQuiet
import Derived.OwnWalk
import Derived.Outline
import Derived.Maps.RangeWalk
import Derived.Deep.DeepCutAuto
import Derived.OrdersHeld
import Derived.Deep.RegionHeld3
namespace Go.Proofs.Ytolbihfnogbjaaa
open Go.RowKit

set_option linter.unusedVariables false

theorem Bx.nxL {W : World} {g : Nat} {t : TypeId} {p : Int × Lb} (h : Bx W g t (nx p)) : W.rangeAt g 1 (lb p.2).toList := by
  have := nx_label h.all
  rwa [Nat.zero_add] at this

open Classical in
set_option maxRecDepth 100000 in
set_option maxHeartbeats 8000000 in
theorem bounds_good (w : World) (x : Nat → Int) (A : Option Addr) (n c : Nat) (l : List Tk) (hn : l.length = n) (h : RdK w A l) (hcn : n ≤ c) (hz : A = none → c = 0) (a : Lb) (hi : In64 a) (A2 : Option Addr) (n2 c2 : Nat) (ks : List Int) (hn2 : ks.length = n2) (r2 : RdN w A2 ks) (hli : LightK l) (hlong : n2 ≤ 300) (he : chk25 x l a = 0) :
    Calls Try.prog 5 #[.agg (bk x), .agg (sr A n c a), .slice A2 n2 c2] w fun e w' => e = .returned (.bool true) ∧ Below w.heap.size w w' := by
  have XB : Bx ((w.alloc (.cells (bk x) 23)).alloc (.cells (sr A n c a) 47)) (w.heap.size) 23 (bk x) := (Bx.new (W := w) _ _ (by simp)).alloc _
  have XS : Bx ((w.alloc (.cells (bk x) 23)).alloc (.cells (sr A n c a) 47)) (w.heap.size + 1) 47 (sr A n c a) := (Bx.new (W := (w.alloc (.cells (bk x) 23))) _ _ (by simp))
  have B0 : Below w.heap.size w ((w.alloc (.cells (bk x) 23)).alloc (.cells (sr A n c a) 47)) := b_al (b_al (Below.refl _ _) (Nat.le_refl _) _) (Nat.le_refl _) _
  have HB0 := Lib.hid B0
  have HK := Lib.hid h
  have HN := Lib.hid r2
  have t0 : ((w.alloc (.cells (bk x) 23)).alloc (.cells (sr A n c a) 47)).cell? ⟨w.heap.size + 1, 0, none⟩ = some (.slice A n c) := XS.srT
  have CL := fun W (h : RdK W A l) => light19_any A n c l hn W h
  rw [decide_eq_true hli] at CL
  have few := hli.few
  have gl : ¬ (300 : Int) < (n2 : Int) := by omega
  obtain ⟨hx, ck, hr⟩ := chk25_zero he
  obtain ⟨ok, hl⟩ := checkt_zero ck
  have C1 := fun W (h : RdK W A l) => ways25_ok x A n c l hn a W h few hcn hz hi.1 hi.2 he
  have C3 := fun W (h : RdK W A l) (q : RdN W A2 ks) => play25_ok x A n c l hn a A2 n2 c2 ks hn2 (by omega) W q h few hcn hz hi.1 hi.2 he
  have C4 := fun (b : Lb) W (h : RdK W A l) => reffits19_any A n c l hn b.2.1 b.2.2.1 b.2.2.2 W h
  have HB := Lib.hid (show ∀ b W, RightL l b → RdK W A l → Calls Try.prog 13 #[.slice A n c, .agg (lb b)] W fun e w' => e = .returned (.tuple #[.int .i64 (boundV l b), .int .i64 0]) ∧ Below W.heap.size W w' from fun b W hb h => by
    obtain ⟨_, _, y0, y1, z0, z1⟩ := fits_cells (i := b.2.1) (x := b.2.2.1) (y := b.2.2.2) ok hb.2
    have := bound25_any A n c l hn b W h few hcn hz ⟨by omega, by omega⟩ ⟨by omega, by omega⟩
    rw [bnd_yes ck hb, if_pos rfl] at this
    exact this)
  have C2 := fun W (h : RdK W A l) => HB.out a W hr h
  have hN : 0 ≤ a.1.now ∧ a.1.now ≤ 40320 := hr.1.1
  have hb1 := left_none ok hr.2
  have hb2 := left_top ok hl hr.2
  obtain ⟨bv, hbv⟩ : ∃ bv, boundV l a = bv := ⟨_, rfl⟩
  have bvb : a.1.now ≤ bv ∧ bv ≤ 23091840 := by rw [← hbv]; unfold boundV; omega
  have HO := Lib.hid (show ∀ k, goes x l a k → RightL l (nextB x l a k) ∧ (nextB x l a k).1.now = a.1.now + 1 ∧ boundV l (nextB x l a k) = bv + (if k = 3 ∨ k = 2 then 0 else 1) from fun k g => ⟨(goes_on ok hr g).1, (goes_on ok hr g).2, by rw [← hbv]; exact goes_bound ok hr g⟩)
  obtain ⟨v1, hv1⟩ : ∃ v1, (playL x l a ks).1 = v1 := ⟨_, rfl⟩
  obtain ⟨v2, hv2⟩ : ∃ v2, (playL x l a ks).2 = v2 := ⟨_, rfl⟩
  have HP := Lib.hid (show v2 = true → RightL l v1 ∧ v1.1.now = a.1.now + (n2 : Int) ∧ (v1.2.1 = (n : Int) → bv ≤ v1.1.now) from fun e => by
    have := play_right ok ks a hr (by rw [hv2, e])
    rw [hv1, hbv, hn2] at this
    exact ⟨this.1, this.2.1, fun q => by have h1 := (bound_done ok this.1).2 (by rw [hn]; exact q); omega⟩)
  rw [hv1, hv2] at C3
  rw [hbv] at C2
  obtain ⟨N, hNN⟩ : ∃ N, a.1.now = N := ⟨_, rfl⟩
  rw [hNN] at hN bvb HO HP
  have HNN := Lib.hid hNN
  have gb : ¬ bv < N := by omega
  have HF := Lib.hid (show v2 = true → decide (Fits l (v1.2.1, v1.2.2.1, v1.2.2.2)) = true from fun e => decide_eq_true (HP.out e).1.2)
  clear h hn hcn hz hi hli few he hx ck hr ok hl r2 hn2 hlong hb1 hb2 hbv hv1 hv2 hNN
  go_enter Try.func5, Try.ntmps5
  go_upto_region 10 with (first
    | go_skip
    | (go_at_call 6; (with_reducible refine (CL _ (HK.out.below HB0.out)).mono ?_); rintro e w1 ⟨rfl, hb1⟩; have HB1 := Lib.hid (b_cl HB0.out (Nat.le_refl _) hb1); have XB_1 := XB.below hb1; have XS_1 := XS.below hb1; have t1 : w1.cell? ⟨w.heap.size + 1, 0, none⟩ = some (.slice A n c) := XS_1.srT)
    | refine wpList_loadG (by rfl) 30 _ rfl (w.heap.size + 1) (1) rfl (lb a) _ XS_1.srL Try.underlying30 rfl (by kernel_rfl) ?_
    | (refine wpList_store_box rfl 33 _ _ rfl w1.heap.size (lb a) rfl rfl 33 (lb lz) (Bx.new (W := w1) 33 (lb lz) rfl) (by kernel_rfl) rfl (lb_one _) (fun w2 u2 => ?_); have hn2 := u2.box; have b2 := ((b_al (Below.refl w1.heap.size w1) (Nat.le_refl _) _).trans (u2.bel _ (Nat.le_refl _))); have HB2 := Lib.hid (b_cl HB1.out (Nat.le_refl _) b2); have XB_2 := XB_1.below b2; have XS_2 := XS_1.below b2; have t2 : w2.cell? ⟨w.heap.size + 1, 0, none⟩ = some (.slice A n c) := XS_2.srT; clear b2)
    | refine wpList_load_box (by rfl) 23 _ rfl (w.heap.size) rfl 23 (bk x) _ XB_2 Try.underlying23 rfl (by kernel_rfl) ?_
    | refine wpList_load_box (by rfl) 33 _ rfl (w1.heap.size) rfl 33 (lb a) _ hn2 Try.underlying33 rfl (by kernel_rfl) ?_
    | (go_at_call 8; (with_reducible refine (C1 _ (HK.out.below HB2.out)).mono ?_); rintro e w3 ⟨v, rfl, ho, hb3⟩; have HB3 := Lib.hid (b_cl HB2.out (Nat.le_refl _) hb3); have XB_3 := XB_2.below hb3; have XS_3 := XS_2.below hb3; have XO_3 := hn2.below hb3; obtain ⟨A4, c4, hv, r4, z4⟩ := ho.read; subst hv; have HRa := Lib.hid r4; clear ho r4; have t3 : w3.cell? ⟨w.heap.size + 1, 0, none⟩ = some (.slice A n c) := XS_3.srT; have y3 : w3.cell? ⟨w1.heap.size, 0, none⟩ = some (.int .i64 N) := (by rw [← HNN.out]; exact XO_3.lbN))
    | refine wpList_load_box (by rfl) 33 _ rfl (w1.heap.size) rfl 33 (lb a) _ XO_3 Try.underlying33 rfl (by kernel_rfl) ?_
    | (go_at_call 13; (with_reducible refine (C2 _ (HK.out.below HB3.out)).mono ?_); rintro e w4 ⟨rfl, hb4⟩; have HB4 := Lib.hid (b_cl HB3.out (Nat.le_refl _) hb4); have XB_4 := XB_3.below hb4; have XS_4 := XS_3.below hb4; have XO_4 := XO_3.below hb4; have HRb := Lib.hid (HRa.out.below hb4); have t4 : w4.cell? ⟨w.heap.size + 1, 0, none⟩ = some (.slice A n c) := XS_4.srT; have y4 : w4.cell? ⟨w1.heap.size, 0, none⟩ = some (.int .i64 N) := (by rw [← HNN.out]; exact XO_4.lbN)))
  (try go_frame)
  obtain ⟨L, hL⟩ : ∃ L, waysL x l a = L := ⟨_, rfl⟩
  have HL := Lib.hid hL
  rw [hL] at HRb ⊢
  obtain ⟨m, hm⟩ : ∃ m, L.length = m := ⟨_, rfl⟩
  rw [hm]
  have HM := Lib.hid hm
  have hmb : m ≤ 4 := by rw [← hm, ← hL]; exact waysTo_len x l a 4
  clear hL hm
  obtain ⟨G, hG⟩ : ∃ G, w1.heap.size = G := ⟨_, rfl⟩
  have XOs : Bx w4 G 33 (lb a) := by rw [← hG]; exact XO_4
  rw [hG]
  obtain ⟨ws, hws⟩ : ∃ ws : World, ws = w4 := ⟨_, rfl⟩
  subst hws
  have XBs := XB_4
  have XSs := XS_4
  have HBs := HB4
  go_wp2
  go_loopw [66] (fun i wr => ∃ j : Nat, j ≤ m ∧ i = .int .i64 j ∧ Hid (Below ws.heap.size ws wr)) (fun i _ => m - (intOf i).toNat)
  case atStart => exact ⟨0, Nat.zero_le _, rfl, Lib.hid (Below.refl _ _)⟩
  case round =>
    obtain ⟨j, hj, rfl, HR⟩ := hrel
    have XBr := XBs.below HR.out
    have XSr := XSs.below HR.out
    have XOr := XOs.below HR.out
    have HBr := Lib.hid (b_cl HBs.out (Nat.le_refl _) HR.out)
    by_cases hlt : j < m
    · have gj : (j : Int) < (m : Int) := by omega
      obtain ⟨b4, o4, p, hA4, hb4, hcs, hp⟩ := (HRb.out.below HR.out).at_ (j := j) (by rw [HM.out]; exact hlt)
      obtain ⟨kk, nb⟩ := p
      have hcs : wr.rangeAt b4 (o4 + j * 18) (nx (kk, nb)).toList := hcs
      obtain ⟨gg, hnb⟩ := ways_at (x := x) (l := l) (a := a) (i := j) (p := (kk, nb)) (by rw [HL.out]; exact hp.out)
      simp only at gg hnb
      obtain ⟨q1, q2, q3⟩ := HO.out kk gg
      rw [← hnb] at q1 q2 q3
      have CB := fun W (h : RdK W A l) => HB.out nb W q1 h
      have HQ2 := Lib.hid q2
      subst hA4
      have t0r : wr.cell? ⟨w.heap.size + 1, 0, none⟩ = some (.slice A n c) := XSr.srT
      clear gg hnb q1 hp hlt
      by_cases k3 : kk = 3
      · have q4 : boundV l nb = bv := by rw [q3, if_pos (Or.inl k3)]; omega
        rw [q4] at CB
        have e3 : (kk == 3) = true := by simp [k3]
        have eb : (bv != bv) = false := by simp
        clear q3 q4 k3
        have gN1 : (N + 1 != N + 1) = false := by simp
        clear q2
        go_wp2_with (first
          | go_skip
          | refine wpList_loadG (by rfl) 44 _ rfl (b4) (o4 + j * 18) rfl (nx (kk, nb)) _ hcs Try.underlying44 rfl (by kernel_rfl) ?_
          | (refine wpList_store_box rfl 44 _ _ rfl wr.heap.size (nx (kk, nb)) rfl rfl 44 (nx (0, lz)) (Bx.new (W := wr) 44 (nx (0, lz)) rfl) (by kernel_rfl) rfl (nx_one _) (fun w1 u1 => ?_); have hn1 := u1.box; have b1 := ((b_al (Below.refl wr.heap.size wr) (Nat.le_refl _) _).trans (u1.bel _ (Nat.le_refl _))); have HB1 := Lib.hid (b_cl HBr.out (Nat.le_refl _) b1); have XB_1 := XBr.below b1; have XS_1 := XSr.below b1; have XO_1 := XOr.below b1; have HR1 := Lib.hid (b_cl HR.out (Nat.le_refl _) b1); have t1 : w1.cell? ⟨w.heap.size + 1, 0, none⟩ = some (.slice A n c) := XS_1.srT; clear b1)
          | refine wpList_loadG (by rfl) 33 _ rfl (wr.heap.size) (1) rfl (lb nb) _ hn1.nxL Try.underlying33 rfl (by kernel_rfl) ?_
          | (go_at_call 13; (with_reducible refine (CB _ (HK.out.below HB1.out)).mono ?_); rintro e w2 ⟨rfl, hb2⟩; have HB2 := Lib.hid (b_cl HB1.out (Nat.le_refl _) hb2); have XB_2 := XB_1.below hb2; have XS_2 := XS_1.below hb2; have XO_2 := XO_1.below hb2; have XN_2 := hn1.below hb2; have HR2 := Lib.hid (b_cl HR1.out (Nat.le_refl _) hb2); have t2 : w2.cell? ⟨w.heap.size + 1, 0, none⟩ = some (.slice A n c) := XS_2.srT; have z0 : w2.cell? ⟨wr.heap.size, 0, none⟩ = some (.int .i64 kk) := XN_2.cell rfl; have z1 : w2.cell? ⟨wr.heap.size, 1, none⟩ = some (.int .i64 (N + 1)) := (by rw [← HQ2.out]; exact XN_2.cell rfl); have z2 : w2.cell? ⟨G, 0, none⟩ = some (.int .i64 N) := (by rw [← HNN.out]; exact XO_2.lbN)))
        go_roundw
        case rel => exact ⟨j + 1, by omega, by go_num, HR2⟩
        case measure => simp [intOf]; omega
      · by_cases k2 : kk = 2
        · have q4 : boundV l nb = bv := by rw [q3, if_pos (Or.inr k2)]; omega
          rw [q4] at CB
          have e3 : (kk == 3) = false := by simp [k3]
          have e2 : (kk == 2) = true := by simp [k2]
          have eb : (bv != bv) = false := by simp
          clear q3 q4 k3 k2
          have gN1 : (N + 1 != N + 1) = false := by simp
          clear q2
          go_wp2_with (first
            | go_skip
            | refine wpList_loadG (by rfl) 44 _ rfl (b4) (o4 + j * 18) rfl (nx (kk, nb)) _ hcs Try.underlying44 rfl (by kernel_rfl) ?_
            | (refine wpList_store_box rfl 44 _ _ rfl wr.heap.size (nx (kk, nb)) rfl rfl 44 (nx (0, lz)) (Bx.new (W := wr) 44 (nx (0, lz)) rfl) (by kernel_rfl) rfl (nx_one _) (fun w1 u1 => ?_); have hn1 := u1.box; have b1 := ((b_al (Below.refl wr.heap.size wr) (Nat.le_refl _) _).trans (u1.bel _ (Nat.le_refl _))); have HB1 := Lib.hid (b_cl HBr.out (Nat.le_refl _) b1); have XB_1 := XBr.below b1; have XS_1 := XSr.below b1; have XO_1 := XOr.below b1; have HR1 := Lib.hid (b_cl HR.out (Nat.le_refl _) b1); have t1 : w1.cell? ⟨w.heap.size + 1, 0, none⟩ = some (.slice A n c) := XS_1.srT; clear b1)
            | refine wpList_loadG (by rfl) 33 _ rfl (wr.heap.size) (1) rfl (lb nb) _ hn1.nxL Try.underlying33 rfl (by kernel_rfl) ?_
            | (go_at_call 13; (with_reducible refine (CB _ (HK.out.below HB1.out)).mono ?_); rintro e w2 ⟨rfl, hb2⟩; have HB2 := Lib.hid (b_cl HB1.out (Nat.le_refl _) hb2); have XB_2 := XB_1.below hb2; have XS_2 := XS_1.below hb2; have XO_2 := XO_1.below hb2; have XN_2 := hn1.below hb2; have HR2 := Lib.hid (b_cl HR1.out (Nat.le_refl _) hb2); have t2 : w2.cell? ⟨w.heap.size + 1, 0, none⟩ = some (.slice A n c) := XS_2.srT; have z0 : w2.cell? ⟨wr.heap.size, 0, none⟩ = some (.int .i64 kk) := XN_2.cell rfl; have z1 : w2.cell? ⟨wr.heap.size, 1, none⟩ = some (.int .i64 (N + 1)) := (by rw [← HQ2.out]; exact XN_2.cell rfl); have z2 : w2.cell? ⟨G, 0, none⟩ = some (.int .i64 N) := (by rw [← HNN.out]; exact XO_2.lbN)))
          go_roundw
          case rel => exact ⟨j + 1, by omega, by go_num, HR2⟩
          case measure => simp [intOf]; omega
        · have q4 : boundV l nb = bv + 1 := by rw [q3, if_neg (by omega)]
          rw [q4] at CB
          have e3 : (kk == 3) = false := by simp [k3]
          have e2 : (kk == 2) = false := by simp [k2]
          have eb : (bv + 1 != bv + 1) = false := by simp
          clear q3 q4 k3 k2
          have gN1 : (N + 1 != N + 1) = false := by simp
          clear q2
          go_wp2_with (first
            | go_skip
            | refine wpList_loadG (by rfl) 44 _ rfl (b4) (o4 + j * 18) rfl (nx (kk, nb)) _ hcs Try.underlying44 rfl (by kernel_rfl) ?_
            | (refine wpList_store_box rfl 44 _ _ rfl wr.heap.size (nx (kk, nb)) rfl rfl 44 (nx (0, lz)) (Bx.new (W := wr) 44 (nx (0, lz)) rfl) (by kernel_rfl) rfl (nx_one _) (fun w1 u1 => ?_); have hn1 := u1.box; have b1 := ((b_al (Below.refl wr.heap.size wr) (Nat.le_refl _) _).trans (u1.bel _ (Nat.le_refl _))); have HB1 := Lib.hid (b_cl HBr.out (Nat.le_refl _) b1); have XB_1 := XBr.below b1; have XS_1 := XSr.below b1; have XO_1 := XOr.below b1; have HR1 := Lib.hid (b_cl HR.out (Nat.le_refl _) b1); have t1 : w1.cell? ⟨w.heap.size + 1, 0, none⟩ = some (.slice A n c) := XS_1.srT; clear b1)
            | refine wpList_loadG (by rfl) 33 _ rfl (wr.heap.size) (1) rfl (lb nb) _ hn1.nxL Try.underlying33 rfl (by kernel_rfl) ?_
            | (go_at_call 13; (with_reducible refine (CB _ (HK.out.below HB1.out)).mono ?_); rintro e w2 ⟨rfl, hb2⟩; have HB2 := Lib.hid (b_cl HB1.out (Nat.le_refl _) hb2); have XB_2 := XB_1.below hb2; have XS_2 := XS_1.below hb2; have XO_2 := XO_1.below hb2; have XN_2 := hn1.below hb2; have HR2 := Lib.hid (b_cl HR1.out (Nat.le_refl _) hb2); have t2 : w2.cell? ⟨w.heap.size + 1, 0, none⟩ = some (.slice A n c) := XS_2.srT; have z0 : w2.cell? ⟨wr.heap.size, 0, none⟩ = some (.int .i64 kk) := XN_2.cell rfl; have z1 : w2.cell? ⟨wr.heap.size, 1, none⟩ = some (.int .i64 (N + 1)) := (by rw [← HQ2.out]; exact XN_2.cell rfl); have z2 : w2.cell? ⟨G, 0, none⟩ = some (.int .i64 N) := (by rw [← HNN.out]; exact XO_2.lbN)))
          go_roundw
          case rel => exact ⟨j + 1, by omega, by go_num, HR2⟩
          case measure => simp [intOf]; omega
    · have gj : ¬ (j : Int) < (m : Int) := by omega
      have t0r : wr.cell? ⟨w.heap.size + 1, 0, none⟩ = some (.slice A n c) := XSr.srT
      cases v2 with
      | false =>
        go_wp2_with (first
          | go_skip
          | refine wpList_load_box (by rfl) 23 _ rfl (w.heap.size) rfl 23 (bk x) _ XBr Try.underlying23 rfl (by kernel_rfl) ?_
          | refine wpList_load_box (by rfl) 33 _ rfl (G) rfl 33 (lb a) _ XOr Try.underlying33 rfl (by kernel_rfl) ?_
          | (go_at_call 12; (with_reducible refine (C3 _ (HK.out.below HBr.out) (HN.out.below HBr.out)).mono ?_); rintro e w1 ⟨rfl, hb1⟩; have HB1 := Lib.hid (b_cl HBr.out (Nat.le_refl _) hb1); have XB_1 := XBr.below hb1; have XS_1 := XSr.below hb1; have XO_1 := XOr.below hb1; have t1 : w1.cell? ⟨w.heap.size + 1, 0, none⟩ = some (.slice A n c) := XS_1.srT)
          | (refine wpList_store_box rfl 33 _ _ rfl w1.heap.size (lb v1) rfl rfl 33 (lb lz) (Bx.new (W := w1) 33 (lb lz) rfl) (by kernel_rfl) rfl (lb_one _) (fun w2 u2 => ?_); have hn2 := u2.box; have b2 := ((b_al (Below.refl w1.heap.size w1) (Nat.le_refl _) _).trans (u2.bel _ (Nat.le_refl _))); have HB2 := Lib.hid (b_cl HB1.out (Nat.le_refl _) b2); have XB_2 := XB_1.below b2; have XS_2 := XS_1.below b2; have XO_2 := XO_1.below b2; have t2 : w2.cell? ⟨w.heap.size + 1, 0, none⟩ = some (.slice A n c) := XS_2.srT; clear b2)
          | (go_at_call 7; (with_reducible refine (alive25_any _).mono ?_); rintro e w3 ⟨rfl, hb3⟩; have HB3 := Lib.hid (b_cl HB2.out (Nat.le_refl _) hb3); have XB_3 := XB_2.below hb3; have XS_3 := XS_2.below hb3; have XO_3 := XO_2.below hb3; have XP_3 := hn2.below hb3))
        go_ret
        exact ⟨rfl, HB3.out⟩
      | true =>
        obtain ⟨p1, p2, p3⟩ := HP.out rfl
        have HV := Lib.hid p2
        have hvb : N + (n2 : Int) ≤ 40320 := by rw [← p2]; exact p1.1.1.2
        have CF := C4 v1
        rw [HF.out rfl] at CF
        have gs : (N + (n2 : Int) == N + (n2 : Int)) = true := by simp
        by_cases hd : v1.2.1 = (n : Int)
        · have gY : ¬ N + (n2 : Int) < bv := by have := p3 hd; omega
          have gY2 : decide (N + (n2 : Int) < bv) = false := decide_eq_false (by omega)
          have gd : (v1.2.1 == (n : Int)) = true := by simp [hd]
          clear p1 p2 p3 hd
          go_wp2_with (first
            | go_skip
            | refine wpList_load_box (by rfl) 23 _ rfl (w.heap.size) rfl 23 (bk x) _ XBr Try.underlying23 rfl (by kernel_rfl) ?_
            | refine wpList_load_box (by rfl) 33 _ rfl (G) rfl 33 (lb a) _ XOr Try.underlying33 rfl (by kernel_rfl) ?_
            | (go_at_call 12; (with_reducible refine (C3 _ (HK.out.below HBr.out) (HN.out.below HBr.out)).mono ?_); rintro e w1 ⟨rfl, hb1⟩; have HB1 := Lib.hid (b_cl HBr.out (Nat.le_refl _) hb1); have XB_1 := XBr.below hb1; have XS_1 := XSr.below hb1; have XO_1 := XOr.below hb1; have t1 : w1.cell? ⟨w.heap.size + 1, 0, none⟩ = some (.slice A n c) := XS_1.srT)
            | (refine wpList_store_box rfl 33 _ _ rfl w1.heap.size (lb v1) rfl rfl 33 (lb lz) (Bx.new (W := w1) 33 (lb lz) rfl) (by kernel_rfl) rfl (lb_one _) (fun w2 u2 => ?_); have hn2 := u2.box; have b2 := ((b_al (Below.refl w1.heap.size w1) (Nat.le_refl _) _).trans (u2.bel _ (Nat.le_refl _))); have HB2 := Lib.hid (b_cl HB1.out (Nat.le_refl _) b2); have XB_2 := XB_1.below b2; have XS_2 := XS_1.below b2; have XO_2 := XO_1.below b2; have t2 : w2.cell? ⟨w.heap.size + 1, 0, none⟩ = some (.slice A n c) := XS_2.srT; have z0 : w2.cell? ⟨w1.heap.size, 0, none⟩ = some (.int .i64 (N + (n2 : Int))) := (by rw [← HV.out]; exact hn2.cell rfl); have z1 : w2.cell? ⟨w1.heap.size, 14, none⟩ = some (.int .i64 v1.2.1) := hn2.cell rfl; have z2 : w2.cell? ⟨G, 0, none⟩ = some (.int .i64 N) := (by rw [← HNN.out]; exact XO_2.lbN); clear b2)
            | refine wpList_loadG (by rfl) 28 _ rfl (w1.heap.size) (14) rfl (sp3 v1.2) _ hn2.lbS Try.underlying28 rfl (by kernel_rfl) ?_
            | (go_at_call 17; refine (CF _ (HK.out.below HB2.out)).mono ?_; rintro e w3 ⟨rfl, hb3⟩; have HB3 := Lib.hid (b_cl HB2.out (Nat.le_refl _) hb3); have XB_3 := XB_2.below hb3; have XS_3 := XS_2.below hb3; have XO_3 := XO_2.below hb3; have XP_3 := hn2.below hb3)
            | (go_at_call 7; (with_reducible refine (alive25_any _).mono ?_); rintro e w4 ⟨rfl, hb4⟩; have HB4 := Lib.hid (b_cl HB3.out (Nat.le_refl _) hb4); have XB_4 := XB_3.below hb4; have XS_4 := XS_3.below hb4; have XO_4 := XO_3.below hb4; have XP_4 := XP_3.below hb4))
          go_ret
          exact ⟨rfl, HB4.out⟩
        · have gd : (v1.2.1 == (n : Int)) = false := by simp [hd]
          clear p1 p2 p3 hd
          go_wp2_with (first
            | go_skip
            | refine wpList_load_box (by rfl) 23 _ rfl (w.heap.size) rfl 23 (bk x) _ XBr Try.underlying23 rfl (by kernel_rfl) ?_
            | refine wpList_load_box (by rfl) 33 _ rfl (G) rfl 33 (lb a) _ XOr Try.underlying33 rfl (by kernel_rfl) ?_
            | (go_at_call 12; (with_reducible refine (C3 _ (HK.out.below HBr.out) (HN.out.below HBr.out)).mono ?_); rintro e w1 ⟨rfl, hb1⟩; have HB1 := Lib.hid (b_cl HBr.out (Nat.le_refl _) hb1); have XB_1 := XBr.below hb1; have XS_1 := XSr.below hb1; have XO_1 := XOr.below hb1; have t1 : w1.cell? ⟨w.heap.size + 1, 0, none⟩ = some (.slice A n c) := XS_1.srT)
            | (refine wpList_store_box rfl 33 _ _ rfl w1.heap.size (lb v1) rfl rfl 33 (lb lz) (Bx.new (W := w1) 33 (lb lz) rfl) (by kernel_rfl) rfl (lb_one _) (fun w2 u2 => ?_); have hn2 := u2.box; have b2 := ((b_al (Below.refl w1.heap.size w1) (Nat.le_refl _) _).trans (u2.bel _ (Nat.le_refl _))); have HB2 := Lib.hid (b_cl HB1.out (Nat.le_refl _) b2); have XB_2 := XB_1.below b2; have XS_2 := XS_1.below b2; have XO_2 := XO_1.below b2; have t2 : w2.cell? ⟨w.heap.size + 1, 0, none⟩ = some (.slice A n c) := XS_2.srT; have z0 : w2.cell? ⟨w1.heap.size, 0, none⟩ = some (.int .i64 (N + (n2 : Int))) := (by rw [← HV.out]; exact hn2.cell rfl); have z1 : w2.cell? ⟨w1.heap.size, 14, none⟩ = some (.int .i64 v1.2.1) := hn2.cell rfl; have z2 : w2.cell? ⟨G, 0, none⟩ = some (.int .i64 N) := (by rw [← HNN.out]; exact XO_2.lbN); clear b2)
            | refine wpList_loadG (by rfl) 28 _ rfl (w1.heap.size) (14) rfl (sp3 v1.2) _ hn2.lbS Try.underlying28 rfl (by kernel_rfl) ?_
            | (go_at_call 17; refine (CF _ (HK.out.below HB2.out)).mono ?_; rintro e w3 ⟨rfl, hb3⟩; have HB3 := Lib.hid (b_cl HB2.out (Nat.le_refl _) hb3); have XB_3 := XB_2.below hb3; have XS_3 := XS_2.below hb3; have XO_3 := XO_2.below hb3; have XP_3 := hn2.below hb3)
            | (go_at_call 7; (with_reducible refine (alive25_any _).mono ?_); rintro e w4 ⟨rfl, hb4⟩; have HB4 := Lib.hid (b_cl HB3.out (Nat.le_refl _) hb4); have XB_4 := XB_3.below hb4; have XS_4 := XS_3.below hb4; have XO_4 := XO_3.below hb4; have XP_4 := XP_3.below hb4))
          go_ret
          exact ⟨rfl, HB4.out⟩

end Go.Proofs.Ytolbihfnogbjaaa
