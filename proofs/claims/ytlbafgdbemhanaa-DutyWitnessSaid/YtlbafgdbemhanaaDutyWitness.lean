/- DutyWitness of layer 16 answers true at every input: each finding is true where it points: the timeline up to its end breaks the clause, up to one minute less it does not; each clause is told once. Conditions: none beyond the statement's own. -/
import Derived.Test.YtlbafgdbemhanaaRows
import Derived.Test.YtlbafgdbemhanaaBase
import Derived.Test.YtlbafgdbemhanaaZ2
import Derived.Test.YtlbafgdbemhanaaBookLim
import Derived.Test.YtlbafgdbemhanaaBookMayR
import Derived.Test.YtlbafgdbemhanaaZ3
import Derived.Test.YtlbafgdbemhanaaZ1
import Derived.Test.YtlbafgdbemhanaaDutySet
import Derived.Test.YtlbafgdbemhanaaDutyAudit
import Derived.Test.YtlbafgdbemhanaaDutyAlive
import Derived.Test.YtlbafgdbemhanaaRecSmall
import Derived.Test.YtlbafgdbemhanaaDutyUpto
import Derived.Test.YtlbafgdbemhanaaZ5
import Derived.WalkKit
import Derived.WalkSmall
import Derived.WalkSpells
import Derived.ProofKit
import Derived.OpenShut
import Derived.ShutString
import Derived.ChangeOld
import Derived.Below
import Derived.Lib.Hide
import Derived.OwnWalk
import Derived.BigQuiet
import Derived.Outline
import Derived.Great.BuildSlice
import Derived.Maps.RangeWalk
import Derived.Deep.DeepCutAuto
import Derived.OrdersHeld
import Derived.Deep.RegionHeld3
namespace Go.Proofs.Ytlbafgdbemhanaa.dutyWitness
open Go.ChangeShapes Go.WideShapes Go.ChangeAt Go.RowKit
open Go.ChangeMaps (open_string shut_string)
set_option linter.unusedVariables false

theorem own : ownKnob Try.prog.godebug = none := by kernel_rfl
theorem laidOut : laidOutB Try.prog = true := by kernel_rfl

set_option maxRecDepth 100000 in
set_option maxHeartbeats 4000000 in
theorem walk (w : World) (x0 : Nat → Int) (A1 : Option Addr) (c1 : Nat) (l1 : List Rc) (r1 : RdR w A1 l1) (z1 : A1 = none → c1 = 0) :
    Calls Try.prog 6 #[.agg (bk x0), .slice A1 l1.length c1] w fun e w' => e = .returned (.bool true) ∧ Below w.heap.size w w' := by
  obtain ⟨n, hn⟩ : ∃ n, l1.length = n := ⟨_, rfl⟩
  rw [hn]
  have RB0 : RdI (w.alloc (.cells (bk x0) 23)) w.heap.size 0 x0 := RdI.new x0 23 rfl
  have B0 : Below w.heap.size w (w.alloc (.cells (bk x0) 23)) := b_al (Below.refl _ _) (Nat.le_refl _) _
  have h0 := r1.below B0
  by_cases hbig : 60 < n
  · clear hn
    go_enter Try.func6, Try.ntmps6
    go_wp2_with (go_at_call 9; (with_reducible refine (alive16_any _).mono ?_); rintro e w99 ⟨rfl, hb99⟩)
    go_ret
    exact ⟨rfl, b_cl B0 (Nat.le_refl _) hb99⟩
  have CA := fun W h => audit16_any x0 A1 c1 l1 W h (by omega)
  rw [hn] at CA
  by_cases hd : dcheckV x0 l1 = 0
  case neg =>
    have e : auditV x0 l1 = ([], dcheckV x0 l1) := by unfold auditV; rw [if_neg hd]
    rw [e] at CA
    dsimp only at CA
    generalize dcheckV x0 l1 = er at hd CA
    have ne : (er != 0) = true := by simpa using hd
    have ne2 : (er == 0) = false := by simpa using hd
    clear hd e hn
    go_enter Try.func6, Try.ntmps6
    go_wp2_with (first
      | go_skip
      | refine wpList_load_bk (by rfl) 23 _ rfl _ _ rfl x0 _ (RB0) Try.underlying23 rfl (by kernel_rfl) ?_
      | (go_at_call 10; (with_reducible refine (CA _ h0).mono ?_); rintro e w1 ⟨A2, m2, c2, rfl, hm2, _, _, hb1⟩; obtain rfl : m2 = 0 := hm2.symm; clear hm2)
      | (go_at_call 9; (with_reducible refine (alive16_any _).mono ?_); rintro e w99 ⟨rfl, hb99⟩))
    go_ret
    exact ⟨by first | rfl | simp, b_cl (b_cl B0 (Nat.le_refl _) hb1) (Nat.le_refl _) hb99⟩
  obtain ⟨hx, ht⟩ := dcheck_ok hd
  have e : auditV x0 l1 = (listF (Au.zero.run x0 (kindsV l1)).F, 0) := by unfold auditV; rw [if_pos hd]
  rw [e] at CA
  dsimp only at CA
  have hRl := listF_len (Au.zero.run x0 (kindsV l1)).F
  obtain ⟨R, hR⟩ : ∃ R, listF (Au.zero.run x0 (kindsV l1)).F = R := ⟨_, rfl⟩
  have WT := fun i c f t hi hr => witness hx ht hR (i := i) (c := c) (f := f) (t := t) hi hr
  rw [hR] at CA hRl
  have UP := fun m W h => upto_any A1 c1 n l1 m W hn h (by omega)
  have FI := fun W h => reffin_any A1 c1 n l1 W (Lib.hid hn) h (by omega)
  have AU := fun A c l W h hl => audit16_any x0 A c l W h hl
  have UL := fun m => upto_len l1 m
  rw [hn] at UL
  have hn60 : n ≤ 60 := by omega
  obtain ⟨m, hm⟩ : ∃ m, R.length = m := ⟨_, rfl⟩
  rw [hm] at CA hRl
  have HM := Lib.hid hm
  obtain ⟨fe, hfe⟩ : ∃ fe, fin l1 = fe := ⟨_, rfl⟩
  have hfe1 : fe ≤ 1000000000 := by have := (fin_zero ht).2.2; omega
  rw [hfe] at FI WT
  clear hn hd e hR hm hx ht hfe hbig
  go_enter Try.func6, Try.ntmps6
  go_wp2_with (first
    | go_skip
    | refine wpList_load_bk (by rfl) 23 _ rfl _ _ rfl x0 _ (RB0) Try.underlying23 rfl (by kernel_rfl) ?_
    | (go_at_call 10; (with_reducible refine (CA _ h0).mono ?_); rintro e w1 ⟨A2, m2, c2, rfl, hm2, hr2, _, hb1⟩; subst hm2))
  have RB1 := RB0.below hb1
  have h1 := h0.below hb1
  have B1 := b_cl B0 (Nat.le_refl _) hb1
  have HR2 := Lib.hid hr2
  have HB1 := Lib.hid B1
  have hg1 : w.heap.size < w1.heap.size := RB1.1
  clear RB0 h0 B0 hb1 CA hr2 B1
  go_loopw [39] (fun i wr => ∃ k : Nat, k ≤ m ∧ i = .int .i64 (k : Nat) ∧ Hid (Below w1.heap.size w1 wr)) (fun i _ => m - (intOf i).toNat)
  case atStart => exact ⟨0, Nat.zero_le _, rfl, Lib.hid (Below.refl _ _)⟩
  case round =>
    obtain ⟨k, hk, rfl, HB⟩ := hrel
    obtain ⟨w2, rfl⟩ : ∃ w2 : World, w2 = wr := ⟨_, rfl⟩
    by_cases hlt : k < m
    case neg =>
      obtain rfl : k = m := by omega
      go_wp2_with (go_at_call 9; (with_reducible refine (alive16_any _).mono ?_); rintro e w99 ⟨rfl, hb99⟩)
      go_ret
      exact ⟨rfl, b_cl (b_cl HB1.out (Nat.le_refl _) HB.out) (Nat.le_refl _) hb99⟩
    have hlt' : k < R.length := by rw [HM.out]; exact hlt
    obtain ⟨b, off, c, f, t, rfl, hbb, hc0, hc1, hc2, hs⟩ := HR2.out.at_ hlt'
    rw [← HB.out.cell (p := ⟨b, _, none⟩) hbb] at hc0 hc1 hc2
    have hbr : b < w2.heap.size := by have := HB.out.size; omega
    obtain ⟨⟨wf0, wf1, wf2⟩, wprev, ⟨Y, hY, hYm, hYl⟩, ⟨Z, hZ, hZm, hZl⟩⟩ := WT k c f t hlt' hs.out
    have RBw := RB1.below HB.out
    have hw := h1.below HB.out
    have hz2 := HB.out.size
    have BW : Below w2.heap.size w2 (w2.alloc (.cells #[.int .i64 c, .int .i64 f, .int .i64 t] 40)) := b_al (Below.refl _ _) (Nat.le_refl _) _
    have RB3 := RBw.below BW
    have h3 := hw.below BW
    have BX3 : Bx (w2.alloc (.cells #[.int .i64 c, .int .i64 f, .int .i64 t] 40)) w2.heap.size 40 #[.int .i64 c, .int .i64 f, .int .i64 t] := Bx.new _ _ rfl
    have dg1 : decide (f < 0) = false := decide_eq_false (by omega)
    have dg2 : decide (t ≤ f) = false := decide_eq_false (by omega)
    have dg3 : decide (fe < t) = false := decide_eq_false (by omega)
    have HS := Lib.hid hs.out
    clear hs WT HM
    go_upto_region 9 with fail
    (try go_frame)
    obtain ⟨w3, hw3⟩ : ∃ w3, w2.alloc (.cells #[.int .i64 c, .int .i64 f, .int .i64 t] 40) = w3 := ⟨_, rfl⟩
    rw [hw3] at BW RB3 h3 BX3 ⊢
    clear hw3
    have p0 := BX3.cell (k := 0) rfl
    have p1 := BX3.cell (k := 1) rfl
    have p2 := BX3.cell (k := 2) rfl
    go_cut [75] (fun u75 wx => u75 = .bool false ∧ Below w3.heap.size w3 wx)
    case first =>
      have q0 : ∀ p : BelowOf w3, p.world.cell? ⟨w2.heap.size, 0, none⟩ = some (.int .i64 c) := fun p => p.cell p0
      have q1 : ∀ p : BelowOf w3, p.world.cell? ⟨w2.heap.size, 1, none⟩ = some (.int .i64 f) := fun p => p.cell p1
      have q2 : ∀ p : BelowOf w3, p.world.cell? ⟨w2.heap.size, 2, none⟩ = some (.int .i64 t) := fun p => p.cell p2
      have FB : ∀ p : BelowOf w3, Calls Try.prog 17 #[.slice A1 n c1] p.world fun e w' => e = .returned (.int .i64 fe) ∧ Below p.world.heap.size p.world w' := fun p => (FI _ (h3.below p.ok)).mono fun e w' ⟨h1, h2⟩ => ⟨h1, by rw [h2]; exact Below.refl _ _⟩
      by_cases hk0 : k = 0
      case pos =>
        have dk : decide ((0 : Int) < (k : Int)) = false := decide_eq_false (by omega)
        have dk2 : decide (0 < k) = false := decide_eq_false (by omega)
        clear hk0 wprev
        refine wp_region_bel (by kernel_rfl) (by kernel_rfl) ?_
        repeat (go_big_quiet_step (first | (go_at_call 17; (with_reducible exact Calls.bel_of (FB _)))))
        refine wpQuiet_nil ?_
        refine bel_all fun wq hbq => ?_
        go_wp2
        go_meet
        exact ⟨rfl, hbq⟩
      case neg =>
        obtain ⟨j, hj⟩ : ∃ j, k = j + 1 := ⟨k - 1, by omega⟩
        have hprev := wprev j hj
        have hjr : j < R.length := by omega
        obtain ⟨b', off', c', f', t', he, hbb', hd0, hd1, hd2, hs'⟩ := HR2.out.at_ hjr
        simp only [Option.some.injEq, Addr.mk.injEq, and_true] at he
        obtain ⟨rfl, rfl⟩ := he
        rw [hs'.out] at hprev
        dsimp only at hprev
        rw [← HB.out.cell (p := ⟨b, _, none⟩) hbb, ← BW.cell (p := ⟨b, _, none⟩) hbr] at hd0
        have q3 : ∀ p : BelowOf w3, p.world.cell? ⟨b, off + j * 3, none⟩ = some (.int .i64 c') := fun p => p.cell hd0
        have dk : decide ((0 : Int) < (k : Int)) = true := decide_eq_true (by omega)
        have dk2 : decide (0 < k) = true := decide_eq_true (by omega)
        have dj : (k : Int) - 1 = (j : Int) := by omega
        have dj0 : (0 : Int) ≤ (j : Int) := by omega
        have djm : (j : Int) < (m : Int) := by omega
        have dp : decide (c ≤ c') = false := decide_eq_false (by omega)
        have hk60 : k ≤ 10 := by omega
        have HJ := Lib.hid hj
        clear hk0 wprev hj hprev hs' hd1 hd2
        refine wp_region_bel (by kernel_rfl) (by kernel_rfl) ?_
        repeat (go_big_quiet_step (first | (go_at_call 17; (with_reducible exact Calls.bel_of (FB _)))))
        refine wpQuiet_nil ?_
        refine bel_all fun wq hbq => ?_
        go_wp2
        go_meet
        exact ⟨rfl, hbq⟩
    case rest =>
    obtain ⟨rfl, hbe⟩ := hcut
    rename World => w4
    have RB4 := RB3.below hbe
    have h4 := h3.below hbe
    have BX4 := BX3.below hbe
    have hz3 := BW.size
    have hl3 := BX3.lt
    have HB4 := Lib.hid ((b_cl HB.out (by omega) BW).trans (hbe.mono (by omega)))
    have s2 := BX4.cell (k := 2) rfl
    have hz4 := hbe.size
    clear hbe RB3 h3 BX3 BW p0 p1 p2 wprev FI dg1 dg2 dg3 hc0 hc1 hc2
    go_upto_region 11 with fail
    (try go_frame)
    go_cut [9, 10] (fun u9 u10 wx => u10 = .int .i64 0 ∧ ∃ (A9 : Option Addr) (m9 c9 : Nat), u9 = .slice A9 m9 c9 ∧ Y.length = m9 ∧ RdF wx A9 Y ∧ Below w4.heap.size w4 wx)
    case first =>
      have UY := UL t
      have AY := fun A c W h => AU A c (uptoV l1 t) W h (by omega)
      rw [hY] at AY
      dsimp only at AY
      have UPT := fun W h => UP t W h
      generalize uptoV l1 t = U at *
      refine wp_region_noPanic ?_
      refine wp_region_held_drew (S := fun w' => Below w4.heap.size w4 w') (by kernel_rfl) ?_ (fun hHeld => ?_)
      · exact b_dr (Below.refl _ _)
      refine wpAnyH_take (i := 0) (oi := ⟨some 77, _, _, _, _, _⟩) (v := .agg (bk x0)) rfl (by kernel_rfl) (by kernel_rfl) (by kernel_rfl) (fun _ _ _ h => h) (Or.inl ⟨by rfl, fun w' hSw => exec_load w.heap.size 0 x0 _ w' rfl rfl (RB4.below hSw) Try.underlying23 rfl (by kernel_rfl)⟩) (by assumption) ?_
      (try simp only [Act.put, List.setIfInBounds_toArray, List.set_cons_zero, List.set_cons_succ])
      refine wpAnyH_take (i := 1) (oi := ⟨some 78, _, _, _, _, _⟩) (v := ?_) rfl (by kernel_rfl) (by kernel_rfl) (by kernel_rfl) (fun _ _ _ h => h) (Or.inl ⟨by rfl, ?_⟩) (by assumption) ?_
      rotate_left
      · (intro w' hSw; clear hSw; go_simp; try (with_reducible rfl))
      (try simp only [Act.put, List.setIfInBounds_toArray, List.set_cons_zero, List.set_cons_succ])
      refine wpAnyH_take (i := 2) (oi := ⟨some 79, _, _, _, _, _⟩) (v := ?_) rfl (by kernel_rfl) (by kernel_rfl) (by kernel_rfl) (fun _ _ _ h => h) (Or.inl ⟨by rfl, ?_⟩) (by assumption) ?_
      rotate_left
      · (intro w' hSw; clear hSw; go_simp; try (with_reducible rfl))
      (try simp only [Act.put, List.setIfInBounds_toArray, List.set_cons_zero, List.set_cons_succ])
      refine wpAnyH_take (i := 3) (oi := ⟨some 80, _, _, _, _, _⟩) (v := ?_) rfl (by kernel_rfl) (by kernel_rfl) (by kernel_rfl) (fun _ _ _ h => h) (Or.inl ⟨by rfl, ?_⟩) (by assumption) ?_
      rotate_left
      · (intro w' hSw; have p0 := c_cl s2 hSw; clear hSw; go_simp; try (with_reducible rfl))
      (try simp only [Act.put, List.setIfInBounds_toArray, List.set_cons_zero, List.set_cons_succ])
      refine wpAnyH_ready (rs := [4]) (by kernel_rfl) (by simp) ?_
      refine AllReadyH.cons (o := ⟨some 81, _, _, _, _, _⟩) rfl (fun K hK => ?_) AllReadyH.nil
      go_simp
      (go_at_call 18; (with_reducible refine (UPT w4.drew (h4.below (b_dr (Below.refl _ _)))).mono ?_); rintro e w7 ⟨v7, rfl, ho7, hb7⟩; obtain ⟨A7, c7, rfl, hr7, _⟩ := ho7.read)
      go_wp2_with fail
      refine hK.out _ _ (b_cl hHeld (Nat.le_refl _) (by assumption)) (fun hHeld => ?_)
      clear hK K
      (try simp only [Act.put, List.setIfInBounds_toArray, List.set_cons_zero, List.set_cons_succ])
      refine wpAnyH_ready (rs := [5]) (by kernel_rfl) (by simp) ?_
      refine AllReadyH.cons (o := ⟨some 82, _, _, _, _, _⟩) rfl (fun K hK => ?_) AllReadyH.nil
      go_simp
      (go_at_call 10; (with_reducible refine (AY _ _ _ hr7).mono ?_); rintro e w8 ⟨A8, m8, c8, rfl, hm8, hr8, _, hb8⟩)
      go_wp2_with fail
      refine hK.out _ _ (b_cl hHeld (Nat.le_refl _) (by assumption)) (fun hHeld => ?_)
      clear hK K
      (try simp only [Act.put, List.setIfInBounds_toArray, List.set_cons_zero, List.set_cons_succ])
      refine wpAnyH_take (i := 6) (oi := ⟨some 76, _, _, _, _, _⟩) (v := ?_) rfl (by kernel_rfl) (by kernel_rfl) (by kernel_rfl) (fun _ _ _ h => h) (Or.inl ⟨by rfl, ?_⟩) (by assumption) ?_
      rotate_left
      · (intro w' hSw; clear hSw; go_simp; try (with_reducible rfl))
      (try simp only [Act.put, List.setIfInBounds_toArray, List.set_cons_zero, List.set_cons_succ])
      refine wpAnyH_take (i := 7) (oi := ⟨some 83, _, _, _, _, _⟩) (v := ?_) rfl (by kernel_rfl) (by kernel_rfl) (by kernel_rfl) (fun _ _ _ h => h) (Or.inl ⟨by rfl, ?_⟩) (by assumption) ?_
      rotate_left
      · (intro w' hSw; clear hSw; go_simp; try (with_reducible rfl))
      (try simp only [Act.put, List.setIfInBounds_toArray, List.set_cons_zero, List.set_cons_succ])
      refine wpAnyH_take (i := 8) (oi := ⟨some 84, _, _, _, _, _⟩) (v := ?_) rfl (by kernel_rfl) (by kernel_rfl) (by kernel_rfl) (fun _ _ _ h => h) (Or.inl ⟨by rfl, ?_⟩) (by assumption) ?_
      rotate_left
      · (intro w' hSw; clear hSw; go_simp; try (with_reducible rfl))
      (try simp only [Act.put, List.setIfInBounds_toArray, List.set_cons_zero, List.set_cons_succ])
      refine wpAnyH_take (i := 9) (oi := ⟨some 9, _, _, _, _, _⟩) (v := ?_) rfl (by kernel_rfl) (by kernel_rfl) (by kernel_rfl) (fun _ _ _ h => h) (Or.inl ⟨by rfl, ?_⟩) (by assumption) ?_
      rotate_left
      · (intro w' hSw; clear hSw; go_simp; try (with_reducible rfl))
      (try simp only [Act.put, List.setIfInBounds_toArray, List.set_cons_zero, List.set_cons_succ])
      refine wpAnyH_take (i := 10) (oi := ⟨some 10, _, _, _, _, _⟩) (v := ?_) rfl (by kernel_rfl) (by kernel_rfl) (by kernel_rfl) (fun _ _ _ h => h) (Or.inl ⟨by rfl, ?_⟩) (by assumption) ?_
      rotate_left
      · (intro w' hSw; clear hSw; go_simp; try (with_reducible rfl))
      (try simp only [Act.put, List.setIfInBounds_toArray, List.set_cons_zero, List.set_cons_succ])
      refine wpAnyH_done (by kernel_rfl) ?_ _
      refine NoPanic.normal ?_
      go_wp2_with fail
      go_meet
      exact ⟨rfl, A8, m8, c8, rfl, hm8, hr8, hHeld⟩
    case rest =>
    obtain ⟨rfl, A9, m9, c9, rfl, hm9, hr9, hbe⟩ := hcut
    rename World => w5
    have RB5 := RB4.below hbe
    have h5 := h4.below hbe
    have BX5 := BX4.below hbe
    have HB5 := Lib.hid ((HB4.out).trans (hbe.mono (by omega)))
    have hz5 := hbe.size
    clear hbe RB4 h4 BX4 HB4 s2
    have s2 := BX5.cell (k := 2) rfl
    have hfe40 : fe ≤ 1000000000 := hfe1
    have hw1 : IntKind.i64.wrap (t - 1) = t - 1 := by
      simp [IntKind.wrap, IntKind.bits, IntKind.signed]
      omega
    have HR9 := Lib.hid hr9
    have HM9 := Lib.hid hm9
    clear hr9 hm9
    go_upto_region 12 with fail
    (try go_frame)
    go_cut [11, 12] (fun u9 u10 wx => u10 = .int .i64 0 ∧ ∃ (A9 : Option Addr) (m9 c9 : Nat), u9 = .slice A9 m9 c9 ∧ Z.length = m9 ∧ RdF wx A9 Z ∧ Below w5.heap.size w5 wx)
    case first =>
      have UY := UL (t - 1)
      have AY := fun A c W h => AU A c (uptoV l1 (t - 1)) W h (by omega)
      rw [hZ] at AY
      dsimp only at AY
      have UPT := fun W h => UP (t - 1) W h
      generalize uptoV l1 (t - 1) = U at *
      refine wp_region_noPanic ?_
      refine wp_region_held_drew (S := fun w' => Below w5.heap.size w5 w') (by kernel_rfl) ?_ (fun hHeld => ?_)
      · exact b_dr (Below.refl _ _)
      refine wpAnyH_take (i := 0) (oi := ⟨some 86, _, _, _, _, _⟩) (v := .agg (bk x0)) rfl (by kernel_rfl) (by kernel_rfl) (by kernel_rfl) (fun _ _ _ h => h) (Or.inl ⟨by rfl, fun w' hSw => exec_load w.heap.size 0 x0 _ w' rfl rfl (RB5.below hSw) Try.underlying23 rfl (by kernel_rfl)⟩) (by assumption) ?_
      (try simp only [Act.put, List.setIfInBounds_toArray, List.set_cons_zero, List.set_cons_succ])
      refine wpAnyH_take (i := 1) (oi := ⟨some 87, _, _, _, _, _⟩) (v := ?_) rfl (by kernel_rfl) (by kernel_rfl) (by kernel_rfl) (fun _ _ _ h => h) (Or.inl ⟨by rfl, ?_⟩) (by assumption) ?_
      rotate_left
      · (intro w' hSw; clear hSw; go_simp; try (with_reducible rfl))
      (try simp only [Act.put, List.setIfInBounds_toArray, List.set_cons_zero, List.set_cons_succ])
      refine wpAnyH_take (i := 2) (oi := ⟨some 88, _, _, _, _, _⟩) (v := ?_) rfl (by kernel_rfl) (by kernel_rfl) (by kernel_rfl) (fun _ _ _ h => h) (Or.inl ⟨by rfl, ?_⟩) (by assumption) ?_
      rotate_left
      · (intro w' hSw; clear hSw; go_simp; try (with_reducible rfl))
      (try simp only [Act.put, List.setIfInBounds_toArray, List.set_cons_zero, List.set_cons_succ])
      refine wpAnyH_take (i := 3) (oi := ⟨some 89, _, _, _, _, _⟩) (v := ?_) rfl (by kernel_rfl) (by kernel_rfl) (by kernel_rfl) (fun _ _ _ h => h) (Or.inl ⟨by rfl, ?_⟩) (by assumption) ?_
      rotate_left
      · (intro w' hSw; have p0 := c_cl s2 hSw; clear hSw; go_simp; try (with_reducible rfl))
      (try simp only [Act.put, List.setIfInBounds_toArray, List.set_cons_zero, List.set_cons_succ])
      refine wpAnyH_take (i := 4) (oi := ⟨some 90, _, _, _, _, _⟩) (v := ?_) rfl (by kernel_rfl) (by kernel_rfl) (by kernel_rfl) (fun _ _ _ h => h) (Or.inl ⟨by rfl, ?_⟩) (by assumption) ?_
      rotate_left
      · (intro w' hSw; have hwr := hw1; clear hSw; go_simp; try (with_reducible rfl))
      (try simp only [Act.put, List.setIfInBounds_toArray, List.set_cons_zero, List.set_cons_succ])
      refine wpAnyH_ready (rs := [5]) (by kernel_rfl) (by simp) ?_
      refine AllReadyH.cons (o := ⟨some 91, _, _, _, _, _⟩) rfl (fun K hK => ?_) AllReadyH.nil
      go_simp
      (go_at_call 18; (with_reducible refine (UPT w5.drew (h5.below (b_dr (Below.refl _ _)))).mono ?_); rintro e w7 ⟨v7, rfl, ho7, hb7⟩; obtain ⟨A7, c7, rfl, hr7, _⟩ := ho7.read)
      go_wp2_with fail
      refine hK.out _ _ (b_cl hHeld (Nat.le_refl _) (by assumption)) (fun hHeld => ?_)
      clear hK K
      (try simp only [Act.put, List.setIfInBounds_toArray, List.set_cons_zero, List.set_cons_succ])
      refine wpAnyH_ready (rs := [6]) (by kernel_rfl) (by simp) ?_
      refine AllReadyH.cons (o := ⟨some 92, _, _, _, _, _⟩) rfl (fun K hK => ?_) AllReadyH.nil
      go_simp
      (go_at_call 10; (with_reducible refine (AY _ _ _ hr7).mono ?_); rintro e w8 ⟨A8, m8, c8, rfl, hm8, hr8, _, hb8⟩)
      go_wp2_with fail
      refine hK.out _ _ (b_cl hHeld (Nat.le_refl _) (by assumption)) (fun hHeld => ?_)
      clear hK K
      (try simp only [Act.put, List.setIfInBounds_toArray, List.set_cons_zero, List.set_cons_succ])
      refine wpAnyH_take (i := 7) (oi := ⟨some 85, _, _, _, _, _⟩) (v := ?_) rfl (by kernel_rfl) (by kernel_rfl) (by kernel_rfl) (fun _ _ _ h => h) (Or.inl ⟨by rfl, ?_⟩) (by assumption) ?_
      rotate_left
      · (intro w' hSw; clear hSw; go_simp; try (with_reducible rfl))
      (try simp only [Act.put, List.setIfInBounds_toArray, List.set_cons_zero, List.set_cons_succ])
      refine wpAnyH_take (i := 8) (oi := ⟨some 93, _, _, _, _, _⟩) (v := ?_) rfl (by kernel_rfl) (by kernel_rfl) (by kernel_rfl) (fun _ _ _ h => h) (Or.inl ⟨by rfl, ?_⟩) (by assumption) ?_
      rotate_left
      · (intro w' hSw; clear hSw; go_simp; try (with_reducible rfl))
      (try simp only [Act.put, List.setIfInBounds_toArray, List.set_cons_zero, List.set_cons_succ])
      refine wpAnyH_take (i := 9) (oi := ⟨some 94, _, _, _, _, _⟩) (v := ?_) rfl (by kernel_rfl) (by kernel_rfl) (by kernel_rfl) (fun _ _ _ h => h) (Or.inl ⟨by rfl, ?_⟩) (by assumption) ?_
      rotate_left
      · (intro w' hSw; clear hSw; go_simp; try (with_reducible rfl))
      (try simp only [Act.put, List.setIfInBounds_toArray, List.set_cons_zero, List.set_cons_succ])
      refine wpAnyH_take (i := 10) (oi := ⟨some 11, _, _, _, _, _⟩) (v := ?_) rfl (by kernel_rfl) (by kernel_rfl) (by kernel_rfl) (fun _ _ _ h => h) (Or.inl ⟨by rfl, ?_⟩) (by assumption) ?_
      rotate_left
      · (intro w' hSw; clear hSw; go_simp; try (with_reducible rfl))
      (try simp only [Act.put, List.setIfInBounds_toArray, List.set_cons_zero, List.set_cons_succ])
      refine wpAnyH_take (i := 11) (oi := ⟨some 12, _, _, _, _, _⟩) (v := ?_) rfl (by kernel_rfl) (by kernel_rfl) (by kernel_rfl) (fun _ _ _ h => h) (Or.inl ⟨by rfl, ?_⟩) (by assumption) ?_
      rotate_left
      · (intro w' hSw; clear hSw; go_simp; try (with_reducible rfl))
      (try simp only [Act.put, List.setIfInBounds_toArray, List.set_cons_zero, List.set_cons_succ])
      refine wpAnyH_done (by kernel_rfl) ?_ _
      refine NoPanic.normal ?_
      go_wp2_with fail
      go_meet
      exact ⟨rfl, A8, m8, c8, rfl, hm8, hr8, hHeld⟩
    case rest =>
    obtain ⟨rfl, A10, m10, c10, rfl, hm10, hr10, hbe⟩ := hcut
    rename World => w6
    have BX6 := BX5.below hbe
    have HR9' := Lib.hid (HR9.out.below hbe)
    have HB6 := Lib.hid ((HB5.out).trans (hbe.mono (by omega)))
    have hz6 := hbe.size
    have HR10 := Lib.hid hr10
    have HM10 := Lib.hid hm10
    have hm9l : m9 ≤ 10 := by have := HM9.out; omega
    have hm10l : m10 ≤ 10 := by have := HM10.out; omega
    have hl6 := BX6.lt
    have HTY := Lib.hid (anyT_all HM9.out hYm)
    have HCZ := Lib.hid (anyC_none HM10.out hZm)
    clear hbe RB5 h5 BX5 HB5 s2 hr10 hm10 HR9 hY hZ hYm hZm UP AU UL
    go_wp2
    go_loopw [13, 97] (fun v i wr => ∃ (j : Nat) (bq : Bool), j ≤ m9 ∧ i = .int .i64 (j : Nat) ∧ v = .bool bq ∧ Hid (anyT Y (c, f, t) j = bq) ∧ Hid (Below w6.heap.size w6 wr)) (fun _ i _ => m9 - (intOf i).toNat)
    case atStart => exact ⟨0, false, Nat.zero_le _, rfl, rfl, Lib.hid rfl, Lib.hid (Below.refl _ _)⟩
    case round =>
      obtain ⟨j, bq, hj, rfl, rfl, HA, HBJ⟩ := hrel
      obtain ⟨w7, rfl⟩ : ∃ w7 : World, w7 = wr := ⟨_, rfl⟩
      have BX7 := BX6.below HBJ.out
      have hz7 := HBJ.out.size
      by_cases hjl : j < m9
      case pos =>
        have hj' : j < Y.length := by rw [HM9.out]; exact hjl
        obtain ⟨b2, off2, c', f', t', rfl, hbb2, hd0, hd1, hd2, hs2⟩ := HR9'.out.at_ hj'
        rw [← HBJ.out.cell (p := ⟨b2, _, none⟩) hbb2] at hd0 hd1 hd2
        have hb27 : b2 < w7.heap.size := by omega
        have HMR := Lib.hid (anyT_more (r := (c, f, t)) hj' hs2.out)
        have s0 := BX7.cell (k := 0) rfl
        have s1 := BX7.cell (k := 1) rfl
        have s2 := BX7.cell (k := 2) rfl
        have HBN := Lib.hid (b_al HBJ.out (Nat.le_refl _) (.cells #[.int .i64 c', .int .i64 f', .int .i64 t'] 40))
        have hs7 : w2.heap.size < w7.heap.size := by omega
        clear hs2
        cases bq with
        | true =>
          have HF : Hid (anyT Y (c, f, t) (j + 1) = true) := Lib.hid (by rw [HMR.out, HA.out]; rfl)
          clear HMR
          go_wp2_with go_skip
          go_roundw
          case rel => exact ⟨j + 1, true, by omega, by go_num, by first | rfl | simp, HF, HBN⟩
          case measure => simp [intOf]; omega
        | false =>
          by_cases hcc : c' = c
          case neg =>
            have e1 : (c' == c) = false := by simpa using hcc
            have HF : Hid (anyT Y (c, f, t) (j + 1) = false) := Lib.hid (by rw [HMR.out, HA.out]; simp [hcc])
            clear HMR hcc
            go_wp2_with go_skip
            go_roundw
            case rel => exact ⟨j + 1, false, by omega, by go_num, by first | rfl | simp, HF, HBN⟩
            case measure => simp [intOf]; omega
          obtain rfl : c = c' := hcc.symm
          by_cases hff : f' = f
          case neg =>
            have e1 : (f' == f) = false := by simpa using hff
            have HF : Hid (anyT Y (c, f, t) (j + 1) = false) := Lib.hid (by rw [HMR.out, HA.out]; simp [hff])
            clear HMR hff
            go_wp2_with go_skip
            go_roundw
            case rel => exact ⟨j + 1, false, by omega, by go_num, by first | rfl | simp, HF, HBN⟩
            case measure => simp [intOf]; omega
          obtain rfl : f = f' := hff.symm
          by_cases htt : t' = t
          case neg =>
            have e1 : (t' == t) = false := by simpa using htt
            have HF : Hid (anyT Y (c, f, t) (j + 1) = false) := Lib.hid (by rw [HMR.out, HA.out]; simp [htt])
            clear HMR htt
            go_wp2_with go_skip
            go_roundw
            case rel => exact ⟨j + 1, false, by omega, by go_num, by first | rfl | simp, HF, HBN⟩
            case measure => simp [intOf]; omega
          obtain rfl : t = t' := htt.symm
          have HF : Hid (anyT Y (c, f, t) (j + 1) = true) := Lib.hid (by rw [HMR.out, HA.out]; simp)
          clear HMR hcc hff htt
          go_wp2_with go_skip
          go_roundw
          case rel => exact ⟨j + 1, true, by omega, by go_num, by first | rfl | simp, HF, HBN⟩
          case measure => simp [intOf]; omega
      case neg =>
      obtain rfl : j = m9 := by omega
      obtain rfl : bq = true := by rw [← HA.out]; exact HTY.out
      have HR11 := Lib.hid (HR10.out.below HBJ.out)
      have HB7 := Lib.hid ((HB6.out).trans (HBJ.out.mono (by omega)))
      clear HA HBJ BX6 HTY HR9'
      go_wp2
      go_loopw [14, 110] (fun v i wr => ∃ (j : Nat) (bq : Bool), j ≤ m10 ∧ i = .int .i64 (j : Nat) ∧ v = .bool bq ∧ Hid (anyC Z c j = bq) ∧ Hid (Below w7.heap.size w7 wr)) (fun _ i _ => m10 - (intOf i).toNat)
      case atStart => exact ⟨0, false, Nat.zero_le _, rfl, rfl, Lib.hid rfl, Lib.hid (Below.refl _ _)⟩
      case round =>
        obtain ⟨i, bq, hi, rfl, rfl, HA, HBJ⟩ := hrel
        obtain ⟨w8, rfl⟩ : ∃ w8 : World, w8 = wr := ⟨_, rfl⟩
        have BX8 := BX7.below HBJ.out
        have hz8 := HBJ.out.size
        by_cases hil : i < m10
        case pos =>
          have hi' : i < Z.length := by rw [HM10.out]; exact hil
          obtain ⟨b2, off2, c', f', t', rfl, hbb2, hd0, hd1, hd2, hs2⟩ := HR11.out.at_ hi'
          rw [← HBJ.out.cell (p := ⟨b2, _, none⟩) hbb2] at hd0 hd1 hd2
          have hb27 : b2 < w8.heap.size := by omega
          have HMR := Lib.hid (anyC_more (c := c) hi' hs2.out)
          have s0 := BX8.cell (k := 0) rfl
          have HBN := Lib.hid (b_al HBJ.out (Nat.le_refl _) (.cells #[.int .i64 c', .int .i64 f', .int .i64 t'] 40))
          have hs8 : w2.heap.size < w8.heap.size := by omega
          clear hs2
          cases bq with
          | true =>
            have HF : Hid (anyC Z c (i + 1) = true) := Lib.hid (by rw [HMR.out, HA.out]; rfl)
            clear HMR
            go_wp2_with go_skip
            go_roundw
            case rel => exact ⟨i + 1, true, by omega, by go_num, by first | rfl | simp, HF, HBN⟩
            case measure => simp [intOf]; omega
          | false =>
            have HF : Hid (anyC Z c (i + 1) = (c' == c)) := Lib.hid (by rw [HMR.out, HA.out]; rfl)
            clear HMR
            go_wp2_with go_skip
            go_roundw
            case rel => exact ⟨i + 1, (c' == c), by omega, by go_num, by first | rfl | simp, HF, HBN⟩
            case measure => simp [intOf]; omega
        case neg =>
        obtain rfl : i = m10 := by omega
        obtain rfl : bq = false := by rw [← HA.out]; exact HCZ.out
        have HB8 := Lib.hid ((HB7.out).trans (HBJ.out.mono (by omega)))
        clear HA HBJ
        go_wp2_with go_skip
        go_roundw
        case rel => exact ⟨k + 1, by omega, by go_num, HB8⟩
        case measure => simp [intOf]; omega

set_option maxRecDepth 100000 in
theorem lifted (os : Os) (started : os.Started) (H : Type) (enc : TypeId × Value → H) :
    ReturnsInHanded {} Try.checked os 6 .any (Rows.dutyWitnessSpec.pre6 enc Try.prog Try.f6 Rows.dutyWitnessRow.domain false) (Rows.dutyWitnessSpec.post enc Try.prog Try.f6 false true false false) := by
  refine returnsInHanded_of_change (C := Try.checked) own started (by kernel_rfl) Try.func6
    (ChangeSpec.witness6 (enc := enc) (C := Try.checked) false ⟨#[], #[.agg #[.int .i64 0, .int .i64 0, .int .i64 0, .int .i64 0, .int .i64 0, .int .i64 0, .int .i64 0, .int .i64 0, .int .i64 0, .int .i64 0, .int .i64 0, .int .i64 0, .int .i64 0, .int .i64 0, .int .i64 0, .int .i64 0, .int .i64 0, .int .i64 0, .int .i64 0], .slice none 0 0], []⟩ 8 (by kernel_rfl) (by kernel_rfl) (by kernel_rfl) (by kernel_rfl)) ?_
  intro W base args ds gs before hval0 hW hcnd _
  have hval : ∀ (j : Nat) t v, Try.f6.params[j]? = some t → args[j]? = some v → Value.okWide Try.prog W .any base t v := hval0
  have hW' := hW
  obtain ⟨p, q, hA0, hV, rfl, hfz, hnd⟩ := hW
  have hA : DataW.TrodAll enc Try.prog W 0 (fun _ => true) true Try.f6.params.toList args.toList ds p := hA0
  rw [Try.params6] at hA hval
  obtain ⟨v0, vs0, d0, ds0, p0, q0, hargs, rfl, rfl, h0, r0⟩ := trodAll_cons hA
  obtain ⟨v1, vs1, d1, ds1, p1, q1, rfl, rfl, rfl, h1, r1⟩ := trodAll_cons r0
  obtain ⟨rfl, rfl, rfl⟩ := trodAll_nil r1
  obtain rfl : args = #[v0, v1] := by cases args; simp_all
  obtain ⟨rfl, rfl⟩ := trodVars_none hV
  have k0 := h0
  have lt0 : ∀ x ∈ p0, x.block < W.heap.size := by obtain ⟨m, hm⟩ := k0; exact DataW.trod_lt m _ _ _ hm
  obtain ⟨x0, rfl⟩ := open_book (hval 0 23 v0 rfl rfl) h0
  have k1 := h1
  have lt1 : ∀ x ∈ p1, x.block < W.heap.size := by obtain ⟨m, hm⟩ := k1; exact DataW.trod_lt m _ _ _ hm
  obtain ⟨A1, n1, c1, l1, rfl, rfl, rd1, zz1⟩ := open_recs (hval 1 24 v1 rfl rfl) h1
  clear hA0 hval0
  refine (walk W x0 A1 c1 l1 rd1 zz1).mono fun e W' ⟨he, bel⟩ => ?_
  subst he
  exact ⟨_, rfl, _, _, _, [], _, [], hW', trodAll_mk1 (shut_bool Try.underlying4 _), (trodAll_cons_mk (Below.trod laidOut (by kernel_rfl) (of_decide_eq_true (by kernel_rfl)) k0 bel lt0) (trodAll_cons_mk (Below.trod laidOut (by kernel_rfl) (of_decide_eq_true (by kernel_rfl)) k1 bel lt1) trodAll_mk0)), rfl, bel.frame _, fun h => by cases h⟩

theorem over : Rows.dutyWitnessRow.holds Try.pinned (OpenSpec.ofChange Rows.dutyWitnessSpec) :=
  OpenClaim.holds_of_wide 6 Try.f6 rfl rfl rfl rfl rfl rfl rfl ⟨rfl, rfl, rfl, rfl, rfl⟩ rfl rfl rfl rfl rfl (by kernel_rfl) Try.func6 (by kernel_rfl)
    (of_decide_eq_true (by kernel_rfl)) (by unfold Func.isWrapper; first | (rw [if_pos (by decide +kernel)]; kernel_rfl) | (rw [if_neg (by decide +kernel)]; exact ⟨rfl, rfl⟩))
    (fun os started H enc _ => lifted os started H enc)

theorem proved : Rows.DutyWitnessSaid := over
#print axioms proved
end Go.Proofs.Ytlbafgdbemhanaa.dutyWitness
