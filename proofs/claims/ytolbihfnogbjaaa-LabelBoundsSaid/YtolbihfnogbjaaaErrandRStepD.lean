/- What the document's Step says of a minute of driving. Conditions: the tasks can be read and may be, the spot is right. -/
import Derived.Test.YtolbihfnogbjaaaRows
import Derived.Test.YtolbihfnogbjaaaBase
import Derived.Test.YtolbihfnogbjaaaZ2
import Derived.Test.YtolbihfnogbjaaaZ3
import Derived.Test.YtolbihfnogbjaaaZ1
import Derived.Test.YtolbihfnogbjaaaZ7
import Derived.Test.YtolbihfnogbjaaaErrandSpot
import Derived.Test.YtolbihfnogbjaaaZ5
import Derived.Test.YtolbihfnogbjaaaZ8
import Derived.WalkKit
import Derived.WalkSpells
import Derived.WalkSmall
import Derived.Below
import Derived.Lib.Hide
import Derived.Outline
import Derived.Deep.DeepCutAuto
import Derived.OwnWalk
import Derived.BigQuiet
import Derived.Deep.QuietTactic
import Derived.Deep.LoopGhost
import Derived.WalkMore
import Derived.OrdersHeld
import Derived.Deep.RegionHeld3
namespace Go.Proofs.Ytolbihfnogbjaaa
open Go.RowKit

set_option linter.unusedVariables false in
set_option maxRecDepth 20000 in
set_option maxHeartbeats 2000000 in
theorem refstep_drive (A : Option Addr) (n c : Nat) (l : List Tk) (hn : l.length = n) (i x y m : Int) (w : World) (h : RdK w A l) (few : Few l) (hl : n ≤ 2001) (ok : ∀ t ∈ l, TkOk t) (fit : Fits l (i, x, y)) :
    Calls Try.prog 25 #[.slice A n c, .agg #[.int .i64 i, .int .i64 x, .int .i64 y], .int .i64 m, .int .i64 3] w fun e w' => e = .returned (.tuple #[.agg (sp3 (stepT l (i, x, y) 3)), .agg #[.bool (b0 l (i, x, y) 3), .bool (b1 l (i, x, y) 3), .bool (b2 l (i, x, y) m 3), .bool (b3 (i, x, y) 3)]]) ∧ Below w.heap.size w w' := by
  have fit0 := fit
  obtain ⟨i0, i1, fend, _⟩ := fit0
  simp only at i0 i1
  rw [hn] at i1
  obtain ⟨j, rfl⟩ : ∃ j : Nat, i = j := ⟨i.toNat, by omega⟩
  have HK := Lib.hid h
  refine id ?_
  ·
    have E1 : b1 l ((j : Int), x, y) 3 = false := by unfold b1; simp
    have E2 : b2 l ((j : Int), x, y) m 3 = false := by unfold b2; simp
    by_cases hj : j < n
    case pos =>
      obtain ⟨b, off, d, v, B, q, u, rfl, hbb, h0, h1, h2, hs⟩ := h.at_ (k := j) (by omega)
      obtain ⟨o, ho, hoq, hro⟩ := hs.out
      have e9 : tk l (j : Int) = (d, v, o) := ho
      have jlt : (j : Int) < (n : Int) := by omega
      have dl : decide ((j : Int) < (n : Int)) = true := decide_eq_true (by omega)
      have tok := ok _ (tk_mem (l := l) (i := (j : Int)) (by omega) (by omega))
      have ft := fit.2.2.2 (by simp only; omega)
      rw [e9] at tok ft
      simp only at ft
      obtain ⟨ft1, ft2, ft3, ft4, ft5, ft6⟩ := ft
      obtain ⟨tk1, tk2, tk3, tk4⟩ := tok
      simp only at tk1 tk2 tk3 tk4
      by_cases hd : x < d
      case pos =>
        have can : CanD l ((j : Int), x, y) := ⟨by simp only; omega, by simp only; rw [e9]; exact hd⟩
        have y0 := fits_undriven fit can
        simp only at y0
        subst y0
        have E0 : b0 l ((j : Int), x, 0) 3 = false := by unfold b0; exact decide_eq_false (fun c => c.2 can)
        have E3 : b3 ((j : Int), x, 0) 3 = false := by unfold b3; exact decide_eq_false (fun c => absurd c.1 (by simp))
        have NR0 := (go_near fit 3)
        unfold goT at NR0
        rw [if_pos ⟨rfl, can⟩] at NR0
        simp only at NR0
        have dd : decide (x < d) = true := decide_eq_true hd
        rw [E0, E1, E2, E3, go_drive can]
        have NR : Near l ((j : Int), x + 1, 0) := NR0
        have CP := fun W (h : RdK W (some ⟨b, off, none⟩) l) => refpast19_any (some ⟨b, off, none⟩) n c l hn (j : Int) (x + 1) (0) W h (by omega) ok NR
        obtain ⟨⟨i2, x2, y2⟩, hP⟩ : ∃ P, pastT l ((j : Int), x + 1, 0) = P := ⟨_, rfl⟩
        try simp only at ⊢
        rw [hP] at CP ⊢
        unfold sp3 at CP ⊢
        simp only at CP ⊢
        clear can NR0 ho hs e9 hoq hro fend ft5 ft6
        clear E0 E1 E2 E3 NR hP ok few fit h i0 i1 hn
        have S0 : Bx ((((w.alloc (.cells #[.int .i64 (j : Int), .int .i64 x, .int .i64 0] 28)).alloc (.cells #[.int .i64 0, .int .i64 0, .int .i64 0] 28)).alloc (.cells #[.bool false, .bool false, .bool false, .bool false] 70)).alloc (.cells #[.bool false, .bool false, .bool false, .bool false] 70)) (w.heap.size) 28 #[.int .i64 (j : Int), .int .i64 x, .int .i64 0] := (((Bx.new (W := w) _ _ rfl).alloc _).alloc _).alloc _
        have P0 : Bx ((((w.alloc (.cells #[.int .i64 (j : Int), .int .i64 x, .int .i64 0] 28)).alloc (.cells #[.int .i64 0, .int .i64 0, .int .i64 0] 28)).alloc (.cells #[.bool false, .bool false, .bool false, .bool false] 70)).alloc (.cells #[.bool false, .bool false, .bool false, .bool false] 70)) (w.heap.size + 1) 28 #[.int .i64 0, .int .i64 0, .int .i64 0] := ((Bx.new (W := w.alloc (.cells #[.int .i64 (j : Int), .int .i64 x, .int .i64 0] 28)) _ _ (by simp)).alloc _).alloc _
        have Q0 : Bx ((((w.alloc (.cells #[.int .i64 (j : Int), .int .i64 x, .int .i64 0] 28)).alloc (.cells #[.int .i64 0, .int .i64 0, .int .i64 0] 28)).alloc (.cells #[.bool false, .bool false, .bool false, .bool false] 70)).alloc (.cells #[.bool false, .bool false, .bool false, .bool false] 70)) (w.heap.size + 1 + 1) 70 #[.bool false, .bool false, .bool false, .bool false] := (Bx.new (W := (w.alloc (.cells #[.int .i64 (j : Int), .int .i64 x, .int .i64 0] 28)).alloc (.cells #[.int .i64 0, .int .i64 0, .int .i64 0] 28)) _ _ (by simp)).alloc _
        have X0 : Bx ((((w.alloc (.cells #[.int .i64 (j : Int), .int .i64 x, .int .i64 0] 28)).alloc (.cells #[.int .i64 0, .int .i64 0, .int .i64 0] 28)).alloc (.cells #[.bool false, .bool false, .bool false, .bool false] 70)).alloc (.cells #[.bool false, .bool false, .bool false, .bool false] 70)) (w.heap.size + 1 + 1 + 1) 70 #[.bool false, .bool false, .bool false, .bool false] := Bx.new (W := ((w.alloc (.cells #[.int .i64 (j : Int), .int .i64 x, .int .i64 0] 28)).alloc (.cells #[.int .i64 0, .int .i64 0, .int .i64 0] 28)).alloc (.cells #[.bool false, .bool false, .bool false, .bool false] 70)) _ _ (by simp)
        have B0 : Below w.heap.size w ((((w.alloc (.cells #[.int .i64 (j : Int), .int .i64 x, .int .i64 0] 28)).alloc (.cells #[.int .i64 0, .int .i64 0, .int .i64 0] 28)).alloc (.cells #[.bool false, .bool false, .bool false, .bool false] 70)).alloc (.cells #[.bool false, .bool false, .bool false, .bool false] 70)) := by (repeat (first | exact Below.refl _ _ | (refine b_st ?_ (by first | (simp; done) | (simp; omega))) | (refine b_al ?_ (Nat.le_refl _) _) | refine b_dn ?_ | refine b_dr ?_ | (refine b_cl ?_ (Nat.le_refl _) (by assumption))))
        have HS0 := Lib.hid S0
        have HP0 := Lib.hid P0
        have HQ0 := Lib.hid Q0
        have HX0 := Lib.hid X0
        have HB0 := Lib.hid B0
        clear S0 P0 Q0 X0 B0
        go_enter Try.func25, Try.ntmps25
        go_upto_region 6 with (refine wpList_store_fld (by rfl) 4 (.tmp 24) (.tmp 23) rfl (w.heap.size + 1 + 1 + 1) 3 (.bool false) rfl rfl rfl 70 #[.bool false, .bool false, .bool false, .bool false] HX0.out (show 3 < 4 by decide) (by kernel_rfl) (fun w3 u3 => ?_); have HX3 := Lib.hid u3.box; have HS3 := Lib.hid (u3.bx HS0.out (by omega)); have HP3 := Lib.hid (u3.bx HP0.out (by omega)); have HQ3 := Lib.hid (u3.bx HQ0.out (by omega)); have HB3 := Lib.hid (HB0.out.trans (u3.bel _ (by omega))); clear u3; have ls3 : w.heap.size + 1 + 1 + 1 < w3.heap.size := HX3.out.lt; have p0_3 := HS3.out.cell (k := 0) rfl; have p1_3 := HS3.out.cell (k := 1) rfl; have p2_3 := HS3.out.cell (k := 2) rfl)
        have t0_3 : w3.cell? ⟨b, off + j * 3, none⟩ = some (.int .i64 d) := (HB3.out.cell (p := ⟨b, _, none⟩) hbb).trans h0
        have t1_3 : w3.cell? ⟨b, off + j * 3 + 1, none⟩ = some (.int .i64 v) := (HB3.out.cell (p := ⟨b, _, none⟩) hbb).trans h1
        have t2_3 : w3.cell? ⟨b, off + j * 3 + 2, none⟩ = some (.slice B q u) := (HB3.out.cell (p := ⟨b, _, none⟩) hbb).trans h2
        have bb3 : b < w3.heap.size := Nat.lt_of_lt_of_le hbb HB3.out.size
        go_quiet (fail)
        have p1_4 : (w3.drewN nq).cell? ⟨w.heap.size, 1, none⟩ = some (.int .i64 x) := p1_3
        go_upto_region 14 with (refine wpList_store_fld (by rfl) 3 (.tmp 43) (.tmp 42) rfl (w.heap.size) 1 (.int .i64 (x + 1)) rfl rfl rfl 28 #[.int .i64 (j : Int), .int .i64 x, .int .i64 0] (HS3.out.drewN (n := nq)) (show 1 < 3 by decide) (by kernel_rfl) (fun w5 u5 => ?_); have HS5 := Lib.hid u5.box; have HX5 := Lib.hid (u5.bx (HX3.out.drewN (n := nq)) (by omega)); have HP5 := Lib.hid (u5.bx (HP3.out.drewN (n := nq)) (by omega)); have HQ5 := Lib.hid (u5.bx (HQ3.out.drewN (n := nq)) (by omega)); have HB5 := Lib.hid ((b_dn HB3.out).trans (u5.bel _ (Nat.le_refl _))); have ls5 : w.heap.size + 1 + 1 + 1 < w5.heap.size := HX5.out.lt; clear u5)
        have YS := Lib.hid (show Bx w5 (w.heap.size) 28 #[.int .i64 (j : Int), .int .i64 (x + 1), .int .i64 0] from HS5.out)
        have YX := Lib.hid (show Bx w5 (w.heap.size + 1 + 1 + 1) 70 #[.bool false, .bool false, .bool false, .bool false] from HX5.out)
        have HKW := Lib.hid (HK.out.below HB5.out)
        refine wp_region_noPanic ?_
        refine wp_region_held_drew (S := fun w' => Bx w' (w.heap.size) 28 #[.int .i64 (j : Int), .int .i64 (x + 1), .int .i64 0] ∧ Bx w' (w.heap.size + 1 + 1 + 1) 70 #[.bool false, .bool false, .bool false, .bool false]) (by kernel_rfl) ?_ (fun hHeld => ?_)
        · exact ⟨YS.out.drew, YX.out.drew⟩
        refine wpAnyH_take (i := 0) (oi := ⟨some 90, _, _, _, _, _⟩) (v := ?_) rfl (by kernel_rfl) (by kernel_rfl) (by kernel_rfl) (fun _ _ _ h => h) (Or.inl ⟨by rfl, ?_⟩) (by assumption) ?_
        rotate_left
        · (intro w' hSw; clear hSw; go_simp; try (with_reducible rfl))
        (try simp only [Act.put, List.setIfInBounds_toArray, List.set_cons_zero, List.set_cons_succ])
        refine wpAnyH_take (i := 1) (oi := ⟨some 91, _, _, _, _, _⟩) (v := .agg #[.int .i64 (j : Int), .int .i64 (x + 1), .int .i64 0]) rfl (by kernel_rfl) (by kernel_rfl) (by kernel_rfl) (fun _ _ _ h => h) (Or.inl ⟨by rfl, fun w' hSw => exec_load_box (w.heap.size) 28 #[.int .i64 (j : Int), .int .i64 (x + 1), .int .i64 0] _ w' rfl rfl hSw.1 Try.underlying28 rfl (by kernel_rfl)⟩) (by assumption) ?_
        (try simp only [Act.put, List.setIfInBounds_toArray, List.set_cons_zero, List.set_cons_succ])
        refine wpAnyH_take (i := 3) (oi := ⟨some 93, _, _, _, _, _⟩) (v := .agg #[.bool false, .bool false, .bool false, .bool false]) rfl (by kernel_rfl) (by kernel_rfl) (by kernel_rfl) (fun _ _ _ h => h) (Or.inl ⟨by rfl, fun w' hSw => exec_load_box (w.heap.size + 1 + 1 + 1) 70 #[.bool false, .bool false, .bool false, .bool false] _ w' rfl rfl hSw.2 Try.underlying70 rfl (by kernel_rfl)⟩) (by assumption) ?_
        (try simp only [Act.put, List.setIfInBounds_toArray, List.set_cons_zero, List.set_cons_succ])
        refine wpAnyH_ready (rs := [2]) (by kernel_rfl) (by simp) ?_
        refine AllReadyH.cons (o := ⟨some 92, _, _, _, _, _⟩) rfl (fun K hK => ?_) AllReadyH.nil
        go_simp
        (go_at_call 39; refine (CP _ (HKW.out.below (b_dr (Below.refl _ _)))).mono ?_; rintro e w7 ⟨rfl, hb7⟩)
        go_wp2_with fail
        refine hK.out _ _ ⟨hHeld.1.below hb7, hHeld.2.below hb7⟩ (fun hHeld => ?_)
        clear hK K
        (try simp only [Act.put, List.setIfInBounds_toArray, List.set_cons_zero, List.set_cons_succ])
        refine wpAnyH_ready (rs := [4]) (by kernel_rfl) (by simp) ?_
        refine AllReadyH.cons (o := ⟨none, _, _, _, _, _⟩) rfl (fun K hK => ?_) AllReadyH.nil
        refine wp_store_any 28 _ _ rfl (w.heap.size + 1) #[.int .i64 i2, .int .i64 x2, .int .i64 y2] rfl rfl 28 #[.int .i64 0, .int .i64 0, .int .i64 0] (HP5.out.drew.below hb7) (by kernel_rfl) rfl (one3 _ _ _) (fun w8 u => ?_)
        refine hK.out _ _ ⟨u.bx hHeld.1 (by omega), u.bx hHeld.2 (by omega)⟩ (fun hHeld => ?_)
        clear hK K
        (try simp only [Act.put])
        refine wpAnyH_ready (rs := [5]) (by kernel_rfl) (by simp) ?_
        refine AllReadyH.cons (o := ⟨none, _, _, _, _, _⟩) rfl (fun K hK => ?_) AllReadyH.nil
        refine wp_store_any 70 _ _ rfl (w.heap.size + 1 + 1) #[.bool false, .bool false, .bool false, .bool false] rfl rfl 70 #[.bool false, .bool false, .bool false, .bool false] (u.bx (HQ5.out.drew.below hb7) (by omega)) (by kernel_rfl) rfl (oneb _ _ _ _) (fun w9 u2 => ?_)
        refine hK.out _ _ ⟨u2.bx hHeld.1 (by omega), u2.bx hHeld.2 (by omega)⟩ (fun hHeld => ?_)
        clear hK K
        (try simp only [Act.put])
        refine wpAnyH_done (by kernel_rfl) ?_ _
        refine NoPanic.normal ?_
        go_wp2_with fail
        refine bodyPost_ret (results_boxes Try.results25 _ _ (w.heap.size + 1) (w.heap.size + 1 + 1) 28 70 #[.int .i64 i2, .int .i64 x2, .int .i64 y2] #[.bool false, .bool false, .bool false, .bool false] _ _ rfl (u2.bx u.box (by omega)) rfl u2.box Try.underlying28 rfl (by kernel_rfl) Try.underlying70 rfl (by kernel_rfl)) rfl ⟨rfl, ?_⟩
        have hbd := b_dr (b_dr HB5.out)
        exact ((b_cl (b_dr HB5.out) (Nat.le_refl _) hb7).trans (u.bel _ (by omega))).trans (u2.bel _ (by omega))
      case neg =>
        have nd : ¬ CanD l ((j : Int), x, y) := fun c => by have := c.2; rw [e9] at this; exact hd this
        have E0 : b0 l ((j : Int), x, y) 3 = true := by unfold b0; exact decide_eq_true ⟨rfl, nd⟩
        have dd : decide (x < d) = false := decide_eq_false hd
        by_cases hy : 0 < y
        · have E3 : b3 ((j : Int), x, y) 3 = true := by unfold b3; exact decide_eq_true ⟨hy, by decide⟩
          clear hd ho hs e9 hoq hro fend ft5 ft6
          rw [E0, E1, E2, E3, go_stay (s := ((j : Int), x, y)) (fun c => nd c.2) (fun c => absurd c.1 (by decide))]
          have NR : Near l ((j : Int), x, y) := fit.near
          have CP := fun W (h : RdK W (some ⟨b, off, none⟩) l) => refpast19_any (some ⟨b, off, none⟩) n c l hn (j : Int) (x) (y) W h (by omega) ok NR
          obtain ⟨⟨i2, x2, y2⟩, hP⟩ : ∃ P, pastT l ((j : Int), x, y) = P := ⟨_, rfl⟩
          try simp only at ⊢
          rw [hP] at CP ⊢
          unfold sp3 at CP ⊢
          simp only at CP ⊢
          clear nd
          clear E0 E1 E2 E3 NR hP ok few fit h i0 i1 hn
          have S0 : Bx ((((w.alloc (.cells #[.int .i64 (j : Int), .int .i64 x, .int .i64 y] 28)).alloc (.cells #[.int .i64 0, .int .i64 0, .int .i64 0] 28)).alloc (.cells #[.bool false, .bool false, .bool false, .bool false] 70)).alloc (.cells #[.bool false, .bool false, .bool false, .bool false] 70)) (w.heap.size) 28 #[.int .i64 (j : Int), .int .i64 x, .int .i64 y] := (((Bx.new (W := w) _ _ rfl).alloc _).alloc _).alloc _
          have P0 : Bx ((((w.alloc (.cells #[.int .i64 (j : Int), .int .i64 x, .int .i64 y] 28)).alloc (.cells #[.int .i64 0, .int .i64 0, .int .i64 0] 28)).alloc (.cells #[.bool false, .bool false, .bool false, .bool false] 70)).alloc (.cells #[.bool false, .bool false, .bool false, .bool false] 70)) (w.heap.size + 1) 28 #[.int .i64 0, .int .i64 0, .int .i64 0] := ((Bx.new (W := w.alloc (.cells #[.int .i64 (j : Int), .int .i64 x, .int .i64 y] 28)) _ _ (by simp)).alloc _).alloc _
          have Q0 : Bx ((((w.alloc (.cells #[.int .i64 (j : Int), .int .i64 x, .int .i64 y] 28)).alloc (.cells #[.int .i64 0, .int .i64 0, .int .i64 0] 28)).alloc (.cells #[.bool false, .bool false, .bool false, .bool false] 70)).alloc (.cells #[.bool false, .bool false, .bool false, .bool false] 70)) (w.heap.size + 1 + 1) 70 #[.bool false, .bool false, .bool false, .bool false] := (Bx.new (W := (w.alloc (.cells #[.int .i64 (j : Int), .int .i64 x, .int .i64 y] 28)).alloc (.cells #[.int .i64 0, .int .i64 0, .int .i64 0] 28)) _ _ (by simp)).alloc _
          have X0 : Bx ((((w.alloc (.cells #[.int .i64 (j : Int), .int .i64 x, .int .i64 y] 28)).alloc (.cells #[.int .i64 0, .int .i64 0, .int .i64 0] 28)).alloc (.cells #[.bool false, .bool false, .bool false, .bool false] 70)).alloc (.cells #[.bool false, .bool false, .bool false, .bool false] 70)) (w.heap.size + 1 + 1 + 1) 70 #[.bool false, .bool false, .bool false, .bool false] := Bx.new (W := ((w.alloc (.cells #[.int .i64 (j : Int), .int .i64 x, .int .i64 y] 28)).alloc (.cells #[.int .i64 0, .int .i64 0, .int .i64 0] 28)).alloc (.cells #[.bool false, .bool false, .bool false, .bool false] 70)) _ _ (by simp)
          have B0 : Below w.heap.size w ((((w.alloc (.cells #[.int .i64 (j : Int), .int .i64 x, .int .i64 y] 28)).alloc (.cells #[.int .i64 0, .int .i64 0, .int .i64 0] 28)).alloc (.cells #[.bool false, .bool false, .bool false, .bool false] 70)).alloc (.cells #[.bool false, .bool false, .bool false, .bool false] 70)) := by (repeat (first | exact Below.refl _ _ | (refine b_st ?_ (by first | (simp; done) | (simp; omega))) | (refine b_al ?_ (Nat.le_refl _) _) | refine b_dn ?_ | refine b_dr ?_ | (refine b_cl ?_ (Nat.le_refl _) (by assumption))))
          have HS0 := Lib.hid S0
          have HP0 := Lib.hid P0
          have HQ0 := Lib.hid Q0
          have HX0 := Lib.hid X0
          have HB0 := Lib.hid B0
          clear S0 P0 Q0 X0 B0
          go_enter Try.func25, Try.ntmps25
          go_upto_region 6 with (refine wpList_store_fld (by rfl) 4 (.tmp 24) (.tmp 23) rfl (w.heap.size + 1 + 1 + 1) 3 (.bool true) rfl rfl rfl 70 #[.bool false, .bool false, .bool false, .bool false] HX0.out (show 3 < 4 by decide) (by kernel_rfl) (fun w3 u3 => ?_); have HX3 := Lib.hid u3.box; have HS3 := Lib.hid (u3.bx HS0.out (by omega)); have HP3 := Lib.hid (u3.bx HP0.out (by omega)); have HQ3 := Lib.hid (u3.bx HQ0.out (by omega)); have HB3 := Lib.hid (HB0.out.trans (u3.bel _ (by omega))); clear u3; have ls3 : w.heap.size + 1 + 1 + 1 < w3.heap.size := HX3.out.lt; have p0_3 := HS3.out.cell (k := 0) rfl; have p1_3 := HS3.out.cell (k := 1) rfl; have p2_3 := HS3.out.cell (k := 2) rfl)
          have t0_3 : w3.cell? ⟨b, off + j * 3, none⟩ = some (.int .i64 d) := (HB3.out.cell (p := ⟨b, _, none⟩) hbb).trans h0
          have t1_3 : w3.cell? ⟨b, off + j * 3 + 1, none⟩ = some (.int .i64 v) := (HB3.out.cell (p := ⟨b, _, none⟩) hbb).trans h1
          have t2_3 : w3.cell? ⟨b, off + j * 3 + 2, none⟩ = some (.slice B q u) := (HB3.out.cell (p := ⟨b, _, none⟩) hbb).trans h2
          have bb3 : b < w3.heap.size := Nat.lt_of_lt_of_le hbb HB3.out.size
          go_quiet (fail)
          go_upto_region 14 with (refine wpList_store_fld (by rfl) 4 (.tmp 44) (.const (.bool true)) rfl (w.heap.size + 1 + 1 + 1) 0 (.bool true) rfl rfl rfl 70 #[.bool false, .bool false, .bool false, .bool true] (HX3.out.drewN (n := nq)) (show 0 < 4 by decide) (by kernel_rfl) (fun w5 u5 => ?_); have HX5 := Lib.hid u5.box; have HS5 := Lib.hid (u5.bx (HS3.out.drewN (n := nq)) (by omega)); have HP5 := Lib.hid (u5.bx (HP3.out.drewN (n := nq)) (by omega)); have HQ5 := Lib.hid (u5.bx (HQ3.out.drewN (n := nq)) (by omega)); have HB5 := Lib.hid ((b_dn HB3.out).trans (u5.bel _ (by omega))); clear u5; have ls5 : w.heap.size + 1 + 1 + 1 < w5.heap.size := HX5.out.lt; have p0_5 := HS5.out.cell (k := 0) rfl; have p1_5 := HS5.out.cell (k := 1) rfl; have p2_5 := HS5.out.cell (k := 2) rfl)
          have YS := Lib.hid (show Bx w5 (w.heap.size) 28 #[.int .i64 (j : Int), .int .i64 x, .int .i64 y] from HS5.out)
          have YX := Lib.hid (show Bx w5 (w.heap.size + 1 + 1 + 1) 70 #[.bool true, .bool false, .bool false, .bool true] from HX5.out)
          have HKW := Lib.hid (HK.out.below HB5.out)
          refine wp_region_noPanic ?_
          refine wp_region_held_drew (S := fun w' => Bx w' (w.heap.size) 28 #[.int .i64 (j : Int), .int .i64 x, .int .i64 y] ∧ Bx w' (w.heap.size + 1 + 1 + 1) 70 #[.bool true, .bool false, .bool false, .bool true]) (by kernel_rfl) ?_ (fun hHeld => ?_)
          · exact ⟨YS.out.drew, YX.out.drew⟩
          refine wpAnyH_take (i := 0) (oi := ⟨some 90, _, _, _, _, _⟩) (v := ?_) rfl (by kernel_rfl) (by kernel_rfl) (by kernel_rfl) (fun _ _ _ h => h) (Or.inl ⟨by rfl, ?_⟩) (by assumption) ?_
          rotate_left
          · (intro w' hSw; clear hSw; go_simp; try (with_reducible rfl))
          (try simp only [Act.put, List.setIfInBounds_toArray, List.set_cons_zero, List.set_cons_succ])
          refine wpAnyH_take (i := 1) (oi := ⟨some 91, _, _, _, _, _⟩) (v := .agg #[.int .i64 (j : Int), .int .i64 x, .int .i64 y]) rfl (by kernel_rfl) (by kernel_rfl) (by kernel_rfl) (fun _ _ _ h => h) (Or.inl ⟨by rfl, fun w' hSw => exec_load_box (w.heap.size) 28 #[.int .i64 (j : Int), .int .i64 x, .int .i64 y] _ w' rfl rfl hSw.1 Try.underlying28 rfl (by kernel_rfl)⟩) (by assumption) ?_
          (try simp only [Act.put, List.setIfInBounds_toArray, List.set_cons_zero, List.set_cons_succ])
          refine wpAnyH_take (i := 3) (oi := ⟨some 93, _, _, _, _, _⟩) (v := .agg #[.bool true, .bool false, .bool false, .bool true]) rfl (by kernel_rfl) (by kernel_rfl) (by kernel_rfl) (fun _ _ _ h => h) (Or.inl ⟨by rfl, fun w' hSw => exec_load_box (w.heap.size + 1 + 1 + 1) 70 #[.bool true, .bool false, .bool false, .bool true] _ w' rfl rfl hSw.2 Try.underlying70 rfl (by kernel_rfl)⟩) (by assumption) ?_
          (try simp only [Act.put, List.setIfInBounds_toArray, List.set_cons_zero, List.set_cons_succ])
          refine wpAnyH_ready (rs := [2]) (by kernel_rfl) (by simp) ?_
          refine AllReadyH.cons (o := ⟨some 92, _, _, _, _, _⟩) rfl (fun K hK => ?_) AllReadyH.nil
          go_simp
          (go_at_call 39; refine (CP _ (HKW.out.below (b_dr (Below.refl _ _)))).mono ?_; rintro e w7 ⟨rfl, hb7⟩)
          go_wp2_with fail
          refine hK.out _ _ ⟨hHeld.1.below hb7, hHeld.2.below hb7⟩ (fun hHeld => ?_)
          clear hK K
          (try simp only [Act.put, List.setIfInBounds_toArray, List.set_cons_zero, List.set_cons_succ])
          refine wpAnyH_ready (rs := [4]) (by kernel_rfl) (by simp) ?_
          refine AllReadyH.cons (o := ⟨none, _, _, _, _, _⟩) rfl (fun K hK => ?_) AllReadyH.nil
          refine wp_store_any 28 _ _ rfl (w.heap.size + 1) #[.int .i64 i2, .int .i64 x2, .int .i64 y2] rfl rfl 28 #[.int .i64 0, .int .i64 0, .int .i64 0] (HP5.out.drew.below hb7) (by kernel_rfl) rfl (one3 _ _ _) (fun w8 u => ?_)
          refine hK.out _ _ ⟨u.bx hHeld.1 (by omega), u.bx hHeld.2 (by omega)⟩ (fun hHeld => ?_)
          clear hK K
          (try simp only [Act.put])
          refine wpAnyH_ready (rs := [5]) (by kernel_rfl) (by simp) ?_
          refine AllReadyH.cons (o := ⟨none, _, _, _, _, _⟩) rfl (fun K hK => ?_) AllReadyH.nil
          refine wp_store_any 70 _ _ rfl (w.heap.size + 1 + 1) #[.bool true, .bool false, .bool false, .bool true] rfl rfl 70 #[.bool false, .bool false, .bool false, .bool false] (u.bx (HQ5.out.drew.below hb7) (by omega)) (by kernel_rfl) rfl (oneb _ _ _ _) (fun w9 u2 => ?_)
          refine hK.out _ _ ⟨u2.bx hHeld.1 (by omega), u2.bx hHeld.2 (by omega)⟩ (fun hHeld => ?_)
          clear hK K
          (try simp only [Act.put])
          refine wpAnyH_done (by kernel_rfl) ?_ _
          refine NoPanic.normal ?_
          go_wp2_with fail
          refine bodyPost_ret (results_boxes Try.results25 _ _ (w.heap.size + 1) (w.heap.size + 1 + 1) 28 70 #[.int .i64 i2, .int .i64 x2, .int .i64 y2] #[.bool true, .bool false, .bool false, .bool true] _ _ rfl (u2.bx u.box (by omega)) rfl u2.box Try.underlying28 rfl (by kernel_rfl) Try.underlying70 rfl (by kernel_rfl)) rfl ⟨rfl, ?_⟩
          have hbd := b_dr (b_dr HB5.out)
          exact ((b_cl (b_dr HB5.out) (Nat.le_refl _) hb7).trans (u.bel _ (by omega))).trans (u2.bel _ (by omega))
        · have E3 : b3 ((j : Int), x, y) 3 = false := by unfold b3; exact decide_eq_false (fun c => hy c.1)
          have hy' : y ≤ 0 := by omega
          clear hd ho hs e9 hoq hro fend ft5 ft6 hy
          rw [E0, E1, E2, E3, go_stay (s := ((j : Int), x, y)) (fun c => nd c.2) (fun c => absurd c.1 (by decide))]
          have NR : Near l ((j : Int), x, y) := fit.near
          have CP := fun W (h : RdK W (some ⟨b, off, none⟩) l) => refpast19_any (some ⟨b, off, none⟩) n c l hn (j : Int) (x) (y) W h (by omega) ok NR
          obtain ⟨⟨i2, x2, y2⟩, hP⟩ : ∃ P, pastT l ((j : Int), x, y) = P := ⟨_, rfl⟩
          try simp only at ⊢
          rw [hP] at CP ⊢
          unfold sp3 at CP ⊢
          simp only at CP ⊢
          clear nd
          clear E0 E1 E2 E3 NR hP ok few fit h i0 i1 hn
          have S0 : Bx ((((w.alloc (.cells #[.int .i64 (j : Int), .int .i64 x, .int .i64 y] 28)).alloc (.cells #[.int .i64 0, .int .i64 0, .int .i64 0] 28)).alloc (.cells #[.bool false, .bool false, .bool false, .bool false] 70)).alloc (.cells #[.bool false, .bool false, .bool false, .bool false] 70)) (w.heap.size) 28 #[.int .i64 (j : Int), .int .i64 x, .int .i64 y] := (((Bx.new (W := w) _ _ rfl).alloc _).alloc _).alloc _
          have P0 : Bx ((((w.alloc (.cells #[.int .i64 (j : Int), .int .i64 x, .int .i64 y] 28)).alloc (.cells #[.int .i64 0, .int .i64 0, .int .i64 0] 28)).alloc (.cells #[.bool false, .bool false, .bool false, .bool false] 70)).alloc (.cells #[.bool false, .bool false, .bool false, .bool false] 70)) (w.heap.size + 1) 28 #[.int .i64 0, .int .i64 0, .int .i64 0] := ((Bx.new (W := w.alloc (.cells #[.int .i64 (j : Int), .int .i64 x, .int .i64 y] 28)) _ _ (by simp)).alloc _).alloc _
          have Q0 : Bx ((((w.alloc (.cells #[.int .i64 (j : Int), .int .i64 x, .int .i64 y] 28)).alloc (.cells #[.int .i64 0, .int .i64 0, .int .i64 0] 28)).alloc (.cells #[.bool false, .bool false, .bool false, .bool false] 70)).alloc (.cells #[.bool false, .bool false, .bool false, .bool false] 70)) (w.heap.size + 1 + 1) 70 #[.bool false, .bool false, .bool false, .bool false] := (Bx.new (W := (w.alloc (.cells #[.int .i64 (j : Int), .int .i64 x, .int .i64 y] 28)).alloc (.cells #[.int .i64 0, .int .i64 0, .int .i64 0] 28)) _ _ (by simp)).alloc _
          have X0 : Bx ((((w.alloc (.cells #[.int .i64 (j : Int), .int .i64 x, .int .i64 y] 28)).alloc (.cells #[.int .i64 0, .int .i64 0, .int .i64 0] 28)).alloc (.cells #[.bool false, .bool false, .bool false, .bool false] 70)).alloc (.cells #[.bool false, .bool false, .bool false, .bool false] 70)) (w.heap.size + 1 + 1 + 1) 70 #[.bool false, .bool false, .bool false, .bool false] := Bx.new (W := ((w.alloc (.cells #[.int .i64 (j : Int), .int .i64 x, .int .i64 y] 28)).alloc (.cells #[.int .i64 0, .int .i64 0, .int .i64 0] 28)).alloc (.cells #[.bool false, .bool false, .bool false, .bool false] 70)) _ _ (by simp)
          have B0 : Below w.heap.size w ((((w.alloc (.cells #[.int .i64 (j : Int), .int .i64 x, .int .i64 y] 28)).alloc (.cells #[.int .i64 0, .int .i64 0, .int .i64 0] 28)).alloc (.cells #[.bool false, .bool false, .bool false, .bool false] 70)).alloc (.cells #[.bool false, .bool false, .bool false, .bool false] 70)) := by (repeat (first | exact Below.refl _ _ | (refine b_st ?_ (by first | (simp; done) | (simp; omega))) | (refine b_al ?_ (Nat.le_refl _) _) | refine b_dn ?_ | refine b_dr ?_ | (refine b_cl ?_ (Nat.le_refl _) (by assumption))))
          have HS0 := Lib.hid S0
          have HP0 := Lib.hid P0
          have HQ0 := Lib.hid Q0
          have HX0 := Lib.hid X0
          have HB0 := Lib.hid B0
          clear S0 P0 Q0 X0 B0
          go_enter Try.func25, Try.ntmps25
          go_upto_region 6 with (refine wpList_store_fld (by rfl) 4 (.tmp 24) (.tmp 23) rfl (w.heap.size + 1 + 1 + 1) 3 (.bool false) rfl rfl rfl 70 #[.bool false, .bool false, .bool false, .bool false] HX0.out (show 3 < 4 by decide) (by kernel_rfl) (fun w3 u3 => ?_); have HX3 := Lib.hid u3.box; have HS3 := Lib.hid (u3.bx HS0.out (by omega)); have HP3 := Lib.hid (u3.bx HP0.out (by omega)); have HQ3 := Lib.hid (u3.bx HQ0.out (by omega)); have HB3 := Lib.hid (HB0.out.trans (u3.bel _ (by omega))); clear u3; have ls3 : w.heap.size + 1 + 1 + 1 < w3.heap.size := HX3.out.lt; have p0_3 := HS3.out.cell (k := 0) rfl; have p1_3 := HS3.out.cell (k := 1) rfl; have p2_3 := HS3.out.cell (k := 2) rfl)
          have t0_3 : w3.cell? ⟨b, off + j * 3, none⟩ = some (.int .i64 d) := (HB3.out.cell (p := ⟨b, _, none⟩) hbb).trans h0
          have t1_3 : w3.cell? ⟨b, off + j * 3 + 1, none⟩ = some (.int .i64 v) := (HB3.out.cell (p := ⟨b, _, none⟩) hbb).trans h1
          have t2_3 : w3.cell? ⟨b, off + j * 3 + 2, none⟩ = some (.slice B q u) := (HB3.out.cell (p := ⟨b, _, none⟩) hbb).trans h2
          have bb3 : b < w3.heap.size := Nat.lt_of_lt_of_le hbb HB3.out.size
          go_quiet (fail)
          go_upto_region 14 with (refine wpList_store_fld (by rfl) 4 (.tmp 44) (.const (.bool true)) rfl (w.heap.size + 1 + 1 + 1) 0 (.bool true) rfl rfl rfl 70 #[.bool false, .bool false, .bool false, .bool false] (HX3.out.drewN (n := nq)) (show 0 < 4 by decide) (by kernel_rfl) (fun w5 u5 => ?_); have HX5 := Lib.hid u5.box; have HS5 := Lib.hid (u5.bx (HS3.out.drewN (n := nq)) (by omega)); have HP5 := Lib.hid (u5.bx (HP3.out.drewN (n := nq)) (by omega)); have HQ5 := Lib.hid (u5.bx (HQ3.out.drewN (n := nq)) (by omega)); have HB5 := Lib.hid ((b_dn HB3.out).trans (u5.bel _ (by omega))); clear u5; have ls5 : w.heap.size + 1 + 1 + 1 < w5.heap.size := HX5.out.lt; have p0_5 := HS5.out.cell (k := 0) rfl; have p1_5 := HS5.out.cell (k := 1) rfl; have p2_5 := HS5.out.cell (k := 2) rfl)
          have YS := Lib.hid (show Bx w5 (w.heap.size) 28 #[.int .i64 (j : Int), .int .i64 x, .int .i64 y] from HS5.out)
          have YX := Lib.hid (show Bx w5 (w.heap.size + 1 + 1 + 1) 70 #[.bool true, .bool false, .bool false, .bool false] from HX5.out)
          have HKW := Lib.hid (HK.out.below HB5.out)
          refine wp_region_noPanic ?_
          refine wp_region_held_drew (S := fun w' => Bx w' (w.heap.size) 28 #[.int .i64 (j : Int), .int .i64 x, .int .i64 y] ∧ Bx w' (w.heap.size + 1 + 1 + 1) 70 #[.bool true, .bool false, .bool false, .bool false]) (by kernel_rfl) ?_ (fun hHeld => ?_)
          · exact ⟨YS.out.drew, YX.out.drew⟩
          refine wpAnyH_take (i := 0) (oi := ⟨some 90, _, _, _, _, _⟩) (v := ?_) rfl (by kernel_rfl) (by kernel_rfl) (by kernel_rfl) (fun _ _ _ h => h) (Or.inl ⟨by rfl, ?_⟩) (by assumption) ?_
          rotate_left
          · (intro w' hSw; clear hSw; go_simp; try (with_reducible rfl))
          (try simp only [Act.put, List.setIfInBounds_toArray, List.set_cons_zero, List.set_cons_succ])
          refine wpAnyH_take (i := 1) (oi := ⟨some 91, _, _, _, _, _⟩) (v := .agg #[.int .i64 (j : Int), .int .i64 x, .int .i64 y]) rfl (by kernel_rfl) (by kernel_rfl) (by kernel_rfl) (fun _ _ _ h => h) (Or.inl ⟨by rfl, fun w' hSw => exec_load_box (w.heap.size) 28 #[.int .i64 (j : Int), .int .i64 x, .int .i64 y] _ w' rfl rfl hSw.1 Try.underlying28 rfl (by kernel_rfl)⟩) (by assumption) ?_
          (try simp only [Act.put, List.setIfInBounds_toArray, List.set_cons_zero, List.set_cons_succ])
          refine wpAnyH_take (i := 3) (oi := ⟨some 93, _, _, _, _, _⟩) (v := .agg #[.bool true, .bool false, .bool false, .bool false]) rfl (by kernel_rfl) (by kernel_rfl) (by kernel_rfl) (fun _ _ _ h => h) (Or.inl ⟨by rfl, fun w' hSw => exec_load_box (w.heap.size + 1 + 1 + 1) 70 #[.bool true, .bool false, .bool false, .bool false] _ w' rfl rfl hSw.2 Try.underlying70 rfl (by kernel_rfl)⟩) (by assumption) ?_
          (try simp only [Act.put, List.setIfInBounds_toArray, List.set_cons_zero, List.set_cons_succ])
          refine wpAnyH_ready (rs := [2]) (by kernel_rfl) (by simp) ?_
          refine AllReadyH.cons (o := ⟨some 92, _, _, _, _, _⟩) rfl (fun K hK => ?_) AllReadyH.nil
          go_simp
          (go_at_call 39; refine (CP _ (HKW.out.below (b_dr (Below.refl _ _)))).mono ?_; rintro e w7 ⟨rfl, hb7⟩)
          go_wp2_with fail
          refine hK.out _ _ ⟨hHeld.1.below hb7, hHeld.2.below hb7⟩ (fun hHeld => ?_)
          clear hK K
          (try simp only [Act.put, List.setIfInBounds_toArray, List.set_cons_zero, List.set_cons_succ])
          refine wpAnyH_ready (rs := [4]) (by kernel_rfl) (by simp) ?_
          refine AllReadyH.cons (o := ⟨none, _, _, _, _, _⟩) rfl (fun K hK => ?_) AllReadyH.nil
          refine wp_store_any 28 _ _ rfl (w.heap.size + 1) #[.int .i64 i2, .int .i64 x2, .int .i64 y2] rfl rfl 28 #[.int .i64 0, .int .i64 0, .int .i64 0] (HP5.out.drew.below hb7) (by kernel_rfl) rfl (one3 _ _ _) (fun w8 u => ?_)
          refine hK.out _ _ ⟨u.bx hHeld.1 (by omega), u.bx hHeld.2 (by omega)⟩ (fun hHeld => ?_)
          clear hK K
          (try simp only [Act.put])
          refine wpAnyH_ready (rs := [5]) (by kernel_rfl) (by simp) ?_
          refine AllReadyH.cons (o := ⟨none, _, _, _, _, _⟩) rfl (fun K hK => ?_) AllReadyH.nil
          refine wp_store_any 70 _ _ rfl (w.heap.size + 1 + 1) #[.bool true, .bool false, .bool false, .bool false] rfl rfl 70 #[.bool false, .bool false, .bool false, .bool false] (u.bx (HQ5.out.drew.below hb7) (by omega)) (by kernel_rfl) rfl (oneb _ _ _ _) (fun w9 u2 => ?_)
          refine hK.out _ _ ⟨u2.bx hHeld.1 (by omega), u2.bx hHeld.2 (by omega)⟩ (fun hHeld => ?_)
          clear hK K
          (try simp only [Act.put])
          refine wpAnyH_done (by kernel_rfl) ?_ _
          refine NoPanic.normal ?_
          go_wp2_with fail
          refine bodyPost_ret (results_boxes Try.results25 _ _ (w.heap.size + 1) (w.heap.size + 1 + 1) 28 70 #[.int .i64 i2, .int .i64 x2, .int .i64 y2] #[.bool true, .bool false, .bool false, .bool false] _ _ rfl (u2.bx u.box (by omega)) rfl u2.box Try.underlying28 rfl (by kernel_rfl) Try.underlying70 rfl (by kernel_rfl)) rfl ⟨rfl, ?_⟩
          have hbd := b_dr (b_dr HB5.out)
          exact ((b_cl (b_dr HB5.out) (Nat.le_refl _) hb7).trans (u.bel _ (by omega))).trans (u2.bel _ (by omega))
    case neg =>
      have nd : ¬ CanD l ((j : Int), x, y) := fun c => by have := c.1; simp only at this; omega
      obtain ⟨_, y0⟩ := fend (by simp only; omega)
      simp only at y0
      subst y0
      have E0 : b0 l ((j : Int), x, 0) 3 = true := by unfold b0; exact decide_eq_true ⟨rfl, nd⟩
      have E3 : b3 ((j : Int), x, 0) 3 = false := by unfold b3; exact decide_eq_false (fun c => absurd c.1 (by simp))
      have dl : decide ((j : Int) < (n : Int)) = false := decide_eq_false (by omega)
      clear fend
      rw [E0, E1, E2, E3, go_stay (s := ((j : Int), x, 0)) (fun c => nd c.2) (fun c => absurd c.1 (by decide))]
      have NR : Near l ((j : Int), x, 0) := fit.near
      have CP := fun W (h : RdK W A l) => refpast19_any A n c l hn (j : Int) (x) (0) W h (by omega) ok NR
      obtain ⟨⟨i2, x2, y2⟩, hP⟩ : ∃ P, pastT l ((j : Int), x, 0) = P := ⟨_, rfl⟩
      try simp only at ⊢
      rw [hP] at CP ⊢
      unfold sp3 at CP ⊢
      simp only at CP ⊢
      clear nd
      clear E0 E1 E2 E3 NR hP ok few fit h i0 i1 hn
      have S0 : Bx ((((w.alloc (.cells #[.int .i64 (j : Int), .int .i64 x, .int .i64 0] 28)).alloc (.cells #[.int .i64 0, .int .i64 0, .int .i64 0] 28)).alloc (.cells #[.bool false, .bool false, .bool false, .bool false] 70)).alloc (.cells #[.bool false, .bool false, .bool false, .bool false] 70)) (w.heap.size) 28 #[.int .i64 (j : Int), .int .i64 x, .int .i64 0] := (((Bx.new (W := w) _ _ rfl).alloc _).alloc _).alloc _
      have P0 : Bx ((((w.alloc (.cells #[.int .i64 (j : Int), .int .i64 x, .int .i64 0] 28)).alloc (.cells #[.int .i64 0, .int .i64 0, .int .i64 0] 28)).alloc (.cells #[.bool false, .bool false, .bool false, .bool false] 70)).alloc (.cells #[.bool false, .bool false, .bool false, .bool false] 70)) (w.heap.size + 1) 28 #[.int .i64 0, .int .i64 0, .int .i64 0] := ((Bx.new (W := w.alloc (.cells #[.int .i64 (j : Int), .int .i64 x, .int .i64 0] 28)) _ _ (by simp)).alloc _).alloc _
      have Q0 : Bx ((((w.alloc (.cells #[.int .i64 (j : Int), .int .i64 x, .int .i64 0] 28)).alloc (.cells #[.int .i64 0, .int .i64 0, .int .i64 0] 28)).alloc (.cells #[.bool false, .bool false, .bool false, .bool false] 70)).alloc (.cells #[.bool false, .bool false, .bool false, .bool false] 70)) (w.heap.size + 1 + 1) 70 #[.bool false, .bool false, .bool false, .bool false] := (Bx.new (W := (w.alloc (.cells #[.int .i64 (j : Int), .int .i64 x, .int .i64 0] 28)).alloc (.cells #[.int .i64 0, .int .i64 0, .int .i64 0] 28)) _ _ (by simp)).alloc _
      have X0 : Bx ((((w.alloc (.cells #[.int .i64 (j : Int), .int .i64 x, .int .i64 0] 28)).alloc (.cells #[.int .i64 0, .int .i64 0, .int .i64 0] 28)).alloc (.cells #[.bool false, .bool false, .bool false, .bool false] 70)).alloc (.cells #[.bool false, .bool false, .bool false, .bool false] 70)) (w.heap.size + 1 + 1 + 1) 70 #[.bool false, .bool false, .bool false, .bool false] := Bx.new (W := ((w.alloc (.cells #[.int .i64 (j : Int), .int .i64 x, .int .i64 0] 28)).alloc (.cells #[.int .i64 0, .int .i64 0, .int .i64 0] 28)).alloc (.cells #[.bool false, .bool false, .bool false, .bool false] 70)) _ _ (by simp)
      have B0 : Below w.heap.size w ((((w.alloc (.cells #[.int .i64 (j : Int), .int .i64 x, .int .i64 0] 28)).alloc (.cells #[.int .i64 0, .int .i64 0, .int .i64 0] 28)).alloc (.cells #[.bool false, .bool false, .bool false, .bool false] 70)).alloc (.cells #[.bool false, .bool false, .bool false, .bool false] 70)) := by (repeat (first | exact Below.refl _ _ | (refine b_st ?_ (by first | (simp; done) | (simp; omega))) | (refine b_al ?_ (Nat.le_refl _) _) | refine b_dn ?_ | refine b_dr ?_ | (refine b_cl ?_ (Nat.le_refl _) (by assumption))))
      have HS0 := Lib.hid S0
      have HP0 := Lib.hid P0
      have HQ0 := Lib.hid Q0
      have HX0 := Lib.hid X0
      have HB0 := Lib.hid B0
      clear S0 P0 Q0 X0 B0
      go_enter Try.func25, Try.ntmps25
      go_upto_region 6 with (refine wpList_store_fld (by rfl) 4 (.tmp 24) (.tmp 23) rfl (w.heap.size + 1 + 1 + 1) 3 (.bool false) rfl rfl rfl 70 #[.bool false, .bool false, .bool false, .bool false] HX0.out (show 3 < 4 by decide) (by kernel_rfl) (fun w3 u3 => ?_); have HX3 := Lib.hid u3.box; have HS3 := Lib.hid (u3.bx HS0.out (by omega)); have HP3 := Lib.hid (u3.bx HP0.out (by omega)); have HQ3 := Lib.hid (u3.bx HQ0.out (by omega)); have HB3 := Lib.hid (HB0.out.trans (u3.bel _ (by omega))); clear u3; have ls3 : w.heap.size + 1 + 1 + 1 < w3.heap.size := HX3.out.lt; have p0_3 := HS3.out.cell (k := 0) rfl; have p1_3 := HS3.out.cell (k := 1) rfl; have p2_3 := HS3.out.cell (k := 2) rfl)
      go_quiet (fail)
      go_upto_region 14 with (refine wpList_store_fld (by rfl) 4 (.tmp 44) (.const (.bool true)) rfl (w.heap.size + 1 + 1 + 1) 0 (.bool true) rfl rfl rfl 70 #[.bool false, .bool false, .bool false, .bool false] (HX3.out.drewN (n := nq)) (show 0 < 4 by decide) (by kernel_rfl) (fun w5 u5 => ?_); have HX5 := Lib.hid u5.box; have HS5 := Lib.hid (u5.bx (HS3.out.drewN (n := nq)) (by omega)); have HP5 := Lib.hid (u5.bx (HP3.out.drewN (n := nq)) (by omega)); have HQ5 := Lib.hid (u5.bx (HQ3.out.drewN (n := nq)) (by omega)); have HB5 := Lib.hid ((b_dn HB3.out).trans (u5.bel _ (by omega))); clear u5; have ls5 : w.heap.size + 1 + 1 + 1 < w5.heap.size := HX5.out.lt; have p0_5 := HS5.out.cell (k := 0) rfl; have p1_5 := HS5.out.cell (k := 1) rfl; have p2_5 := HS5.out.cell (k := 2) rfl)
      have YS := Lib.hid (show Bx w5 (w.heap.size) 28 #[.int .i64 (j : Int), .int .i64 x, .int .i64 0] from HS5.out)
      have YX := Lib.hid (show Bx w5 (w.heap.size + 1 + 1 + 1) 70 #[.bool true, .bool false, .bool false, .bool false] from HX5.out)
      have HKW := Lib.hid (HK.out.below HB5.out)
      refine wp_region_noPanic ?_
      refine wp_region_held_drew (S := fun w' => Bx w' (w.heap.size) 28 #[.int .i64 (j : Int), .int .i64 x, .int .i64 0] ∧ Bx w' (w.heap.size + 1 + 1 + 1) 70 #[.bool true, .bool false, .bool false, .bool false]) (by kernel_rfl) ?_ (fun hHeld => ?_)
      · exact ⟨YS.out.drew, YX.out.drew⟩
      refine wpAnyH_take (i := 0) (oi := ⟨some 90, _, _, _, _, _⟩) (v := ?_) rfl (by kernel_rfl) (by kernel_rfl) (by kernel_rfl) (fun _ _ _ h => h) (Or.inl ⟨by rfl, ?_⟩) (by assumption) ?_
      rotate_left
      · (intro w' hSw; clear hSw; go_simp; try (with_reducible rfl))
      (try simp only [Act.put, List.setIfInBounds_toArray, List.set_cons_zero, List.set_cons_succ])
      refine wpAnyH_take (i := 1) (oi := ⟨some 91, _, _, _, _, _⟩) (v := .agg #[.int .i64 (j : Int), .int .i64 x, .int .i64 0]) rfl (by kernel_rfl) (by kernel_rfl) (by kernel_rfl) (fun _ _ _ h => h) (Or.inl ⟨by rfl, fun w' hSw => exec_load_box (w.heap.size) 28 #[.int .i64 (j : Int), .int .i64 x, .int .i64 0] _ w' rfl rfl hSw.1 Try.underlying28 rfl (by kernel_rfl)⟩) (by assumption) ?_
      (try simp only [Act.put, List.setIfInBounds_toArray, List.set_cons_zero, List.set_cons_succ])
      refine wpAnyH_take (i := 3) (oi := ⟨some 93, _, _, _, _, _⟩) (v := .agg #[.bool true, .bool false, .bool false, .bool false]) rfl (by kernel_rfl) (by kernel_rfl) (by kernel_rfl) (fun _ _ _ h => h) (Or.inl ⟨by rfl, fun w' hSw => exec_load_box (w.heap.size + 1 + 1 + 1) 70 #[.bool true, .bool false, .bool false, .bool false] _ w' rfl rfl hSw.2 Try.underlying70 rfl (by kernel_rfl)⟩) (by assumption) ?_
      (try simp only [Act.put, List.setIfInBounds_toArray, List.set_cons_zero, List.set_cons_succ])
      refine wpAnyH_ready (rs := [2]) (by kernel_rfl) (by simp) ?_
      refine AllReadyH.cons (o := ⟨some 92, _, _, _, _, _⟩) rfl (fun K hK => ?_) AllReadyH.nil
      go_simp
      (go_at_call 39; refine (CP _ (HKW.out.below (b_dr (Below.refl _ _)))).mono ?_; rintro e w7 ⟨rfl, hb7⟩)
      go_wp2_with fail
      refine hK.out _ _ ⟨hHeld.1.below hb7, hHeld.2.below hb7⟩ (fun hHeld => ?_)
      clear hK K
      (try simp only [Act.put, List.setIfInBounds_toArray, List.set_cons_zero, List.set_cons_succ])
      refine wpAnyH_ready (rs := [4]) (by kernel_rfl) (by simp) ?_
      refine AllReadyH.cons (o := ⟨none, _, _, _, _, _⟩) rfl (fun K hK => ?_) AllReadyH.nil
      refine wp_store_any 28 _ _ rfl (w.heap.size + 1) #[.int .i64 i2, .int .i64 x2, .int .i64 y2] rfl rfl 28 #[.int .i64 0, .int .i64 0, .int .i64 0] (HP5.out.drew.below hb7) (by kernel_rfl) rfl (one3 _ _ _) (fun w8 u => ?_)
      refine hK.out _ _ ⟨u.bx hHeld.1 (by omega), u.bx hHeld.2 (by omega)⟩ (fun hHeld => ?_)
      clear hK K
      (try simp only [Act.put])
      refine wpAnyH_ready (rs := [5]) (by kernel_rfl) (by simp) ?_
      refine AllReadyH.cons (o := ⟨none, _, _, _, _, _⟩) rfl (fun K hK => ?_) AllReadyH.nil
      refine wp_store_any 70 _ _ rfl (w.heap.size + 1 + 1) #[.bool true, .bool false, .bool false, .bool false] rfl rfl 70 #[.bool false, .bool false, .bool false, .bool false] (u.bx (HQ5.out.drew.below hb7) (by omega)) (by kernel_rfl) rfl (oneb _ _ _ _) (fun w9 u2 => ?_)
      refine hK.out _ _ ⟨u2.bx hHeld.1 (by omega), u2.bx hHeld.2 (by omega)⟩ (fun hHeld => ?_)
      clear hK K
      (try simp only [Act.put])
      refine wpAnyH_done (by kernel_rfl) ?_ _
      refine NoPanic.normal ?_
      go_wp2_with fail
      refine bodyPost_ret (results_boxes Try.results25 _ _ (w.heap.size + 1) (w.heap.size + 1 + 1) 28 70 #[.int .i64 i2, .int .i64 x2, .int .i64 y2] #[.bool true, .bool false, .bool false, .bool false] _ _ rfl (u2.bx u.box (by omega)) rfl u2.box Try.underlying28 rfl (by kernel_rfl) Try.underlying70 rfl (by kernel_rfl)) rfl ⟨rfl, ?_⟩
      have hbd := b_dr (b_dr HB5.out)
      exact ((b_cl (b_dr HB5.out) (Nat.le_refl _) hb7).trans (u.bel _ (by omega))).trans (u2.bel _ (by omega))
end Go.Proofs.Ytolbihfnogbjaaa
