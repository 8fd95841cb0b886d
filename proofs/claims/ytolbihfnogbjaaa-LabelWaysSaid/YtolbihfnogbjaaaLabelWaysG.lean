/- The law LabelWays where all is right. Conditions: as the theorem says. -/
import Derived.Test.YtolbihfnogbjaaaRows
import Derived.Test.YtolbihfnogbjaaaBase
import Derived.Test.YtolbihfnogbjaaaZ2
import Derived.Test.YtolbihfnogbjaaaBookLim
import Derived.Test.YtolbihfnogbjaaaZ1
import Derived.Test.YtolbihfnogbjaaaZ4
import Derived.Test.YtolbihfnogbjaaaZ6
import Derived.Test.YtolbihfnogbjaaaZ3
import Derived.Test.YtolbihfnogbjaaaErrandChk
import Derived.Test.YtolbihfnogbjaaaZ7
import Derived.Test.YtolbihfnogbjaaaErrandSpot
import Derived.Test.YtolbihfnogbjaaaZ8
import Derived.Test.YtolbihfnogbjaaaZ9
import Derived.Test.YtolbihfnogbjaaaZ10
import Derived.Test.YtolbihfnogbjaaaLabelRPlay
import Derived.Test.YtolbihfnogbjaaaLabelRef
import Derived.Test.YtolbihfnogbjaaaBookMayR
import Derived.Test.YtolbihfnogbjaaaErrandFits
import Derived.Test.YtolbihfnogbjaaaErrandRStep
import Derived.WalkKit
import Derived.WalkSpells
import Derived.WalkSmall
import Derived.Below
import Derived.Lib.Hide
import Derived.BigQuiet
import Derived.OwnWalk
import Derived.Outline
import Derived.Maps.RangeWalk
import Derived.Deep.DeepCutAuto
import Derived.OrdersHeld
import Derived.Deep.RegionHeld3
namespace Go.Proofs.Ytolbihfnogbjaaa
open Go.RowKit

set_option linter.unusedVariables false

theorem kinds_cell : ∀ j : Nat, j < 4 → ∃ k, kinds4[j]? = some k ∧ (0 ≤ k ∧ k ≤ 3) ∧ (#[.int .i64 3, .int .i64 2, .int .i64 0, .int .i64 1] : Array Value)[j]? = some (.int .i64 k) := by
  intro j hj
  have : j = 0 ∨ j = 1 ∨ j = 2 ∨ j = 3 := by omega
  rcases this with rfl | rfl | rfl | rfl
  · exact ⟨3, rfl, by decide, rfl⟩
  · exact ⟨2, rfl, by decide, rfl⟩
  · exact ⟨0, rfl, by decide, rfl⟩
  · exact ⟨1, rfl, by decide, rfl⟩

theorem exec_neqf_lbR {o : Oper} {r : Operand → Value} {e f : Operand} {u : TypeId} (x y : Lb) (hv : Lbeq x y = true) (w : World) (ho : o.op = .binOp .neq 30 e f u) (hx : r e = .agg (lb x)) (hy : r f = .agg (lb y)) : (execOp r o).run Try.prog w = .ok (.value (.bool false)) w := by
  have := exec_neq_lbR x y w ho hx hy
  rw [hv] at this
  exact this

open Classical in
set_option maxRecDepth 100000 in
set_option maxHeartbeats 8000000 in
theorem ways_good (w : World) (x : Nat → Int) (A : Option Addr) (n c : Nat) (l : List Tk) (hn : l.length = n) (h : RdK w A l) (hcn : n ≤ c) (hz : A = none → c = 0) (a : Lb) (hi : In64 a) (hli : LightK l) (he : chk25 x l a = 0) :
    Calls Try.prog 3 #[.agg (bk x), .slice A n c, .agg (lb a)] w fun e w' => e = .returned (.bool true) ∧ Below w.heap.size w w' := by
  have XB : Bx ((w.alloc (.cells (bk x) 23)).alloc (.cells (lb a) 30)) (w.heap.size) 23 (bk x) := (Bx.new (W := w) _ _ (by simp)).alloc _
  have XL : Bx ((w.alloc (.cells (bk x) 23)).alloc (.cells (lb a) 30)) (w.heap.size + 1) 30 (lb a) := (Bx.new (W := (w.alloc (.cells (bk x) 23))) _ _ (by simp))
  have B0 : Below w.heap.size w ((w.alloc (.cells (bk x) 23)).alloc (.cells (lb a) 30)) := b_al (b_al (Below.refl _ _) (Nat.le_refl _) _) (Nat.le_refl _) _
  have HB0 := Lib.hid B0
  have HK := Lib.hid h
  have CL := fun W (h : RdK W A l) => light19_any A n c l hn W h
  rw [decide_eq_true hli] at CL
  have few := hli.few
  obtain ⟨hx, ck, hr⟩ := chk25_zero he
  obtain ⟨ok, hl⟩ := checkt_zero ck
  have C1 := fun W (h : RdK W A l) => ways25_ok x A n c l hn a W h few hcn hz hi.1 hi.2 he
  have C2 := fun W (h : RdK W A l) => refcheck25_any x A n c l hn a W h few
  have C3 := fun W (h : RdK W A l) => check25_any x A n c l hn a W h few hcn hz hi.1 hi.2
  rw [he] at C2 C3
  have HX := Lib.hid (show ∀ k W, (0 ≤ k ∧ k ≤ 3) → RdK W A l → Calls Try.prog 11 #[.agg (bk x), .slice A n c, .agg (lb a), .int .i64 k] W fun e w' => e = .returned (.tuple #[.agg (lb (stepV25 x l a k).1), .bool (stepV25 x l a k).2]) ∧ Below W.heap.size W w' from fun k W hk h => refstep25_any x A n c l hn a k W h few (by omega) ok hx hr hk)
  clear h hn hcn hz hi hli few he hx ck hr ok hl
  go_enter Try.func3, Try.ntmps3
  go_upto_region 11 with (first
    | go_skip
    | (go_at_call 6; (with_reducible refine (CL _ (HK.out.below HB0.out)).mono ?_); rintro e w1 ⟨rfl, hb1⟩; have HB1 := Lib.hid (b_cl HB0.out (Nat.le_refl _) hb1); have XB_1 := XB.below hb1; have XL_1 := XL.below hb1)
    | refine wpList_load_box (by rfl) 30 _ rfl (w.heap.size + 1) rfl 30 (lb a) _ XL_1 Try.underlying30 rfl (by kernel_rfl) ?_
    | (refine wpList_store_box rfl 33 _ _ rfl w1.heap.size (lb a) rfl rfl 33 (lb lz) (Bx.new (W := w1) 33 (lb lz) rfl) (by kernel_rfl) rfl (lb_one _) (fun w2 u2 => ?_); have hn2 := u2.box; have b2 := ((b_al (Below.refl w1.heap.size w1) (Nat.le_refl _) _).trans (u2.bel _ (Nat.le_refl _))); have HB2 := Lib.hid (b_cl HB1.out (Nat.le_refl _) b2); have XB_2 := XB_1.below b2; have XL_2 := XL_1.below b2; clear b2)
    | refine wpList_load_box (by rfl) 23 _ rfl (w.heap.size) rfl 23 (bk x) _ XB_2 Try.underlying23 rfl (by kernel_rfl) ?_
    | refine wpList_load_box (by rfl) 33 _ rfl (w1.heap.size) rfl 33 (lb a) _ hn2 Try.underlying33 rfl (by kernel_rfl) ?_
    | (go_at_call 8; (with_reducible refine (C1 _ (HK.out.below HB2.out)).mono ?_); rintro e w3 ⟨v, rfl, ho, hb3⟩; have HB3 := Lib.hid (b_cl HB2.out (Nat.le_refl _) hb3); have XB_3 := XB_2.below hb3; have XL_3 := XL_2.below hb3; have XO_3 := hn2.below hb3; obtain ⟨A4, c4, hv, r4, z4⟩ := ho.read; subst hv; have HR3 := Lib.hid r4; clear ho r4)
    | refine wpList_load_box (by rfl) 23 _ rfl (w.heap.size) rfl 23 (bk x) _ XB_3 Try.underlying23 rfl (by kernel_rfl) ?_
    | refine wpList_load_box (by rfl) 30 _ rfl (w.heap.size + 1) rfl 30 (lb a) _ XL_3 Try.underlying30 rfl (by kernel_rfl) ?_
    | (go_at_call 9; (with_reducible refine (C2 _ (HK.out.below HB3.out)).mono ?_); rintro e w4 ⟨rfl, hb4⟩; have HB4 := Lib.hid (b_cl HB3.out (Nat.le_refl _) hb4); have XB_4 := XB_3.below hb4; have XL_4 := XL_3.below hb4; have XO_4 := XO_3.below hb4; have HRb := Lib.hid (HR3.out.below hb4))
    | refine wpList_load_box (by rfl) 23 _ rfl (w.heap.size) rfl 23 (bk x) _ XB_4 Try.underlying23 rfl (by kernel_rfl) ?_
    | refine wpList_load_box (by rfl) 33 _ rfl (w1.heap.size) rfl 33 (lb a) _ XO_4 Try.underlying33 rfl (by kernel_rfl) ?_
    | (go_at_call 10; (with_reducible refine (C3 _ (HK.out.below HB4.out)).mono ?_); rintro e w5 ⟨rfl, hb5⟩; have HB5 := Lib.hid (b_cl HB4.out (Nat.le_refl _) hb5); have XB_5 := XB_4.below hb5; have XL_5 := XL_4.below hb5; have XO_5 := XO_4.below hb5; have HRc := Lib.hid (HRb.out.below hb5)))
  (try go_frame)
  obtain ⟨L, hL⟩ : ∃ L, waysL x l a = L := ⟨_, rfl⟩
  have HL := Lib.hid hL
  rw [hL] at HRc ⊢
  obtain ⟨m, hm⟩ : ∃ m, L.length = m := ⟨_, rfl⟩
  rw [hm]
  have HM := Lib.hid hm
  have hmb : m ≤ 4 := by rw [← hm, ← hL]; exact waysTo_len x l a 4
  clear hL hm
  go_wp2
  have XK := Bx.new (W := w5) 3 #[.int .i64 3, .int .i64 2, .int .i64 0, .int .i64 1] rfl
  have HRd := Lib.hid (HRc.out.below (b_al (Below.refl _ _) (Nat.le_refl _) (.cells #[.int .i64 3, .int .i64 2, .int .i64 0, .int .i64 1] 3)))
  have HBs := Lib.hid (b_al HB5.out (Nat.le_refl _) (.cells #[.int .i64 3, .int .i64 2, .int .i64 0, .int .i64 1] 3))
  have XBs := XB_5.alloc (.cells #[.int .i64 3, .int .i64 2, .int .i64 0, .int .i64 1] 3)
  have XLs := XL_5.alloc (.cells #[.int .i64 3, .int .i64 2, .int .i64 0, .int .i64 1] 3)
  generalize w5.alloc (.cells #[.int .i64 3, .int .i64 2, .int .i64 0, .int .i64 1] 3) = ws at *
  obtain ⟨G, hG⟩ : ∃ G, w5.heap.size = G := ⟨_, rfl⟩
  rw [hG] at XK ⊢
  go_loopw [11, 53] (fun q i wr => ∃ j : Nat, j ≤ 4 ∧ i = .int .i64 j ∧ q = .int .i64 ((waysTo x l a j).length : Nat) ∧ Hid (Below ws.heap.size ws wr)) (fun _ i _ => 4 - (intOf i).toNat)
  case atStart => exact ⟨0, Nat.zero_le _, rfl, rfl, Lib.hid (Below.refl _ _)⟩
  case round =>
    obtain ⟨j, hj, rfl, rfl, HR⟩ := hrel
    have XBr := XBs.below HR.out
    have XLr := XLs.below HR.out
    have XKr := XK.below HR.out
    have HBr := Lib.hid (b_cl HBs.out (Nat.le_refl _) HR.out)
    by_cases hlt : j < 4
    · have gj : (j : Int) < 4 := by omega
      obtain ⟨k, hk, hk4, hc⟩ := kinds_cell j hlt
      have kc : wr.cell? ⟨G, j, none⟩ = some (.int .i64 k) := XKr.cell hc
      have CS := fun W (h : RdK W A l) => HX.out k W hk4 h
      have hle := waysTo_len x l a j
      by_cases g : goes x l a k
      · rw [stepV25_yes g] at CS
        have HT := Lib.hid (waysTo_yes hk g)
        have hit := ways_hit hk g
        rw [HL.out] at hit
        obtain ⟨q, hq⟩ : ∃ q, (waysTo x l a j).length = q := ⟨_, rfl⟩
        rw [hq] at hit hle ⊢
        have HQ := Lib.hid hq
        generalize nextB x l a k = nb at CS HT hit
        have hqm : q < m := by rw [← HM.out]; exact (List.getElem?_eq_some_iff.1 hit).1
        have gq : ¬ (m : Int) ≤ (q : Int) := by omega
        obtain ⟨b4, o4, p, hA4, hb4, hcs, hp⟩ := (HRd.out.below HR.out).at_ (j := q) (by rw [HM.out]; exact hqm)
        have hpe : p = (k, nb) := by have := hp.out; rw [hit] at this; injection this with this; exact this.symm
        subst hpe hA4
        have hcs : wr.rangeAt b4 (o4 + q * 18) (nx (k, nb)).toList := hcs
        clear hk g hlt hit hq hc hp
        go_upto_region 16 with (first
          | go_skip
          | refine wpList_load_box (by rfl) 23 _ rfl (w.heap.size) rfl 23 (bk x) _ XBr Try.underlying23 rfl (by kernel_rfl) ?_
          | refine wpList_load_box (by rfl) 30 _ rfl (w.heap.size + 1) rfl 30 (lb a) _ XLr Try.underlying30 rfl (by kernel_rfl) ?_
          | (go_at_call 11; (with_reducible refine (CS _ (HK.out.below HBr.out)).mono ?_); rintro e w1 ⟨rfl, hb1⟩; have HB1 := Lib.hid (b_cl HBr.out (Nat.le_refl _) hb1); have XB_1 := XBr.below hb1; have XL_1 := XLr.below hb1; have HR1 := Lib.hid (b_cl HR.out (Nat.le_refl _) hb1); have hcs1 := rangeAt_below hcs hb1 hb4)
          | (refine wpList_store_box rfl 30 _ _ rfl w1.heap.size (lb nb) rfl rfl 30 (lb lz) (Bx.new (W := w1) 30 (lb lz) rfl) (by kernel_rfl) rfl (lb_one _) (fun w2 u2 => ?_); have hn2 := u2.box; have b2 := ((b_al (Below.refl w1.heap.size w1) (Nat.le_refl _) _).trans (u2.bel _ (Nat.le_refl _))); have HB2 := Lib.hid (b_cl HB1.out (Nat.le_refl _) b2); have XB_2 := XB_1.below b2; have XL_2 := XL_1.below b2; have HR2 := Lib.hid (b_cl HR1.out (Nat.le_refl _) b2); have hcs2 := rangeAt_below hcs1 b2 (Nat.lt_of_lt_of_le hb4 hb1.size); clear b2))
        (try go_frame)
        have k2 : w2.cell? ⟨b4, o4 + q * 18, none⟩ = some (.int .i64 k) := nx_kind hcs2
        have l2 := nx_label hcs2
        have hb5 : b4 < w2.heap.size := by have := hb1.size; have := hn2.lt; omega
        have eb : Lbeq nb nb = true := Lbeq_self nb
        have gd : decide ((m : Int) ≤ (q : Int)) = false := decide_eq_false (by omega)
        have gd2 : decide (m ≤ q) = false := decide_eq_false (by omega)
        have gk : (k != k) = false := by simp
        refine wp_region_noPanic ?_
        refine wp_region_held_drew (S := fun w' => Below w2.heap.size w2 w') (by kernel_rfl) ?_ (fun hHeld => ?_)
        · exact b_dr (Below.refl _ _)
        refine wpAnyH_take (i := 0) (oi := ⟨some 67, _, _, _, _, _⟩) (v := ?_) rfl (by kernel_rfl) (by kernel_rfl) (by kernel_rfl) (fun _ _ _ h => h) (Or.inl ⟨by rfl, ?_⟩) (by assumption) ?_
        rotate_left
        · (intro w' hSw; clear hSw; go_simp; try (with_reducible rfl))
        (try simp only [Act.put, List.setIfInBounds_toArray, List.set_cons_zero, List.set_cons_succ])
        refine wpAnyH_take (i := 1) (oi := ⟨some 68, _, _, _, _, _⟩) (v := ?_) rfl (by kernel_rfl) (by kernel_rfl) (by kernel_rfl) (fun _ _ _ h => h) (Or.inl ⟨by rfl, ?_⟩) (by assumption) ?_
        rotate_left
        · (intro w' hSw; clear hSw; go_simp; try (with_reducible rfl))
        (try simp only [Act.put, List.setIfInBounds_toArray, List.set_cons_zero, List.set_cons_succ])
        refine wpAnyH_take (i := 2) (oi := ⟨some 69, _, _, _, _, _⟩) (v := ?_) rfl (by kernel_rfl) (by kernel_rfl) (by kernel_rfl) (fun _ _ _ h => h) (Or.inl ⟨by rfl, ?_⟩) (by assumption) ?_
        rotate_left
        · (intro w' hSw; clear hSw; go_simp; try (with_reducible rfl))
        (try simp only [Act.put, List.setIfInBounds_toArray, List.set_cons_zero, List.set_cons_succ])
        refine wpAnyH_take (i := 3) (oi := ⟨some 70, _, _, _, _, _⟩) (v := ?_) rfl (by kernel_rfl) (by kernel_rfl) (by kernel_rfl) (fun _ _ _ h => h) (Or.inl ⟨by rfl, ?_⟩) (by assumption) ?_
        rotate_left
        · (intro w' hSw; clear hSw; go_simp; try (with_reducible rfl))
        (try simp only [Act.put, List.setIfInBounds_toArray, List.set_cons_zero, List.set_cons_succ])
        refine wpAnyH_take (i := 4) (oi := ⟨some 71, _, _, _, _, _⟩) (v := ?_) rfl (by kernel_rfl) (by kernel_rfl) (by kernel_rfl) (fun _ _ _ h => h) (Or.inl ⟨by rfl, ?_⟩) (by assumption) ?_
        rotate_left
        · (intro w' hSw; clear hSw; go_simp; try (with_reducible rfl))
        (try simp only [Act.put, List.setIfInBounds_toArray, List.set_cons_zero, List.set_cons_succ])
        refine wpAnyH_take (i := 5) (oi := ⟨some 72, _, _, _, _, _⟩) (v := ?_) rfl (by kernel_rfl) (by kernel_rfl) (by kernel_rfl) (fun _ _ _ h => h) (Or.inl ⟨by rfl, ?_⟩) (by assumption) ?_
        rotate_left
        · (intro w' hSw; clear hSw; go_simp; try (with_reducible rfl))
        (try simp only [Act.put, List.setIfInBounds_toArray, List.set_cons_zero, List.set_cons_succ])
        refine wpAnyH_take (i := 6) (oi := ⟨some 73, _, _, _, _, _⟩) (v := ?_) rfl (by kernel_rfl) (by kernel_rfl) (by kernel_rfl) (fun _ _ _ h => h) (Or.inl ⟨by rfl, ?_⟩) (by assumption) ?_
        rotate_left
        · (intro w' hSw; clear hSw; go_simp; try (with_reducible rfl))
        (try simp only [Act.put, List.setIfInBounds_toArray, List.set_cons_zero, List.set_cons_succ])
        refine wpAnyH_take (i := 7) (oi := ⟨some 74, _, _, _, _, _⟩) (v := ?_) rfl (by kernel_rfl) (by kernel_rfl) (by kernel_rfl) (fun _ _ _ h => h) (Or.inl ⟨by rfl, ?_⟩) (by assumption) ?_
        rotate_left
        · (intro w' hSw; clear hSw; go_simp; try (with_reducible rfl))
        (try simp only [Act.put, List.setIfInBounds_toArray, List.set_cons_zero, List.set_cons_succ])
        refine wpAnyH_take (i := 8) (oi := ⟨some 75, _, _, _, _, _⟩) (v := ?_) rfl (by kernel_rfl) (by kernel_rfl) (by kernel_rfl) (fun _ _ _ h => h) (Or.inl ⟨by rfl, ?_⟩) (by assumption) ?_
        rotate_left
        · (intro w' hSw; clear hSw; go_simp; try (with_reducible rfl))
        (try simp only [Act.put, List.setIfInBounds_toArray, List.set_cons_zero, List.set_cons_succ])
        refine wpAnyH_take (i := 9) (oi := ⟨some 76, _, _, _, _, _⟩) (v := ?_) rfl (by kernel_rfl) (by kernel_rfl) (by kernel_rfl) (fun _ _ _ h => h) (Or.inl ⟨by rfl, ?_⟩) (by assumption) ?_
        rotate_left
        · (intro w' hSw; have q2 : w'.cell? ⟨b4, o4 + q * 18, none⟩ = some (.int .i64 k) := (hSw.cell (p := ⟨b4, _, none⟩) hb5).trans k2; clear hSw; go_simp; try (with_reducible rfl))
        (try simp only [Act.put, List.setIfInBounds_toArray, List.set_cons_zero, List.set_cons_succ])
        refine wpAnyH_take (i := 10) (oi := ⟨some 77, _, _, _, _, _⟩) (v := ?_) rfl (by kernel_rfl) (by kernel_rfl) (by kernel_rfl) (fun _ _ _ h => h) (Or.inl ⟨by rfl, ?_⟩) (by assumption) ?_
        rotate_left
        · (intro w' hSw; clear hSw; go_simp; try (with_reducible rfl))
        (try simp only [Act.put, List.setIfInBounds_toArray, List.set_cons_zero, List.set_cons_succ])
        refine wpAnyH_take (i := 11) (oi := ⟨some 78, _, _, _, _, _⟩) (v := ?_) rfl (by kernel_rfl) (by kernel_rfl) (by kernel_rfl) (fun _ _ _ h => h) (Or.inl ⟨by rfl, ?_⟩) (by assumption) ?_
        rotate_left
        · (intro w' hSw; clear hSw; go_simp; try (with_reducible rfl))
        (try simp only [Act.put, List.setIfInBounds_toArray, List.set_cons_zero, List.set_cons_succ])
        refine wpAnyH_take (i := 12) (oi := ⟨some 79, _, _, _, _, _⟩) (v := ?_) rfl (by kernel_rfl) (by kernel_rfl) (by kernel_rfl) (fun _ _ _ h => h) (Or.inl ⟨by rfl, ?_⟩) (by assumption) ?_
        rotate_left
        · (intro w' hSw; clear hSw; go_simp; try (with_reducible rfl))
        (try simp only [Act.put, List.setIfInBounds_toArray, List.set_cons_zero, List.set_cons_succ])
        refine wpAnyH_take (i := 13) (oi := ⟨some 80, _, _, _, _, _⟩) (v := ?_) rfl (by kernel_rfl) (by kernel_rfl) (by kernel_rfl) (fun _ _ _ h => h) (Or.inl ⟨by rfl, ?_⟩) (by assumption) ?_
        rotate_left
        · (intro w' hSw; clear hSw; go_simp; try (with_reducible rfl))
        (try simp only [Act.put, List.setIfInBounds_toArray, List.set_cons_zero, List.set_cons_succ])
        refine wpAnyH_take (i := 14) (oi := ⟨some 81, _, _, _, _, _⟩) (v := ?_) rfl (by kernel_rfl) (by kernel_rfl) (by kernel_rfl) (fun _ _ _ h => h) (Or.inl ⟨by rfl, ?_⟩) (by assumption) ?_
        rotate_left
        · (intro w' hSw; clear hSw; go_simp; try (with_reducible rfl))
        (try simp only [Act.put, List.setIfInBounds_toArray, List.set_cons_zero, List.set_cons_succ])
        refine wpAnyH_take (i := 15) (oi := ⟨some 82, _, _, _, _, _⟩) (v := ?_) rfl (by kernel_rfl) (by kernel_rfl) (by kernel_rfl) (fun _ _ _ h => h) (Or.inl ⟨by rfl, ?_⟩) (by assumption) ?_
        rotate_left
        · (intro w' hSw; clear hSw; go_simp; try (with_reducible rfl))
        (try simp only [Act.put, List.setIfInBounds_toArray, List.set_cons_zero, List.set_cons_succ])
        refine wpAnyH_take (i := 16) (oi := ⟨some 83, _, _, _, _, _⟩) (v := ?_) rfl (by kernel_rfl) (by kernel_rfl) (by kernel_rfl) (fun _ _ _ h => h) (Or.inl ⟨by rfl, ?_⟩) (by assumption) ?_
        rotate_left
        · (intro w' hSw; clear hSw; go_simp; try (with_reducible rfl))
        (try simp only [Act.put, List.setIfInBounds_toArray, List.set_cons_zero, List.set_cons_succ])
        refine wpAnyH_take (i := 17) (oi := ⟨some 84, _, _, _, _, _⟩) (v := ?_) rfl (by kernel_rfl) (by kernel_rfl) (by kernel_rfl) (fun _ _ _ h => h) (Or.inl ⟨by rfl, ?_⟩) (by assumption) ?_
        rotate_left
        · (intro w' hSw; clear hSw; go_simp; try (with_reducible rfl))
        (try simp only [Act.put, List.setIfInBounds_toArray, List.set_cons_zero, List.set_cons_succ])
        refine wpAnyH_take (i := 18) (oi := ⟨some 85, _, _, _, _, _⟩) (v := .agg (lb nb)) rfl (by kernel_rfl) (by kernel_rfl) (by kernel_rfl) (fun _ _ _ h => h) (Or.inl ⟨by rfl, fun w' hSw => exec_load_mid (b4) (o4 + q * 18 + 1) (lb nb) _ w' rfl rfl (rangeAt_below l2 hSw hb5) Try.underlying33 rfl (by kernel_rfl)⟩) (by assumption) ?_
        (try simp only [Act.put, List.setIfInBounds_toArray, List.set_cons_zero, List.set_cons_succ])
        refine wpAnyH_take (i := 19) (oi := ⟨some 86, _, _, _, _, _⟩) (v := .agg (lb nb)) rfl (by kernel_rfl) (by kernel_rfl) (by kernel_rfl) (fun _ _ _ h => h) (Or.inl ⟨by rfl, fun w' hSw => exec_load_box (w1.heap.size) 30 (lb nb) _ w' rfl rfl (hn2.keep hSw hn2.lt) Try.underlying30 rfl (by kernel_rfl)⟩) (by assumption) ?_
        (try simp only [Act.put, List.setIfInBounds_toArray, List.set_cons_zero, List.set_cons_succ])
        refine wpAnyH_take (i := 20) (oi := ⟨some 87, _, _, _, _, _⟩) (v := .bool false) rfl (by kernel_rfl) (by kernel_rfl) (by kernel_rfl) (fun _ _ _ h => h) (Or.inl ⟨by rfl, fun w' hSw => exec_neqf_lbR nb nb eb w' rfl rfl rfl⟩) (by assumption) ?_
        (try simp only [Act.put, List.setIfInBounds_toArray, List.set_cons_zero, List.set_cons_succ])
        refine wpAnyH_take (i := 21) (oi := ⟨some 88, _, _, _, _, _⟩) (v := ?_) rfl (by kernel_rfl) (by kernel_rfl) (by kernel_rfl) (fun _ _ _ h => h) (Or.inl ⟨by rfl, ?_⟩) (by assumption) ?_
        rotate_left
        · (intro w' hSw; clear hSw; go_simp; try (with_reducible rfl))
        (try simp only [Act.put, List.setIfInBounds_toArray, List.set_cons_zero, List.set_cons_succ])
        refine wpAnyH_done (by kernel_rfl) ?_ _
        refine NoPanic.normal ?_
        have HR9 := Lib.hid (b_cl HR2.out (Nat.le_refl _) hHeld)
        clear hHeld
        go_wp2
        go_roundw
        case rel => exact ⟨j + 1, by omega, by go_num, by rw [HT.out, List.length_append, HQ.out]; simp, HR9⟩
        case measure => simp [intOf]; omega
      · rw [stepV25_no g] at CS
        have HT := Lib.hid (waysTo_no hk g)
        clear hk g hlt hc
        go_wp2_with (first
          | go_skip
          | refine wpList_load_box (by rfl) 23 _ rfl (w.heap.size) rfl 23 (bk x) _ XBr Try.underlying23 rfl (by kernel_rfl) ?_
          | refine wpList_load_box (by rfl) 30 _ rfl (w.heap.size + 1) rfl 30 (lb a) _ XLr Try.underlying30 rfl (by kernel_rfl) ?_
          | (go_at_call 11; (with_reducible refine (CS _ (HK.out.below HBr.out)).mono ?_); rintro e w1 ⟨rfl, hb1⟩; have HB1 := Lib.hid (b_cl HBr.out (Nat.le_refl _) hb1); have XB_1 := XBr.below hb1; have XL_1 := XLr.below hb1; have HR1 := Lib.hid (b_cl HR.out (Nat.le_refl _) hb1))
          | (refine wpList_store_box rfl 30 _ _ rfl w1.heap.size (lb lz) rfl rfl 30 (lb lz) (Bx.new (W := w1) 30 (lb lz) rfl) (by kernel_rfl) rfl (lb_one _) (fun w2 u2 => ?_); have hn2 := u2.box; have b2 := ((b_al (Below.refl w1.heap.size w1) (Nat.le_refl _) _).trans (u2.bel _ (Nat.le_refl _))); have HB2 := Lib.hid (b_cl HB1.out (Nat.le_refl _) b2); have XB_2 := XB_1.below b2; have XL_2 := XL_1.below b2; have HR2 := Lib.hid (b_cl HR1.out (Nat.le_refl _) b2); clear b2))
        go_roundw
        case rel => exact ⟨j + 1, by omega, by go_num, by rw [HT.out], HR2⟩
        case measure => simp [intOf]; omega
    · obtain rfl : j = 4 := by omega
      have e4 : ((waysTo x l a 4).length : Nat) = m := by rw [← HM.out, ← HL.out]; rfl
      rw [e4]
      have ge : ((m : Int) == (m : Int)) = true := by simp
      go_wp2_with (first
        | go_skip
        | (go_at_call 7; (with_reducible refine (alive25_any _).mono ?_); rintro e w1 ⟨rfl, hb1⟩; have HB1 := Lib.hid (b_cl HBr.out (Nat.le_refl _) hb1)))
      go_ret
      exact ⟨rfl, HB1.out⟩

end Go.Proofs.Ytolbihfnogbjaaa
