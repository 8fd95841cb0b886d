/- The law FrontKeeps where the book may be. Conditions: at most forty meters. -/
import Derived.Test.YtglgifhpacmhiaaBase
import Derived.Test.YtglgifhpacmhiaaRow
import Derived.Test.YtglgifhpacmhiaaBookRow
import Derived.Test.YtglgifhpacmhiaaBookLim
import Derived.Test.YtglgifhpacmhiaaBookLaws
import Derived.Test.YtglgifhpacmhiaaBookOpen
import Derived.Test.YtglgifhpacmhiaaRecMath
import Derived.Test.YtglgifhpacmhiaaBox
import Derived.Test.YtglgifhpacmhiaaBoxRes
import Derived.Test.YtglgifhpacmhiaaChg
import Derived.Test.YtglgifhpacmhiaaSpellMath
import Derived.Test.YtglgifhpacmhiaaMeterMath
import Derived.Test.YtglgifhpacmhiaaMeterChk
import Derived.Test.YtglgifhpacmhiaaBelowMath
import Derived.Test.YtglgifhpacmhiaaBelowC
import Derived.Test.YtglgifhpacmhiaaSortMath
import Derived.Test.YtglgifhpacmhiaaWide
import Derived.Test.YtglgifhpacmhiaaFrontMath
import Derived.Test.YtglgifhpacmhiaaFrontEq
import Derived.Test.YtglgifhpacmhiaaFrontMap
import Derived.Test.YtglgifhpacmhiaaFrontHeap
import Derived.Test.YtglgifhpacmhiaaFrontForm
import Derived.Test.YtglgifhpacmhiaaFrontLib
import Derived.Test.YtglgifhpacmhiaaFrontSet
import Derived.Test.YtglgifhpacmhiaaFrontFn
import Derived.Test.YtglgifhpacmhiaaFrontPut
import Derived.Test.YtglgifhpacmhiaaFrontLen
import Derived.Test.YtglgifhpacmhiaaFrontAlive
import Derived.Test.YtglgifhpacmhiaaFrontOpen
import Derived.WalkKit
import Derived.WalkSpells
import Derived.WalkSmall
import Derived.Below
import Derived.Lib.Hide
import Derived.BigQuiet
import Derived.OwnWalk
import Derived.Outline
import Derived.Maps.RangeWalk
import Derived.Deep.DeepCutAuto
import Derived.OrdersHeld
import Derived.Deep.RegionHeld3
namespace Go.Proofs.Ytglgifhpacmhiaa
open Go.RowKit

set_option linter.unusedVariables false

set_option maxRecDepth 100000 in
set_option maxHeartbeats 8000000 in
theorem keeps_good (w : World) (x0 : Nat → Int) (A1 : Option Addr) (n1 c1 : Nat) (l1 : List Mt) (hn1 : l1.length = n1) (r1 : RdG mtW w A1 l1) (z1 : A1 = none → n1 = 0 ∧ c1 = 0) (s2 : Rc) (hl : n1 ≤ 40) (hm : May x0) :
    Calls Try.prog 4 #[.agg (bk x0), .slice A1 n1 c1, .agg (sp s2)] w fun e w' => e = .returned (.bool true) ∧ Below w.heap.size w w' := by
  have XB : Bx ((w.alloc (.cells (bk x0) 23)).alloc (.cells (sp s2) 26)) w.heap.size 23 (bk x0) := (Bx.new (W := w) _ _ rfl).alloc _
  have XS : Bx ((w.alloc (.cells (bk x0) 23)).alloc (.cells (sp s2) 26)) (w.heap.size + 1) 26 (sp s2) := Bx.new (W := (w.alloc (.cells (bk x0) 23))) _ _ (by simp)
  have B0 : Below w.heap.size w ((w.alloc (.cells (bk x0) 23)).alloc (.cells (sp s2) 26)) := b_al (b_al (Below.refl _ _) (Nat.le_refl _) _) (Nat.le_refl _) _
  have gl : ¬ (40 : Int) < (n1 : Int) := by omega
  have HR := Lib.hid (r1.below B0)
  have HN := Lib.hid hn1
  have hsz0 : ((w.alloc (.cells (bk x0) 23)).alloc (.cells (sp s2) 26)).heap.size = w.heap.size + 1 + 1 := by simp
  clear r1 z1 hn1
  go_enter Try.func4, Try.ntmps4
  go_wp2_with (first
    | go_skip
    | refine wpList_load_box (by rfl) 23 _ rfl (w.heap.size) rfl 23 (bk x0) _ XB Try.underlying23 rfl (by kernel_rfl) ?_
    | (go_at_call 6; refine (new24_ok x0 hm _).mono ?_; rintro e w1 ⟨g, rfl, F1, hg1, hb1⟩; have HF1 := Lib.hid F1; have HB1 := Lib.hid hb1; have HG1 := Lib.hid hg1; clear F1 hb1 hg1))
  (try go_frame)
  generalize ((w.alloc (.cells (bk x0) 23)).alloc (.cells (sp s2) 26)) = w0 at *
  go_loopw [41] (fun i wr => ∃ (k : Nat) (B : List Nat), i = .int .i64 k ∧ k ≤ n1 ∧ Hid (Fr wr g x0 (ptsF x0 s2 (l1.take k)) B) ∧ Hid (∀ q ∈ B, w0.heap.size ≤ q) ∧ Hid (Below w0.heap.size w0 wr)) (fun i _ => n1 - (intOf i).toNat)
  case atStart => exact ⟨0, [g], rfl, Nat.zero_le _, HF1, Lib.hid (fun q hq => by rw [List.mem_singleton] at hq; subst hq; exact HG1.out), HB1⟩
  case round =>
    obtain ⟨k, B, rfl, hk, HF, HQ, HW⟩ := hrel
    by_cases hlt : k < n1
    · have gk : (k : Int) < (n1 : Int) := by omega
      obtain ⟨b1, o1, m, rfl, hb1, hc, hx⟩ := (HR.out.below HW.out).at_ (j := k) (by rw [HN.out]; exact hlt)
      have hc : wr.rangeAt b1 (o1 + k * 14) (mt m).toList := hc
      have XS1 := XS.below HW.out
      have HT := Lib.hid (ptsF_take (x := x0) (s := s2) hx.out)
      have hle : (ptsF x0 s2 (l1.take k)).length ≤ 1000000000 := by
        have h1 := ptsF_le x0 s2 (l1.take k)
        have h2 := List.length_take_le k l1
        omega
      go_wp2_with (first
        | refine wpList_loadG (by rfl) 36 _ rfl b1 (o1 + k * 14) rfl (mt m) _ hc Try.underlying36 rfl (by kernel_rfl) ?_
        | (refine wpList_store_box rfl 36 _ _ rfl wr.heap.size (mt m) rfl rfl 36 (mt .zero) (Bx.new (W := wr) 36 (mt .zero) rfl) (by kernel_rfl) rfl (mt_one _) (fun w5 u5 => ?_); have XM5 := u5.box; have B5 := ((b_al (Below.refl wr.heap.size wr) (Nat.le_refl _) _).trans (u5.bel _ (Nat.le_refl _))); have XS5 := XS1.below B5; have HW5 := Lib.hid (b_cl HW.out (Nat.le_refl _) B5); have HF5 := Lib.hid (HF.out.below B5))
        | refine wpList_load_box (by rfl) 36 _ rfl (wr.heap.size) rfl 36 (mt m) _ XM5 Try.underlying36 rfl (by kernel_rfl) ?_
        | refine wpList_load_box (by rfl) 26 _ rfl (w.heap.size + 1) rfl 26 (sp s2) _ XS5 Try.underlying26 rfl (by kernel_rfl) ?_
        | (go_at_call 9; refine (put24_any HF5.out hle s2 m).mono ?_; rintro e w6 ⟨rfl, B6, F6, M6⟩; have HF6 := Lib.hid F6; have HQ6 : Hid (∀ q ∈ B6, w0.heap.size ≤ q) := Lib.hid (fun q hq => (M6.new q hq).elim (HQ.out q) (fun h => Nat.le_trans HW5.out.size h)); have HW6 := Lib.hid (HW5.out.trans (M6.bel _ HQ.out HW5.out.size)); clear F6 M6))
      go_roundw
      case rel => exact ⟨k + 1, B6, by go_num, by omega, Lib.hid (by rw [HT.out]; exact HF6.out), HQ6, HW6⟩
      case measure => simp [intOf]; omega
    · have gk : ¬ (k : Int) < (n1 : Int) := by omega
      have HK : Hid (l1.take k = l1) := Lib.hid (List.take_of_length_le (by rw [HN.out]; omega))
      have HF' := HF.out
      rw [HK.out] at HF'
      have XS1 := XS.below HW.out
      have hle : (ptsF x0 s2 l1).length ≤ 1000000000 := by have h1 := ptsF_le x0 s2 l1; have := HN.out; omega
      have HKP := Lib.hid (ptsF_keep x0 s2 l1)
      have HLN := Lib.hid (ptsF_len x0 s2 l1)
      obtain ⟨y, hy⟩ : ∃ y, ptsF x0 s2 l1 = y := ⟨_, rfl⟩
      have HKP' := HKP.out
      have HLN' := HLN.out
      rw [hy] at HF' hle HKP' HLN'
      have HFy := Lib.hid HF'
      obtain ⟨K, hK⟩ : ∃ K, allF y s2 = K := ⟨_, rfl⟩
      have CA := all24_any HF' (by omega) s2
      rw [hK] at CA HKP' HLN'
      have HP := Lib.hid HKP'
      have HL := Lib.hid HLN'
      clear HKP HLN HKP' HLN' HF' hK HK
      go_upto_region 14 with (first
        | refine wpList_load_box (by rfl) 26 _ rfl (w.heap.size + 1) rfl 26 (sp s2) _ XS1 Try.underlying26 rfl (by kernel_rfl) ?_
        | (go_at_call 10; refine CA.mono ?_; rintro e w2 ⟨v2, rfl, o2, hb2⟩; obtain ⟨A2, c2, rfl, r2, _⟩ := o2.read; have HR2 := Lib.hid r2; have HF2 := Lib.hid (HFy.out.below hb2); have HW2 := Lib.hid (b_cl HW.out (Nat.le_refl _) hb2); clear o2 r2 hb2 CA))
      (try go_frame)
      obtain ⟨m, hm2⟩ : ∃ m, K.length = m := ⟨_, rfl⟩
      rw [hm2]
      have HM := Lib.hid hm2
      have hmb : m ≤ 1000000000 := by have h8 := HL.out; omega
      clear hm2
      have XB2 := XB.below HW2.out
      go_wp2
      go_loopw [55] (fun i wr => ∃ k : Nat, i = .int .i64 k ∧ k ≤ m ∧ Hid (Below w2.heap.size w2 wr)) (fun i _ => m - (intOf i).toNat)
      case atStart => exact ⟨0, rfl, Nat.zero_le _, Lib.hid (Below.refl _ _)⟩
      case round =>
        obtain ⟨i, rfl, hi, HI⟩ := hrel
        by_cases hlti : i < m
        · have gi : (i : Int) < (m : Int) := by omega
          obtain ⟨b1, o1, u, hA2, hb1, hc, hxu⟩ := (HR2.out.below HI.out).at_ (j := i) (by rw [HM.out]; exact hlti)
          have hc : wr.rangeAt b1 (o1 + i * 14) (mt u).toList := hc
          subst hA2
          go_upto_region 17 with (first
            | refine wpList_loadG (by rfl) 36 _ rfl b1 (o1 + i * 14) rfl (mt u) _ hc Try.underlying36 rfl (by kernel_rfl) ?_
            | (refine wpList_store_box rfl 36 _ _ rfl wr.heap.size (mt u) rfl rfl 36 (mt .zero) (Bx.new (W := wr) 36 (mt .zero) rfl) (by kernel_rfl) rfl (mt_one _) (fun w5 u5 => ?_); have XU5 := u5.box; have B5 := Lib.hid ((b_al (Below.refl wr.heap.size wr) (Nat.le_refl _) _).trans (u5.bel _ (Nat.le_refl _))); have HI5 := Lib.hid (b_cl HI.out (Nat.le_refl _) B5.out)))
          (try go_frame)
          obtain ⟨N5, hN5⟩ : ∃ N5, wr.heap.size = N5 := ⟨_, rfl⟩
          rw [hN5] at XU5 ⊢
          clear hN5
          go_wp2
          go_loopw [62] (fun j wi => ∃ k : Nat, j = .int .i64 k ∧ k ≤ m ∧ Hid (Below w5.heap.size w5 wi)) (fun j _ => m - (intOf j).toNat)
          case atStart => exact ⟨0, rfl, Nat.zero_le _, Lib.hid (Below.refl _ _)⟩
          case round =>
            obtain ⟨j, rfl, hj, HJ⟩ := hrel
            obtain ⟨wi, hwi⟩ : ∃ wi : World, wi = wr := ⟨_, rfl⟩
            subst hwi
            by_cases hltj : j < m
            · have gj : (j : Int) < (m : Int) := by omega
              obtain ⟨b2, o2, v, hA3, hb2, hc2, hxv⟩ := ((HR2.out.below HI5.out).below HJ.out).at_ (j := j) (by rw [HM.out]; exact hltj)
              have hc2 : wi.rangeAt b2 (o2 + j * 14) (mt v).toList := hc2
              injection hA3 with hA3
              injection hA3 with e1 e2
              subst e1 e2
              have XUi := XU5.below HJ.out
              have XBi := (XB2.below HI5.out).below HJ.out
              have CU := fun W => under17_any x0 u v W
              by_cases hij : i = j
              · subst hij
                have ne : ((i : Int) != (i : Int)) = false := by simp
                clear CU
                go_upto_region 20 with (first
                  | refine wpList_loadG (by rfl) 36 _ rfl b1 (o1 + i * 14) rfl (mt v) _ hc2 Try.underlying36 rfl (by kernel_rfl) ?_
                  | (refine wpList_store_box rfl 36 _ _ rfl wi.heap.size (mt v) rfl rfl 36 (mt .zero) (Bx.new (W := wi) 36 (mt .zero) rfl) (by kernel_rfl) rfl (mt_one _) (fun w7 u7 => ?_); have B7 := ((b_al (Below.refl wi.heap.size wi) (Nat.le_refl _) _).trans (u7.bel _ (Nat.le_refl _))); have HJ7 := Lib.hid (b_cl HJ.out (Nat.le_refl _) B7)))
                go_wp2_with (first | go_skip)
                go_roundw
                case rel => exact ⟨i + 1, by go_num, by omega, HJ7⟩
                case measure => simp [intOf]; omega
              · have ne : ((i : Int) != (j : Int)) = true := by simp; omega
                have hno := HP.out.apart hij (by rw [HM.out]; exact hlti) (by rw [HM.out]; exact hltj)
                have eu : K[i]'(by rw [HM.out]; exact hlti) = u := by have h := hxu.out; rw [List.getElem?_eq_getElem (by rw [HM.out]; exact hlti)] at h; exact Option.some.inj h
                have ev : K[j]'(by rw [HM.out]; exact hltj) = v := by have h := hxv.out; rw [List.getElem?_eq_getElem (by rw [HM.out]; exact hltj)] at h; exact Option.some.inj h
                rw [eu, ev] at hno
                have heq : tf (u = v) = false := tf_no (fun e => hno (.inl e))
                rw [tf_no (fun e => hno (.inr e))] at CU
                clear hno eu ev hij
                go_upto_region 20 with (first
                  | refine wpList_loadG (by rfl) 36 _ rfl b1 (o1 + j * 14) rfl (mt v) _ hc2 Try.underlying36 rfl (by kernel_rfl) ?_
                  | (refine wpList_store_box rfl 36 _ _ rfl wi.heap.size (mt v) rfl rfl 36 (mt .zero) (Bx.new (W := wi) 36 (mt .zero) rfl) (by kernel_rfl) rfl (mt_one _) (fun w7 u7 => ?_); have XV7 := u7.box; have B7 := ((b_al (Below.refl wi.heap.size wi) (Nat.le_refl _) _).trans (u7.bel _ (Nat.le_refl _))); have XU7 := XUi.below B7; have XB7 := XBi.below B7; have HJ7 := Lib.hid (b_cl HJ.out (Nat.le_refl _) B7)))
                (try go_frame)
                go_wp2_with (first
                  | go_skip
                  | refine wpList_load_box (by rfl) 36 _ rfl (N5) rfl 36 (mt u) _ XU7 Try.underlying36 rfl (by kernel_rfl) ?_
                  | refine wpList_load_box (by rfl) 36 _ rfl (wi.heap.size) rfl 36 (mt v) _ XV7 Try.underlying36 rfl (by kernel_rfl) ?_
                  | refine wpList_load_box (by rfl) 23 _ rfl (w.heap.size) rfl 23 (bk x0) _ XB7 Try.underlying23 rfl (by kernel_rfl) ?_
                  | refine wpList_eql_mt (by rfl) rfl u v false rfl rfl heq ?_
                  | (go_at_call 16; (with_reducible refine (CU _).mono ?_); rintro e w8 ⟨rfl, hb8⟩; have HJ8 := Lib.hid (b_cl HJ7.out (Nat.le_refl _) hb8)))
                go_roundw
                case rel => exact ⟨j + 1, by go_num, by omega, HJ8⟩
                case measure => simp [intOf]; omega
            · have gj : ¬ (j : Int) < (m : Int) := by omega
              have HI9 := Lib.hid (b_cl HI5.out (Nat.le_refl _) HJ.out)
              go_wp2
              go_roundw
              case rel => exact ⟨i + 1, by go_num, by omega, HI9⟩
              case measure => simp [intOf]; omega
        · have gi : ¬ (i : Int) < (m : Int) := by omega
          have HW3 := Lib.hid (b_cl HW2.out (Nat.le_refl _) HI.out)
          have HF3 := Lib.hid (HF2.out.below HI.out)
          have HR3 := Lib.hid (HR2.out.below HI.out)
          have HRL := Lib.hid (HR.out.below HW3.out)
          have XB3 := XB2.below HI.out
          obtain ⟨w3, hw3⟩ : ∃ w3 : World, w3 = wr := ⟨_, rfl⟩
          subst hw3
          clear HI HR2 HF2 XB2
          go_wp2
          go_loopw [85] (fun i wr => ∃ k : Nat, i = .int .i64 k ∧ k ≤ n1 ∧ Hid (Below w3.heap.size w3 wr)) (fun i _ => n1 - (intOf i).toNat)
          case atStart => exact ⟨0, rfl, Nat.zero_le _, Lib.hid (Below.refl _ _)⟩
          case round =>
            obtain ⟨p, rfl, hp, HI⟩ := hrel
            by_cases hltp : p < n1
            · have gp : (p : Int) < (n1 : Int) := by omega
              obtain ⟨b1, o1, u, hA1, hb1, hc, hxu⟩ := (HRL.out.below HI.out).at_ (j := p) (by rw [HN.out]; exact hltp)
              have hc : wr.rangeAt b1 (o1 + p * 14) (mt u).toList := hc
              subst hA1
              have HH := Lib.hid (keep_hit HP.out (List.mem_of_getElem? hxu.out))
              go_upto_region 28 with (first
                | refine wpList_loadG (by rfl) 36 _ rfl b1 (o1 + p * 14) rfl (mt u) _ hc Try.underlying36 rfl (by kernel_rfl) ?_
                | (refine wpList_store_box rfl 36 _ _ rfl wr.heap.size (mt u) rfl rfl 36 (mt .zero) (Bx.new (W := wr) 36 (mt .zero) rfl) (by kernel_rfl) rfl (mt_one _) (fun w5 u5 => ?_); have XU5 := u5.box; have B5 := Lib.hid ((b_al (Below.refl wr.heap.size wr) (Nat.le_refl _) _).trans (u5.bel _ (Nat.le_refl _))); have HI5 := Lib.hid (b_cl HI.out (Nat.le_refl _) B5.out)))
              (try go_frame)
              obtain ⟨N5, hN5⟩ : ∃ N5, wr.heap.size = N5 := ⟨_, rfl⟩
              rw [hN5] at XU5 ⊢
              clear hN5
              go_wp2
              go_loopw [18, 91] (fun sm j wi => ∃ (k : Nat) (v : Bool), sm = .bool v ∧ j = .int .i64 k ∧ k ≤ m ∧ Hid (hitF x0 (K.take k) u = v) ∧ Hid (Below w5.heap.size w5 wi)) (fun _ j _ => m - (intOf j).toNat)
              case atStart => exact ⟨0, false, rfl, rfl, Nat.zero_le _, Lib.hid rfl, Lib.hid (Below.refl _ _)⟩
              case round =>
                obtain ⟨j, sv, rfl, rfl, hj, HV, HJ⟩ := hrel
                obtain ⟨wi, hwi⟩ : ∃ wi : World, wi = wr := ⟨_, rfl⟩
                subst hwi
                by_cases hltj : j < m
                · have gj : (j : Int) < (m : Int) := by omega
                  obtain ⟨b2, o2, v, hA3, hb2, hc2, hxv⟩ := ((HR3.out.below HI5.out).below HJ.out).at_ (j := j) (by rw [HM.out]; exact hltj)
                  have hc2 : wi.rangeAt b2 (o2 + j * 14) (mt v).toList := hc2
                  subst hA3
                  have XUi := XU5.below HJ.out
                  have XBi := (XB3.below HI5.out).below HJ.out
                  have HT := Lib.hid (hitF_take (x := x0) (m := u) hxv.out)
                  have CU := fun W => under17_any x0 v u W
                  cases sv with
                  | true =>
                    clear CU
                    go_upto_region 31 with (first
                      | refine wpList_loadG (by rfl) 36 _ rfl b2 (o2 + j * 14) rfl (mt v) _ hc2 Try.underlying36 rfl (by kernel_rfl) ?_
                      | (refine wpList_store_box rfl 36 _ _ rfl wi.heap.size (mt v) rfl rfl 36 (mt .zero) (Bx.new (W := wi) 36 (mt .zero) rfl) (by kernel_rfl) rfl (mt_one _) (fun w7 u7 => ?_); have XV7 := u7.box; have B7 := ((b_al (Below.refl wi.heap.size wi) (Nat.le_refl _) _).trans (u7.bel _ (Nat.le_refl _))); have XU7 := XUi.below B7; have XB7 := XBi.below B7; have HJ7 := Lib.hid (b_cl HJ.out (Nat.le_refl _) B7)))
                    (try go_frame)
                    go_wp2_with (first
                      | go_skip)
                    go_roundw
                    case rel => exact ⟨j + 1, true, rfl, by go_num, by omega, Lib.hid (by rw [HT.out, HV.out]; rfl), HJ7⟩
                    case measure => simp [intOf]; omega
                  | false =>
                    cases heq : tf (u = v) with
                    | true =>
                      have HE := Lib.hid (tf_or_yes (x := x0) heq)
                      clear CU
                      go_upto_region 31 with (first
                        | refine wpList_loadG (by rfl) 36 _ rfl b2 (o2 + j * 14) rfl (mt v) _ hc2 Try.underlying36 rfl (by kernel_rfl) ?_
                        | (refine wpList_store_box rfl 36 _ _ rfl wi.heap.size (mt v) rfl rfl 36 (mt .zero) (Bx.new (W := wi) 36 (mt .zero) rfl) (by kernel_rfl) rfl (mt_one _) (fun w7 u7 => ?_); have XV7 := u7.box; have B7 := ((b_al (Below.refl wi.heap.size wi) (Nat.le_refl _) _).trans (u7.bel _ (Nat.le_refl _))); have XU7 := XUi.below B7; have XB7 := XBi.below B7; have HJ7 := Lib.hid (b_cl HJ.out (Nat.le_refl _) B7)))
                      (try go_frame)
                      go_wp2_with (first
                        | go_skip
                        | refine wpList_load_box (by rfl) 36 _ rfl (N5) rfl 36 (mt u) _ XU7 Try.underlying36 rfl (by kernel_rfl) ?_
                        | refine wpList_load_box (by rfl) 36 _ rfl (wi.heap.size) rfl 36 (mt v) _ XV7 Try.underlying36 rfl (by kernel_rfl) ?_
                        | refine wpList_eql_mt (by rfl) rfl u v true rfl rfl heq ?_)
                      go_roundw
                      case rel => exact ⟨j + 1, true, rfl, by go_num, by omega, Lib.hid (by rw [HT.out, HV.out, HE.out]; rfl), HJ7⟩
                      case measure => simp [intOf]; omega
                    | false =>
                      have HE0 := Lib.hid (tf_or (x := x0) heq)
                      obtain ⟨uv, huv⟩ : ∃ uv, tf (Un x0 v u) = uv := ⟨_, rfl⟩
                      rw [huv] at CU
                      have HE := Lib.hid (HE0.out.trans huv)
                      clear huv HE0
                      go_upto_region 31 with (first
                        | refine wpList_loadG (by rfl) 36 _ rfl b2 (o2 + j * 14) rfl (mt v) _ hc2 Try.underlying36 rfl (by kernel_rfl) ?_
                        | (refine wpList_store_box rfl 36 _ _ rfl wi.heap.size (mt v) rfl rfl 36 (mt .zero) (Bx.new (W := wi) 36 (mt .zero) rfl) (by kernel_rfl) rfl (mt_one _) (fun w7 u7 => ?_); have XV7 := u7.box; have B7 := ((b_al (Below.refl wi.heap.size wi) (Nat.le_refl _) _).trans (u7.bel _ (Nat.le_refl _))); have XU7 := XUi.below B7; have XB7 := XBi.below B7; have HJ7 := Lib.hid (b_cl HJ.out (Nat.le_refl _) B7)))
                      (try go_frame)
                      go_wp2_with (first
                        | go_skip
                        | refine wpList_load_box (by rfl) 36 _ rfl (N5) rfl 36 (mt u) _ XU7 Try.underlying36 rfl (by kernel_rfl) ?_
                        | refine wpList_load_box (by rfl) 36 _ rfl (wi.heap.size) rfl 36 (mt v) _ XV7 Try.underlying36 rfl (by kernel_rfl) ?_
                        | refine wpList_eql_mt (by rfl) rfl u v false rfl rfl heq ?_
                        | refine wpList_load_box (by rfl) 23 _ rfl (w.heap.size) rfl 23 (bk x0) _ XB7 Try.underlying23 rfl (by kernel_rfl) ?_
                        | (go_at_call 16; (with_reducible refine (CU _).mono ?_); rintro e w8 ⟨rfl, hb8⟩; have HJ8 := Lib.hid (b_cl HJ7.out (Nat.le_refl _) hb8)))
                      go_roundw
                      case rel => exact ⟨j + 1, uv, rfl, by go_num, by omega, Lib.hid (by rw [HT.out, HV.out, HE.out]; rfl), HJ8⟩
                      case measure => simp [intOf]; omega
                · have gj : ¬ (j : Int) < (m : Int) := by omega
                  have HI9 := Lib.hid (b_cl HI5.out (Nat.le_refl _) HJ.out)
                  have hsv : sv = true := by
                    have h1 := HV.out
                    rw [List.take_of_length_le (by rw [HM.out]; omega), HH.out] at h1
                    exact h1.symm
                  subst hsv
                  go_wp2
                  go_roundw
                  case rel => exact ⟨p + 1, by go_num, by omega, HI9⟩
                  case measure => simp [intOf]; omega
            · have gp : ¬ (p : Int) < (n1 : Int) := by omega
              have HB3 := Lib.hid (b_cl (b_cl B0 (Nat.le_refl _) HW3.out) (Nat.le_refl _) HI.out)
              have CL := len24_any (HF3.out.below HI.out) (by omega)
              rw [HL.out, HM.out] at CL
              have em : ((m : Int) == (m : Int)) = true := by simp
              go_wp2_with (first
                | go_skip
                | (go_at_call 8; (with_reducible refine CL.mono ?_); rintro e w6 ⟨rfl, hb6⟩; have HB6 := b_cl HB3.out (Nat.le_refl _) hb6; clear CL)
                | (go_at_call 5; refine (alive24_any _).mono ?_; rintro e w99 ⟨rfl, hb99⟩; have B99 := Lib.hid (b_cl (HB6) (Nat.le_refl _) hb99); clear hb99))
              go_ret
              exact ⟨rfl, B99.out⟩

end Go.Proofs.Ytglgifhpacmhiaa
