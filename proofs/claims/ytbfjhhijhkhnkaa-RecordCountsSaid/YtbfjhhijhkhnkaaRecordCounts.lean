/- Total and Kind answer as the document says, and the totals of all kinds are the whole. Conditions: none (of more than two hundred records the law asks the example alone). -/
import Derived.Test.YtbfjhhijhkhnkaaRows
import Derived.Test.YtbfjhhijhkhnkaaBase
import Derived.Test.YtbfjhhijhkhnkaaRow
import Derived.Test.YtbfjhhijhkhnkaaRecMath
import Derived.Test.YtbfjhhijhkhnkaaRecMath2
import Derived.Test.YtbfjhhijhkhnkaaRecHeap
import Derived.Test.YtbfjhhijhkhnkaaRecOpen
import Derived.Test.YtbfjhhijhkhnkaaRecAlive
import Derived.Test.YtbfjhhijhkhnkaaRecSame
import Derived.Test.YtbfjhhijhkhnkaaRecSmall
import Derived.Test.YtbfjhhijhkhnkaaRecCheckR
import Derived.Test.YtbfjhhijhkhnkaaRecKinds
import Derived.Test.YtbfjhhijhkhnkaaRecTotal
import Derived.WalkKit
import Derived.WalkSmall
import Derived.WalkSpells
import Derived.ProofKit
import Derived.OpenShut
import Derived.ShutString
import Derived.ChangeOld
import Derived.Below
import Derived.Lib.Hide
import Derived.OwnWalk
namespace Go.Proofs.Ytbfjhhijhkhnkaa.recordCounts
open Go.ChangeShapes Go.WideShapes Go.ChangeAt Go.RowKit
open Go.ChangeMaps (open_string shut_string)
set_option linter.unusedVariables false

theorem own : ownKnob Try.prog.godebug = none := by kernel_rfl
theorem laidOut : laidOutB Try.prog = true := by kernel_rfl

/-- How many of the first kinds there are. -/
def sumV (ks : List Int) : Nat → Nat
  | 0 => 0
  | j + 1 => sumV ks j + ks.count (j : Int)

theorem sum_four {ks : List Int} (h : ∀ x ∈ ks, 0 ≤ x ∧ x < 4) : sumV ks 4 = ks.length := by
  rw [← count_all h]
  simp [sumV]

theorem sum_le {ks : List Int} (h : ∀ x ∈ ks, 0 ≤ x ∧ x < 4) {j : Nat} (hj : j < 4) : sumV ks j + ks.count (j : Int) ≤ ks.length := by
  rw [← count_all h]
  have hj' : j = 0 ∨ j = 1 ∨ j = 2 ∨ j = 3 := by omega
  rcases hj' with rfl | rfl | rfl | rfl <;> simp [sumV] <;> omega

set_option maxRecDepth 100000 in
set_option maxHeartbeats 8000000 in
theorem walk (w : World) (A0 : Option Addr) (c0 : Nat) (l0 : List Rc) (r0 : RdR w A0 l0) (z0 : A0 = none → c0 = 0) (a1 : Int) (w1 : (Lit.int .i64 a1).wf = true) (a2 : Int) (w2 : (Lit.int .i64 a2).wf = true) :
    Calls Try.prog 6 #[.slice A0 l0.length c0, .int .i64 a1, .int .i64 a2] w fun e w' => e = .returned (.bool true) ∧ Below w.heap.size w w' := by
  by_cases h200 : 200 < l0.length
  · have h200' : (200 : Int) < (l0.length : Int) := by omega
    go_enter Try.func6, Try.ntmps6
    go_wp2_with (go_at_call 7; refine (alive8_any _).mono ?_; rintro e wz ⟨rfl, hbz⟩)
    go_ret
    exact ⟨rfl, hbz⟩
  · have h200' : (l0.length : Int) ≤ 200 := by omega
    have hl2 : l0.length ≤ 4611686018427387904 := by omega
    have HR := Lib.hid r0
    have RCK := fun W (h : RdR W A0 l0) => refcheck_any A0 c0 l0 W h hl2
    by_cases hc : (checkV l0).2 = 0
    · have T := check_tl hc
      have TK : ∃ tn te, Hid ((0 ≤ a1 ∧ a1 < 4 → tn = (((kindsV l0).count a1 : Nat) : Int) ∧ te = 0) ∧ (¬ (0 ≤ a1 ∧ a1 < 4) → tn = 0 ∧ te = 2)) ∧ ∀ W, RdR W A0 l0 → Calls Try.prog 21 #[.slice A0 l0.length c0, .int .i64 a1] W fun e w' => e = .returned (.tuple #[.int .i64 tn, .int .i64 te]) ∧ Below W.heap.size W w' := by
        by_cases hK : 0 ≤ a1 ∧ a1 < 4
        · exact ⟨_, _, Lib.hid ⟨fun _ => ⟨rfl, rfl⟩, fun h => absurd hK h⟩, fun W h => total_ok A0 c0 l0 a1 W h hl2 hc hK⟩
        · exact ⟨_, _, Lib.hid ⟨fun h => absurd h hK, fun _ => ⟨rfl, rfl⟩⟩, fun W h => total_none A0 c0 l0 a1 W h hl2 hc hK⟩
      obtain ⟨tn, te, HTK, TK⟩ := TK
      have TX := fun (x : Nat) (hx : x < 4) W (h : RdR W A0 l0) => total_ok A0 c0 l0 (x : Int) W h hl2 hc (by omega)
      have KK := fun W (h : RdR W A0 l0) => kind_ok_any A0 c0 l0 a2 W h hl2 hc
      have BG := fun W (h : RdR W A0 l0) => refbeg_any A0 c0 l0.length l0 W (Lib.hid rfl) h hl2
      have EN := fun W (h : RdR W A0 l0) => reffin_any A0 c0 l0.length l0 W (Lib.hid rfl) h hl2
      have KD := fun W (h : RdR W A0 l0) => refkinds_any A0 c0 l0 W h T hl2
      have HKA := Lib.hid (show (l0 = [] ∧ kindsV l0 = []) ∨ (l0 ≠ [] ∧ fin l0 = beg l0 + ((kindsV l0).length : Int)) by
        by_cases h0 : l0 = []
        · exact .inl ⟨h0, by rw [h0]; rfl⟩
        · exact .inr ⟨h0, (T.from_.len h0).1.symm⟩)
      have HSH := T.short
      have HKS := Lib.hid T.kinds
      have HBD := T.bd
      have KV : Hid (kindAtV l0 a2 = if beg l0 ≤ a2 ∧ a2 < beg l0 + ((kindsV l0).length : Int) then ((kindsV l0).getD (a2 - beg l0).toNat 0, true) else (0, false)) := Lib.hid (by
        unfold kindAtV
        by_cases hh : beg l0 ≤ a2 ∧ a2 < beg l0 + ((kindsV l0).length : Int)
        · rw [if_pos ⟨hc, hh⟩, if_pos hh]
        · rw [if_neg (fun k => hh k.2), if_neg hh])
      rw [tl_check T] at RCK
      obtain ⟨kk, ki, hkv⟩ : ∃ kk ki, kindAtV l0 a2 = (kk, ki) := ⟨_, _, rfl⟩
      rw [hkv] at KK KV
      generalize beg l0 = bg at BG HKA HBD KV
      generalize fin l0 = fn at EN HKA
      generalize kindsV l0 = ks at HTK TX KD HKA HSH HKS HBD KV
      obtain ⟨HBD0, HBD1⟩ := HBD
      obtain ⟨m, hm⟩ : ∃ m, ks.length = m := ⟨_, rfl⟩
      have HM := Lib.hid hm
      rw [hm] at HSH HBD1
      clear hm hkv T hc r0 z0
      go_enter Try.func6, Try.ntmps6
      go_wp2_with (first
        | (go_at_call 9; (with_reducible refine (RCK _ HR.out).mono ?_); rintro e w1 ⟨rfl, hb1⟩; have H1 := Lib.hid hb1; clear hb1)
        | (go_at_call 21; (with_reducible refine (TK _ (HR.out.below H1.out)).mono ?_); rintro e w2 ⟨rfl, hb2⟩; have H2 := Lib.hid (b_tr H1.out hb2); clear hb2)
        | (go_at_call 22; (with_reducible refine (KK _ (HR.out.below H2.out)).mono ?_); rintro e w3 ⟨rfl, hb3⟩; have H3 := Lib.hid (b_tr H2.out hb3); clear hb3)
        | (go_at_call 23; (with_reducible refine (KD _ (HR.out.below H3.out)).mono ?_); rintro e w4 ⟨v4, rfl, ho4, hb4⟩; obtain ⟨A4, c4, rfl, hr4⟩ := ho4.read; have R4 := Lib.hid hr4; have H4 := Lib.hid (b_tr H3.out hb4); clear hb4 ho4 hr4; rw [HM.out]))
      have HR4 := Lib.hid (HR.out.below H4.out)
      clear TK KK KD RCK
      go_loop [14, 68] (fun t i => ∃ k n : Nat, k ≤ m ∧ i = .int .i64 k ∧ t = .int .i64 n ∧ n ≤ k ∧ Hid ((ks.take k).count a1 = n)) (fun _ i => m - (intOf i).toNat)
      case atStart => exact ⟨0, 0, Nat.zero_le _, rfl, rfl, Nat.le_refl _, Lib.hid rfl⟩
      case round =>
        obtain ⟨k, n, hk, rfl, rfl, hnk, HC⟩ := hrel
        by_cases hlt : k < m
        · obtain ⟨bk, off, x, rfl, hbb, hc0, hs⟩ := R4.out.at_ (k := k) (by rw [HM.out]; exact hlt)
          have CS := Lib.hid (count_step (K := a1) hs.out)
          by_cases hx : x = a1
          · subst hx
            have C2 := Lib.hid (CS.out.trans (by rw [HC.out, if_pos rfl]))
            have e1 : (x == x) = true := by simp
            go_wp2
            go_round
            case rel => exact ⟨k + 1, n + 1, by omega, by go_num, by go_num, by omega, C2⟩
            case measure => simp [intOf]; omega
          · have C2 := Lib.hid (CS.out.trans (by rw [HC.out, if_neg hx, Nat.add_zero]))
            have e1 : (x == a1) = false := by simpa using hx
            clear hx
            go_wp2
            go_round
            case rel => exact ⟨k + 1, n, by omega, by go_num, rfl, by omega, C2⟩
            case measure => simp [intOf]; omega
        · have hkm : k = m := by omega
          have HW := Lib.hid (show ks.count a1 = n by rw [← HC.out, List.take_of_length_le (by rw [HM.out]; omega)])
          go_wp2
          clear hkm hlt HC hk
          go_loopw [15, 18] (fun t i wr => ∃ j s : Nat, j ≤ 4 ∧ i = .int .i64 j ∧ t = .int .i64 s ∧ Hid (sumV ks j = s) ∧ Below w4.heap.size w4 wr) (fun _ i _ => 4 - (intOf i).toNat)
          case atStart => exact ⟨0, 0, by omega, rfl, rfl, Lib.hid rfl, Below.refl _ _⟩
          case round =>
            obtain ⟨j, s, hj, rfl, rfl, HS, hb⟩ := hrel
            obtain ⟨w5, rfl⟩ : ∃ w5 : World, w5 = wr := ⟨_, rfl⟩
            have HR5 := Lib.hid (HR4.out.below hb)
            by_cases hj4 : j < 4
            · have TT := fun W h => TX j hj4 W h
              obtain ⟨q, hq⟩ : ∃ q, ks.count (j : Int) = q := ⟨_, rfl⟩
              have SL := sum_le HKS.out hj4
              rw [HS.out, hq, HM.out] at SL
              rw [hq] at TT
              have S2 := Lib.hid (show sumV ks (j + 1) = s + q by show sumV ks j + ks.count (j : Int) = _; rw [HS.out, hq])
              clear hq
              go_wp2_with (go_at_call 21; (with_reducible refine (TT _ HR5.out).mono ?_); rintro e w6 ⟨rfl, hb6⟩)
              go_roundw
              case rel => exact ⟨j + 1, s + q, by omega, by go_num, by go_num, S2, b_tr hb hb6⟩
              case measure => simp [intOf]; omega
            · obtain rfl : j = 4 := by omega
              have hsm : s = m := by rw [← HS.out, sum_four HKS.out, HM.out]
              subst hsm
              have HRE := HR5
              have HBE := Lib.hid (b_tr H4.out hb)
              have R5 := Lib.hid (R4.out.below hb)
              rw [HW.out] at HTK
              rw [HM.out] at HKA KV
              rcases HKA.out with ⟨h0, hk0⟩ | ⟨h0, hfn⟩
              · have hm0 : s = 0 := by rw [← HM.out, hk0]; rfl
                have hl0 : l0.length = 0 := by rw [h0]; rfl
                subst hm0
                have KV2 := KV.out
                rw [if_neg (by omega)] at KV2
                obtain ⟨rfl, rfl⟩ : kk = 0 ∧ ki = false := by simpa using KV2
                clear KV KV2 hk0 h0
                rw [hl0] at BG EN
                by_cases hK : 0 ≤ a1 ∧ a1 < 4
                · obtain ⟨htn, hte⟩ := HTK.out.1 hK
                  subst htn hte
                  obtain ⟨hK0, hK1⟩ := hK
                  have hK2 : a1 ≤ 3 := by omega
                  go_wp2_with (first
                    | (go_at_call 18; (with_reducible refine (BG _ HRE.out).mono ?_); rintro e w' ⟨rfl, rfl⟩)
                    | (go_at_call 19; (with_reducible refine (EN _ HRE.out).mono ?_); rintro e w' ⟨rfl, rfl⟩)
                    | (go_at_call 7; refine (alive8_any _).mono ?_; rintro e wz ⟨rfl, hbz⟩))
                  go_ret
                  exact ⟨by simp, b_tr HBE.out hbz⟩
                · obtain ⟨htn, hte⟩ := HTK.out.2 hK
                  subst htn hte
                  by_cases hK0 : a1 < 0
                  · clear hK
                    go_wp2_with (first
                      | (go_at_call 18; (with_reducible refine (BG _ HRE.out).mono ?_); rintro e w' ⟨rfl, rfl⟩)
                      | (go_at_call 19; (with_reducible refine (EN _ HRE.out).mono ?_); rintro e w' ⟨rfl, rfl⟩)
                      | (go_at_call 7; refine (alive8_any _).mono ?_; rintro e wz ⟨rfl, hbz⟩))
                    go_ret
                    exact ⟨by simp, b_tr HBE.out hbz⟩
                  · have hK1 : 0 ≤ a1 := by omega
                    have hK2 : 3 < a1 := by omega
                    clear hK hK0
                    go_wp2_with (first
                      | (go_at_call 18; (with_reducible refine (BG _ HRE.out).mono ?_); rintro e w' ⟨rfl, rfl⟩)
                      | (go_at_call 19; (with_reducible refine (EN _ HRE.out).mono ?_); rintro e w' ⟨rfl, rfl⟩)
                      | (go_at_call 7; refine (alive8_any _).mono ?_; rintro e wz ⟨rfl, hbz⟩))
                    go_ret
                    exact ⟨by simp, b_tr HBE.out hbz⟩
              · subst hfn
                have hp : (0 : Int) < (l0.length : Int) := by have := List.length_pos_iff.2 h0; omega
                clear h0
                by_cases hin1 : bg ≤ a2
                · by_cases hin2 : a2 < bg + (s : Int)
                  · have KV2 := KV.out
                    rw [if_pos ⟨hin1, hin2⟩] at KV2
                    obtain ⟨i, hi⟩ : ∃ i : Nat, (a2 - bg).toNat = i := ⟨_, rfl⟩
                    have hi2 : a2 - bg = (i : Int) := by omega
                    have his : i < s := by omega
                    obtain ⟨bk, off, x, rfl, hbb, hc0, hs⟩ := R5.out.at_ (k := i) (by rw [HM.out]; exact his)
                    rw [hi, List.getD_eq_getElem?_getD, hs.out] at KV2
                    obtain ⟨rfl, rfl⟩ : kk = x ∧ ki = true := by simpa using KV2
                    clear KV KV2 hi
                    by_cases hK : 0 ≤ a1 ∧ a1 < 4
                    · obtain ⟨htn, hte⟩ := HTK.out.1 hK
                      subst htn hte
                      obtain ⟨hK0, hK1⟩ := hK
                      have hK2 : a1 ≤ 3 := by omega
                      go_wp2_with (first
                        | (go_at_call 18; (with_reducible refine (BG _ HRE.out).mono ?_); rintro e w' ⟨rfl, rfl⟩)
                        | (go_at_call 19; (with_reducible refine (EN _ HRE.out).mono ?_); rintro e w' ⟨rfl, rfl⟩)
                        | (go_at_call 7; refine (alive8_any _).mono ?_; rintro e wz ⟨rfl, hbz⟩))
                      go_ret
                      exact ⟨by simp, b_tr HBE.out hbz⟩
                    · obtain ⟨htn, hte⟩ := HTK.out.2 hK
                      subst htn hte
                      by_cases hK0 : a1 < 0
                      · clear hK
                        go_wp2_with (first
                          | (go_at_call 18; (with_reducible refine (BG _ HRE.out).mono ?_); rintro e w' ⟨rfl, rfl⟩)
                          | (go_at_call 19; (with_reducible refine (EN _ HRE.out).mono ?_); rintro e w' ⟨rfl, rfl⟩)
                          | (go_at_call 7; refine (alive8_any _).mono ?_; rintro e wz ⟨rfl, hbz⟩))
                        go_ret
                        exact ⟨by simp, b_tr HBE.out hbz⟩
                      · have hK1 : 0 ≤ a1 := by omega
                        have hK2 : 3 < a1 := by omega
                        clear hK hK0
                        go_wp2_with (first
                          | (go_at_call 18; (with_reducible refine (BG _ HRE.out).mono ?_); rintro e w' ⟨rfl, rfl⟩)
                          | (go_at_call 19; (with_reducible refine (EN _ HRE.out).mono ?_); rintro e w' ⟨rfl, rfl⟩)
                          | (go_at_call 7; refine (alive8_any _).mono ?_; rintro e wz ⟨rfl, hbz⟩))
                        go_ret
                        exact ⟨by simp, b_tr HBE.out hbz⟩
                  · have hin3 : bg + (s : Int) ≤ a2 := by omega
                    have KV2 := KV.out
                    rw [if_neg (by omega)] at KV2
                    obtain ⟨rfl, rfl⟩ : kk = 0 ∧ ki = false := by simpa using KV2
                    clear KV KV2 hin2
                    by_cases hK : 0 ≤ a1 ∧ a1 < 4
                    · obtain ⟨htn, hte⟩ := HTK.out.1 hK
                      subst htn hte
                      obtain ⟨hK0, hK1⟩ := hK
                      have hK2 : a1 ≤ 3 := by omega
                      go_wp2_with (first
                        | (go_at_call 18; (with_reducible refine (BG _ HRE.out).mono ?_); rintro e w' ⟨rfl, rfl⟩)
                        | (go_at_call 19; (with_reducible refine (EN _ HRE.out).mono ?_); rintro e w' ⟨rfl, rfl⟩)
                        | (go_at_call 7; refine (alive8_any _).mono ?_; rintro e wz ⟨rfl, hbz⟩))
                      go_ret
                      exact ⟨by simp, b_tr HBE.out hbz⟩
                    · obtain ⟨htn, hte⟩ := HTK.out.2 hK
                      subst htn hte
                      by_cases hK0 : a1 < 0
                      · clear hK
                        go_wp2_with (first
                          | (go_at_call 18; (with_reducible refine (BG _ HRE.out).mono ?_); rintro e w' ⟨rfl, rfl⟩)
                          | (go_at_call 19; (with_reducible refine (EN _ HRE.out).mono ?_); rintro e w' ⟨rfl, rfl⟩)
                          | (go_at_call 7; refine (alive8_any _).mono ?_; rintro e wz ⟨rfl, hbz⟩))
                        go_ret
                        exact ⟨by simp, b_tr HBE.out hbz⟩
                      · have hK1 : 0 ≤ a1 := by omega
                        have hK2 : 3 < a1 := by omega
                        clear hK hK0
                        go_wp2_with (first
                          | (go_at_call 18; (with_reducible refine (BG _ HRE.out).mono ?_); rintro e w' ⟨rfl, rfl⟩)
                          | (go_at_call 19; (with_reducible refine (EN _ HRE.out).mono ?_); rintro e w' ⟨rfl, rfl⟩)
                          | (go_at_call 7; refine (alive8_any _).mono ?_; rintro e wz ⟨rfl, hbz⟩))
                        go_ret
                        exact ⟨by simp, b_tr HBE.out hbz⟩
                · have hin3 : a2 < bg := by omega
                  have KV2 := KV.out
                  rw [if_neg (by omega)] at KV2
                  obtain ⟨rfl, rfl⟩ : kk = 0 ∧ ki = false := by simpa using KV2
                  clear KV KV2 hin1
                  by_cases hK : 0 ≤ a1 ∧ a1 < 4
                  · obtain ⟨htn, hte⟩ := HTK.out.1 hK
                    subst htn hte
                    obtain ⟨hK0, hK1⟩ := hK
                    have hK2 : a1 ≤ 3 := by omega
                    go_wp2_with (first
                      | (go_at_call 18; (with_reducible refine (BG _ HRE.out).mono ?_); rintro e w' ⟨rfl, rfl⟩)
                      | (go_at_call 19; (with_reducible refine (EN _ HRE.out).mono ?_); rintro e w' ⟨rfl, rfl⟩)
                      | (go_at_call 7; refine (alive8_any _).mono ?_; rintro e wz ⟨rfl, hbz⟩))
                    go_ret
                    exact ⟨by simp, b_tr HBE.out hbz⟩
                  · obtain ⟨htn, hte⟩ := HTK.out.2 hK
                    subst htn hte
                    by_cases hK0 : a1 < 0
                    · clear hK
                      go_wp2_with (first
                        | (go_at_call 18; (with_reducible refine (BG _ HRE.out).mono ?_); rintro e w' ⟨rfl, rfl⟩)
                        | (go_at_call 19; (with_reducible refine (EN _ HRE.out).mono ?_); rintro e w' ⟨rfl, rfl⟩)
                        | (go_at_call 7; refine (alive8_any _).mono ?_; rintro e wz ⟨rfl, hbz⟩))
                      go_ret
                      exact ⟨by simp, b_tr HBE.out hbz⟩
                    · have hK1 : 0 ≤ a1 := by omega
                      have hK2 : 3 < a1 := by omega
                      clear hK hK0
                      go_wp2_with (first
                        | (go_at_call 18; (with_reducible refine (BG _ HRE.out).mono ?_); rintro e w' ⟨rfl, rfl⟩)
                        | (go_at_call 19; (with_reducible refine (EN _ HRE.out).mono ?_); rintro e w' ⟨rfl, rfl⟩)
                        | (go_at_call 7; refine (alive8_any _).mono ?_; rintro e wz ⟨rfl, hbz⟩))
                      go_ret
                      exact ⟨by simp, b_tr HBE.out hbz⟩
    · have TB := fun W (h : RdR W A0 l0) => total_bad A0 c0 l0 a1 W h hl2 hc
      have KB := fun W (h : RdR W A0 l0) => kind_bad_any A0 c0 l0 a2 W h hl2 hc
      obtain ⟨p, e, hv⟩ : ∃ p e, checkV l0 = (p, e) := ⟨_, _, rfl⟩
      rw [hv] at RCK TB hc
      have e1 : (e == 0) = false := by simpa using hc
      have e2 : (e != 0) = true := by simpa using hc
      clear hc hv r0 z0
      go_enter Try.func6, Try.ntmps6
      go_wp2_with (first
        | (go_at_call 9; (with_reducible refine (RCK _ HR.out).mono ?_); rintro e w1 ⟨rfl, hb1⟩; have H1 := Lib.hid hb1; clear hb1)
        | (go_at_call 21; (with_reducible refine (TB _ (HR.out.below H1.out)).mono ?_); rintro e w2 ⟨rfl, hb2⟩; have H2 := Lib.hid (b_tr H1.out hb2); clear hb2)
        | (go_at_call 22; (with_reducible refine (KB _ (HR.out.below H2.out)).mono ?_); rintro e w3 ⟨rfl, hb3⟩; have H3 := Lib.hid (b_tr H2.out hb3); clear hb3)
        | (go_at_call 7; refine (alive8_any _).mono ?_; rintro e wz ⟨rfl, hbz⟩))
      go_ret
      exact ⟨by simp, b_tr H3.out hbz⟩

set_option maxRecDepth 100000 in
theorem lifted (os : Os) (started : os.Started) (H : Type) (enc : TypeId × Value → H) :
    ReturnsInHanded {} Try.checked os 6 .any (Rows.recordCountsSpec.pre6 enc Try.prog Try.f6 Rows.recordCountsRow.domain false) (Rows.recordCountsSpec.post enc Try.prog Try.f6 false true false false) := by
  refine returnsInHanded_of_change (C := Try.checked) own started (by kernel_rfl) Try.func6
    (ChangeSpec.witness6 (enc := enc) (C := Try.checked) false ⟨#[], #[.slice none 0 0, .int .i64 0, .int .i64 0], []⟩ 8 (by kernel_rfl) (by kernel_rfl) (by kernel_rfl) (by kernel_rfl)) ?_
  intro W base args ds gs before hval0 hW hcnd _
  have hval : ∀ (j : Nat) t v, Try.f6.params[j]? = some t → args[j]? = some v → Value.okWide Try.prog W .any base t v := hval0
  have hW' := hW
  obtain ⟨p, q, hA0, hV, rfl, hfz, hnd⟩ := hW
  have hA : DataW.TrodAll enc Try.prog W 0 (fun _ => true) true Try.f6.params.toList args.toList ds p := hA0
  rw [Try.params6] at hA hval
  obtain ⟨v0, vs0, d0, ds0, p0, q0, hargs, rfl, rfl, h0, r0⟩ := trodAll_cons hA
  obtain ⟨v1, vs1, d1, ds1, p1, q1, rfl, rfl, rfl, h1, r1⟩ := trodAll_cons r0
  obtain ⟨v2, vs2, d2, ds2, p2, q2, rfl, rfl, rfl, h2, r2⟩ := trodAll_cons r1
  obtain ⟨rfl, rfl, rfl⟩ := trodAll_nil r2
  obtain rfl : args = #[v0, v1, v2] := by cases args; simp_all
  obtain ⟨rfl, rfl⟩ := trodVars_none hV
  have k0 := h0
  have lt0 : ∀ x ∈ p0, x.block < W.heap.size := by obtain ⟨m, hm⟩ := k0; exact DataW.trod_lt m _ _ _ hm
  obtain ⟨A0, n0, c0, l0, rfl, rfl, rd0, zz0⟩ := open_recs (hval 0 22 v0 rfl rfl) h0
  obtain ⟨a1, rfl, rfl, rfl, w1⟩ := open_int Try.underlying3 (hval 1 3 v1 rfl rfl) h1
  obtain ⟨a2, rfl, rfl, rfl, w2⟩ := open_int Try.underlying3 (hval 2 3 v2 rfl rfl) h2
  clear hA0 hval0
  refine (walk W A0 c0 l0 rd0 zz0 a1 w1 a2 w2).mono fun e W' ⟨he, bel⟩ => ?_
  subst he
  exact ⟨_, rfl, _, _, _, [], _, [], hW', trodAll_mk1 (shut_bool Try.underlying4 _), (trodAll_cons_mk (Below.trod laidOut (by kernel_rfl) (of_decide_eq_true (by kernel_rfl)) k0 bel lt0) (trodAll_cons_mk (shut_int Try.underlying3 w1) (trodAll_cons_mk (shut_int Try.underlying3 w2) trodAll_mk0))), rfl, bel.frame _, fun h => by cases h⟩

theorem over : Rows.recordCountsRow.holds Try.pinned (OpenSpec.ofChange Rows.recordCountsSpec) :=
  OpenClaim.holds_of_wide 6 Try.f6 rfl rfl rfl rfl rfl rfl rfl ⟨rfl, rfl, rfl, rfl, rfl⟩ rfl rfl rfl rfl rfl (by kernel_rfl) Try.func6 (by kernel_rfl)
    (of_decide_eq_true (by kernel_rfl)) (by unfold Func.isWrapper; first | (rw [if_pos (by decide +kernel)]; kernel_rfl) | (rw [if_neg (by decide +kernel)]; exact ⟨rfl, rfl⟩))
    (fun os started H enc _ => lifted os started H enc)

theorem proved : Rows.RecordCountsSaid := over
#print axioms proved
end Go.Proofs.Ytbfjhhijhkhnkaa.recordCounts
