/- What the document's Legs, Peak and Ease of layer 21 return. Conditions: the loads can be read; for Legs and Peak they may be, for Ease they are at most a million. -/
import Derived.Test.YthgdclcmohgciaaRows
import Derived.Test.YthgdclcmohgciaaBase
import Derived.Test.YthgdclcmohgciaaRow
import Derived.Test.YthgdclcmohgciaaRecMath
import Derived.Test.YthgdclcmohgciaaRecHeap
import Derived.Test.YthgdclcmohgciaaIntsSame
import Derived.Test.YthgdclcmohgciaaApart
import Derived.Test.YthgdclcmohgciaaLoadMath
import Derived.WalkKit
import Derived.WalkSpells
import Derived.WalkSmall
import Derived.Below
import Derived.OwnWalk
import Derived.Outline
import Derived.Lib.Hide
namespace Go.Proofs.Ythgdclcmohgciaa
open Go.RowKit

theorem rv_up {leg j : Nat} {x : Int} (h : 0 < x) (h1 : leg ≤ j) : rv leg j x = x := by unfold rv; rw [if_pos ⟨h, h1⟩]
theorem rv_dn {leg j : Nat} {x : Int} (h : x < 0) (h1 : j < leg) : rv leg j x = -x := by unfold rv; rw [if_neg (by omega), if_pos ⟨h, h1⟩]
theorem rv_no {leg j : Nat} {x : Int} (h : ¬ (0 < x ∧ leg ≤ j)) (h1 : ¬ (x < 0 ∧ j < leg)) : rv leg j x = 0 := by unfold rv; rw [if_neg h, if_neg h1]
theorem refN_more (l : List Int) (leg i : Nat) : refN l leg (i + 1) = refN l leg i + rv leg i (l.getD i 0) := rfl

set_option maxHeartbeats 1600000 in
theorem reflegs21_any (A : Option Addr) (c n : Nat) (l : List Int) (w : World) (hn : Hid (l.length = n)) (hr : RdN w A l) (h0 : chkL l = 0) :
    Calls Try.prog 12 #[.slice A n c] w fun e w' => ∃ v, e = .returned v ∧ OwnN w.heap.size w' v (legsV l) ∧ Below w.heap.size w w' := by
  obtain ⟨hl, hF⟩ := chkL_ok h0
  rw [hn.out] at hl
  have HR := Lib.hid hr
  have HB := Lib.hid fun leg i => refN_bd hF leg i
  have HFW := Lib.hid fun k => few_getD hF k
  clear hr h0 hF
  go_enter Try.func12, Try.ntmps12
  go_wp2
  go_loopw [3, 4] (fun v i wr => ∃ leg : Nat, leg ≤ n + 1 ∧ i = .int .i64 leg ∧ Hid (OwnN w.heap.size wr v (legsTo l leg)) ∧ Below w.heap.size w wr) (fun _ i _ => n + 1 - (intOf i).toNat)
  case atStart => exact ⟨0, Nat.zero_le _, rfl, Lib.hid (OwnN.nil _ _), Below.refl _ _⟩
  case round =>
    obtain ⟨leg, hk, rfl, HO, hb⟩ := hrel
    obtain ⟨w3, rfl⟩ : ∃ w3 : World, w3 = wr := ⟨_, rfl⟩
    have hsz := hb.size
    by_cases hlt : leg ≤ n
    · have HLT := Lib.hid (legsTo_len l leg)
      have HMT := Lib.hid (legsTo_more l leg)
      have HAL := Lib.hid (refN_all l (leg := leg) (by rw [hn.out]; exact hlt))
      go_wp2
      go_loop [5, 6] (fun m i => ∃ (k : Nat) (a : Int), k ≤ n ∧ i = .int .i64 k ∧ m = .int .i64 a ∧ 0 ≤ a ∧ a ≤ 1000000 * (k : Int) ∧ Hid (refN l leg k = a)) (fun _ i => n - (intOf i).toNat)
      case atStart => exact ⟨0, 0, Nat.zero_le _, rfl, rfl, Int.le_refl _, by simp, Lib.hid rfl⟩
      case round =>
        obtain ⟨k, a, hk2, rfl, rfl, ha0, ha1, HA⟩ := hrel
        by_cases hlt2 : k < n
        · obtain ⟨b, off, x, rfl, hbb, hc0, hs⟩ := HR.out.getD (k := k) (by rw [hn.out]; exact hlt2)
          rw [← hb.cell (p := ⟨b, _, none⟩) hbb] at hc0
          have HM := Lib.hid (refN_more l leg k)
          rw [HA.out, hs.out] at HM
          have hB := HB.out leg (k + 1)
          have hfx := HFW.out k
          rw [hs.out] at hfx
          unfold Few21 at hfx
          obtain ⟨hf0, hf1⟩ := hfx
          have hi0 : (k : Int) < (n : Int) := by omega
          by_cases hx : 0 < x
          · by_cases hge : leg ≤ k
            · have e := rv_up hx hge
              rw [e] at HM
              rw [HM.out] at hB
              obtain ⟨hB0, hB1⟩ := hB
              have hg : (leg : Int) ≤ (k : Int) := by omega
              clear e
              go_wp2
              go_round
              case rel => exact ⟨k + 1, a + x, by omega, by go_num, rfl, hB0, hB1, HM⟩
              case measure => simp [intOf]; omega
            · have e := rv_no (leg := leg) (j := k) (x := x) (by omega) (by omega)
              rw [e] at HM
              rw [HM.out] at hB
              obtain ⟨hB0, hB1⟩ := hB
              have hg : (k : Int) < (leg : Int) := by omega
              clear e
              go_wp2
              go_round
              case rel => exact ⟨k + 1, a + 0, by omega, by go_num, by simp, hB0, hB1, HM⟩
              case measure => simp [intOf]; omega
          · by_cases hx2 : x < 0
            · by_cases hge : k < leg
              · have e := rv_dn hx2 hge
                rw [e] at HM
                rw [HM.out] at hB
                obtain ⟨hB0, hB1⟩ := hB
                have hg : (k : Int) < (leg : Int) := by omega
                clear e
                go_wp2
                go_round
                case rel => exact ⟨k + 1, a + -x, by omega, by go_num, by (congr 1), hB0, hB1, HM⟩
                case measure => simp [intOf]; omega
              · have e := rv_no (leg := leg) (j := k) (x := x) (by omega) (by omega)
                rw [e] at HM
                rw [HM.out] at hB
                obtain ⟨hB0, hB1⟩ := hB
                have hg : (leg : Int) ≤ (k : Int) := by omega
                clear e
                go_wp2
                go_round
                case rel => exact ⟨k + 1, a + 0, by omega, by go_num, by simp, hB0, hB1, HM⟩
                case measure => simp [intOf]; omega
            · have e := rv_no (leg := leg) (j := k) (x := x) (by omega) (by omega)
              rw [e] at HM
              rw [HM.out] at hB
              obtain ⟨hB0, hB1⟩ := hB
              clear e
              go_wp2
              go_round
              case rel => exact ⟨k + 1, a + 0, by omega, by go_num, by simp, hB0, hB1, HM⟩
              case measure => simp [intOf]; omega
        · obtain rfl : k = n := by omega
          have HQ := Lib.hid (by have h1 := HAL.out; rw [hn.out, HA.out] at h1; exact h1 : a = legAt l leg)
          go_wp2_with (at_builtin; refine wpList_snoc_int rfl _ _ rfl w.heap.size _ _ rfl (OwnN.alloc HO.out _) w3.heap.size a rfl (by simp) (by rw [HLT.out]; omega) (by simp; omega) (fun v5 w5 ho5 hg5 hq5 => ?_); have HS5 := Lib.hid ho5; have HB5 := Lib.hid ((hb.alloc hb.size (.cells #[.int .i64 a] 3)).grown hg5 (by simp; omega) (fun q hq => (World.ownsRow.lt HO.out q hq).1)); clear ho5 hg5 hq5)
          go_roundw
          case rel => exact ⟨leg + 1, by omega, by go_num, Lib.hid (by rw [HMT.out, ← HQ.out]; exact HS5.out), HB5.out⟩
          case measure => simp [intOf]; omega
    · obtain rfl : leg = n + 1 := by omega
      have HQ : Hid (legsTo l (n + 1) = legsV l) := Lib.hid (by rw [← legsTo_all, hn.out])
      rw [HQ.out] at HO
      have hg : (n : Int) < ((n + 1 : Nat) : Int) := by omega
      go_wp2
      go_ret
      exact ⟨_, rfl, HO.out, hb⟩

theorem refpeak21_any (A : Option Addr) (c n : Nat) (l : List Int) (w : World) (hn : Hid (l.length = n)) (hr : RdN w A l) (h0 : chkL l = 0) :
    Calls Try.prog 13 #[.slice A n c] w fun e w' => e = .returned (.int .i64 (peakV l)) ∧ Below w.heap.size w w' := by
  have LG := reflegs21_any A c n l w hn hr h0
  obtain ⟨hl, _⟩ := chkL_ok h0
  rw [hn.out] at hl
  have HN : Hid ((legsV l).length = n + 1) := Lib.hid (by rw [legsV_len, hn.out])
  have HP : Hid (peakV l = pk (legsV l) (n + 1)) := Lib.hid (by unfold peakV; rw [hn.out])
  generalize legsV l = L at *
  clear hr h0
  go_enter Try.func13, Try.ntmps13
  go_wp2_with (first
    | (go_at_call 12; (with_reducible refine LG.mono ?_); rintro e w1 ⟨v, rfl, hv, hb1⟩; have HB1 := Lib.hid hb1; obtain ⟨A5, c5, rfl, hr5⟩ := hv.read; rw [HN.out]; have HR5 := Lib.hid hr5; clear hv hb1 hr5))
  go_loop [3, 5] (fun m i => ∃ (k : Nat) (y : Int), k ≤ n + 1 ∧ i = .int .i64 k ∧ m = .int .i64 y ∧ Hid (pk L k = y)) (fun _ i => n + 1 - (intOf i).toNat)
  case atStart => exact ⟨0, 0, Nat.zero_le _, rfl, rfl, Lib.hid rfl⟩
  case round =>
    obtain ⟨k, y, hk, rfl, rfl, HY⟩ := hrel
    by_cases hlt : k < n + 1
    · obtain ⟨b, off, x, rfl, hbb, hc0, hs⟩ := HR5.out.getD (k := k) (by rw [HN.out]; exact hlt)
      have HM : Hid (pk L (k + 1) = max y x) := Lib.hid (by show max (pk L k) (L.getD k 0) = _; rw [HY.out, hs.out])
      have hi : (k : Int) < ((n + 1 : Nat) : Int) := by omega
      by_cases hx : y < x
      · rw [Int.max_eq_right (Int.le_of_lt hx)] at HM
        go_wp2
        go_round
        case rel => exact ⟨k + 1, x, by omega, by go_num, rfl, HM⟩
        case measure => simp [intOf]; omega
      · rw [Int.max_eq_left (Int.not_lt.1 hx)] at HM
        go_wp2
        go_round
        case rel => exact ⟨k + 1, y, by omega, by go_num, rfl, HM⟩
        case measure => simp [intOf]; omega
    · obtain rfl : k = n + 1 := by omega
      go_wp2
      go_ret
      rw [HP.out, HY.out]
      exact ⟨rfl, HB1.out⟩

theorem kin_more (q : Nat) (l : List Int) {k : Nat} (h : k < l.length) (hx : kin q (l.getD k 0) = true) : (l.take (k + 1)).filter (kin q) = (l.take k).filter (kin q) ++ [l.getD k 0] := by
  rw [take_more l h, List.filter_append, List.filter_cons_of_pos hx]; rfl
theorem kin_same (q : Nat) (l : List Int) {k : Nat} (h : k < l.length) (hx : kin q (l.getD k 0) = false) : (l.take (k + 1)).filter (kin q) = (l.take k).filter (kin q) := by
  rw [take_more l h, List.filter_append, List.filter_cons_of_neg (by rw [hx]; simp)]; simp

set_option maxHeartbeats 1600000 in
theorem refease21_any (A : Option Addr) (c n : Nat) (l : List Int) (w : World) (hn : Hid (l.length = n)) (hr : RdN w A l) (hl : n ≤ 100000) :
    Calls Try.prog 15 #[.slice A n c] w fun e w' => ∃ v, e = .returned v ∧ OwnN w.heap.size w' v (easeV l) ∧ Below w.heap.size w w' := by
  have HR := Lib.hid hr
  have HLE := Lib.hid (fun q => by have h1 := List.length_filter_le (kin q) l; rw [hn.out] at h1; exact h1 : ∀ q, (l.filter (kin q)).length ≤ n)
  have HLT := Lib.hid (fun q k => Nat.le_trans (List.length_filter_le (kin q) (l.take k)) (by rw [List.length_take, hn.out]; exact Nat.min_le_right ..) : ∀ q k, ((l.take k).filter (kin q)).length ≤ n)
  have HE : Hid (l.filter (kin 0) ++ l.filter (kin 1) = easeV l) := Lib.hid (by rw [kin_zero, kin_one]; rfl)
  clear hr
  go_enter Try.func15, Try.ntmps15
  go_wp2
  go_loopw [3, 4] (fun v i wr => ∃ (q : Nat) (L : List Int), q ≤ 2 ∧ i = .int .i64 q ∧ L.length ≤ q * n ∧ Hid ((q = 0 → L = []) ∧ (q = 1 → L = l.filter (kin 0)) ∧ (q = 2 → L = easeV l)) ∧ Hid (OwnN w.heap.size wr v L) ∧ Below w.heap.size w wr) (fun _ i _ => 2 - (intOf i).toNat)
  case atStart => exact ⟨0, [], Nat.zero_le _, rfl, by simp, Lib.hid ⟨fun _ => rfl, by omega, by omega⟩, Lib.hid (OwnN.nil _ _), Below.refl _ _⟩
  case round =>
    obtain ⟨q, L, hq, rfl, hLq, HQ, HO, hb⟩ := hrel
    obtain ⟨w3, rfl⟩ : ∃ w3 : World, w3 = wr := ⟨_, rfl⟩
    have hsz := hb.size
    by_cases hlt : q < 2
    · have hqn : L.length ≤ n := by
        have : q = 0 ∨ q = 1 := by omega
        rcases this with rfl | rfl <;> omega
      have hi2 : (q : Int) < 2 := by omega
      have HLQ := Lib.hid hLq
      have HON := Lib.hid hqn
      clear hLq hqn
      go_wp2
      go_loopw [3, 5] (fun v i w4 => ∃ k : Nat, k ≤ n ∧ i = .int .i64 k ∧ Hid (OwnN w.heap.size w4 v (L ++ (l.take k).filter (kin q))) ∧ Below w.heap.size w w4) (fun _ i _ => n - (intOf i).toNat)
      case atStart => exact ⟨0, Nat.zero_le _, rfl, Lib.hid (by simpa using HO.out), hb⟩
      case round =>
        obtain ⟨k, hk, rfl, HO4, hb4⟩ := hrel
        obtain ⟨w4, rfl⟩ : ∃ w4 : World, w4 = wr := ⟨_, rfl⟩
        have hsz4 := hb4.size
        by_cases hlt2 : k < n
        · obtain ⟨b, off, x, rfl, hbb, hc0, hs⟩ := HR.out.getD (k := k) (by rw [hn.out]; exact hlt2)
          rw [← hb4.cell (p := ⟨b, _, none⟩) hbb] at hc0
          have hi0 : (k : Int) < (n : Int) := by omega
          cases hkin : kin q x with
          | true =>
            have HM := Lib.hid (kin_more q l (k := k) (by rw [hn.out]; exact hlt2) (by rw [hs.out]; exact hkin))
            rw [hs.out] at HM
            have HL4 : Hid ((L ++ (l.take k).filter (kin q)).length ≤ 1000000) := Lib.hid (by rw [List.length_append]; have := HLT.out q k; have := HON.out; omega)
            have hkd : (decide (0 < x) == ((q : Int) == 0)) = true := by
              unfold kin at hkin
              rw [decide_eq_true_eq] at hkin
              rw [hkin]
              have e : ((q : Int) == 0) = decide (q = 0) := by rw [Bool.eq_iff_iff]; simp
              rw [e]; simp
            clear hkin
            go_wp2_with (at_builtin; refine wpList_snoc_int rfl _ _ rfl w.heap.size _ _ rfl (OwnN.alloc HO4.out _) w4.heap.size x rfl (by simp) HL4.out (by simp; omega) (fun v5 w5 ho5 hg5 hq5 => ?_); have HS5 := Lib.hid ho5; have HB5 := Lib.hid ((hb4.alloc hb4.size (.cells #[.int .i64 x] 3)).grown hg5 (by simp; omega) (fun q hq => (World.ownsRow.lt HO4.out q hq).1)); clear ho5 hg5 hq5)
            go_roundw
            case rel => exact ⟨k + 1, by omega, by go_num, Lib.hid (by rw [HM.out, ← List.append_assoc]; exact HS5.out), HB5.out⟩
            case measure => simp [intOf]; omega
          | false =>
            have HM := Lib.hid (kin_same q l (k := k) (by rw [hn.out]; exact hlt2) (by rw [hs.out]; exact hkin))
            have hkd : (decide (0 < x) == ((q : Int) == 0)) = false := by
              unfold kin at hkin
              rw [decide_eq_false_iff_not] at hkin
              have e : ((q : Int) == 0) = decide (q = 0) := by rw [Bool.eq_iff_iff]; simp
              rw [e]
              exact beq_eq_false_iff_ne.2 hkin
            clear hkin
            go_wp2
            go_roundw
            case rel => exact ⟨k + 1, by omega, by go_num, Lib.hid (by rw [HM.out]; exact HO4.out), hb4⟩
            case measure => simp [intOf]; omega
        · have hkl : l.take k = l := List.take_of_length_le (by rw [hn.out]; omega)
          rw [hkl] at HO4
          have HN5 : Hid ((L ++ l.filter (kin q)).length ≤ (q + 1) * n) := Lib.hid (by rw [List.length_append, Nat.add_mul, Nat.one_mul]; have := HLE.out q; have := HLQ.out; omega)
          have HQ5 : Hid ((q + 1 = 0 → L ++ l.filter (kin q) = []) ∧ (q + 1 = 1 → L ++ l.filter (kin q) = l.filter (kin 0)) ∧ (q + 1 = 2 → L ++ l.filter (kin q) = easeV l)) := Lib.hid ⟨by omega, fun e => by
            obtain rfl : q = 0 := by omega
            rw [HQ.out.1 rfl]; rfl, fun e => by
            obtain rfl : q = 1 := by omega
            rw [HQ.out.2.1 rfl, HE.out]⟩
          clear hkl
          go_wp2
          go_roundw
          case rel => exact ⟨q + 1, _, by omega, by go_num, HN5.out, HQ5, HO4, hb4⟩
          case measure => simp [intOf]; omega
    · obtain rfl : q = 2 := by omega
      rw [HQ.out.2.2 rfl] at HO
      clear hLq
      go_wp2
      go_ret
      exact ⟨_, rfl, HO.out, hb⟩

end Go.Proofs.Ythgdclcmohgciaa
