/- What the document's own Spells of layer 9 returns. Conditions: at most a million letters. -/
import Derived.Test.YtllinfcdbbmjaaaRows
import Derived.Test.YtllinfcdbbmjaaaBase
import Derived.Test.YtllinfcdbbmjaaaRow
import Derived.Test.YtllinfcdbbmjaaaRecMath
import Derived.Test.YtllinfcdbbmjaaaIvalsWords
import Derived.Test.YtllinfcdbbmjaaaIvalsOwn
import Derived.Test.YtllinfcdbbmjaaaOwnMore
import Derived.Test.YtllinfcdbbmjaaaViewMath
import Derived.Test.YtllinfcdbbmjaaaViewLeaf
import Derived.Test.YtllinfcdbbmjaaaViewSpells
import Derived.WalkKit
import Derived.WalkSpells
import Derived.WalkSmall
import Derived.Below
import Derived.Lib.Hide
import Derived.Outline
import Derived.OwnWalk
import Derived.BigQuiet
import Derived.Deep.QuietTactic
namespace Go.Proofs.Ytllinfcdbbmjaaa
open Go.RowKit

set_option maxRecDepth 100000 in
set_option maxHeartbeats 4000000 in
theorem refspells9_any (s : ByteArray) (kind : Int) (w : World) (hs : s.size ≤ 1000000) :
    Calls Try.prog 19 #[.string s, .int .i64 kind] w fun e w' => ∃ v, e = .returned v ∧ Own w.heap.size w' v (spellsV s kind) ∧ Below w.heap.size w w' := by
  obtain ⟨i0, hi, hz0, hz1, hz2⟩ := info_parts info_span
  have HV := Lib.hid (show spells (fun i => hasK kind (bt s i)) s.size = spellsV s kind from rfl)
  go_enter Try.func19, Try.ntmps19
  go_wp2
  go_loopw [5, 6] (fun v i wr => ∃ (k n : Nat) (A' : Option Addr) (c' : Nat), k ≤ s.size ∧ i = .int .i64 k ∧ v = .slice A' n c' ∧ Hid ((spells (fun i => hasK kind (bt s i)) k).length = n) ∧ n ≤ k ∧
      Hid (Own w.heap.size wr (.slice A' n c') (spells (fun i => hasK kind (bt s i)) k)) ∧ Below w.heap.size w wr) (fun _ i _ => s.size - (intOf i).toNat)
  case atStart => exact ⟨0, 0, none, 0, Nat.zero_le _, rfl, rfl, Lib.hid rfl, Nat.le_refl _, Lib.hid (Own.nil _ _), Below.refl _ _⟩
  case round =>
    obtain ⟨k, n, A', c', hk, rfl, rfl, HLN, hnk, hown, hb⟩ := hrel
    have hsz := hb.size
    by_cases hlt : k < s.size
    · have hhd : hasK kind (bt s k) = (isL ((s[k]'hlt).toNat : Int) && decide (kindB ((s[k]'hlt).toNat : Int) = kind)) := by rw [bt_at s k hlt]; rfl
      have hnb : (spells (fun i => hasK kind (bt s i)) k).length ≤ 1000000 := by rw [HLN.out]; omega
      have KD := fun W => refkind_any ((s[k]'hlt).toNat : Int) W
      obtain ⟨x, hx⟩ : ∃ x, kindB ((s[k]'hlt).toNat : Int) = x := ⟨_, rfl⟩
      obtain ⟨L, hL⟩ : ∃ L, isL ((s[k]'hlt).toNat : Int) = L := ⟨_, rfl⟩
      rw [hx, hL] at KD hhd
      clear hx hL
      cases L with
      | false =>
        have hh : (fun i => hasK kind (bt s i)) k = false := by show hasK kind (bt s k) = false; rw [hhd]; rfl
        have HE2 := Lib.hid (spells_no (h := fun i => hasK kind (bt s i)) hh)
        clear hhd hh
        go_wp2_with (go_at_call 15; refine (KD _).mono ?_; rintro e w1 ⟨rfl, rfl⟩)
        go_roundw
        case rel => exact ⟨k + 1, n, A', c', by omega, by go_num, rfl, Lib.hid (by rw [HE2.out]; exact HLN.out), by omega, Lib.hid (by rw [HE2.out]; exact hown.out), hb⟩
        case measure => simp [intOf]; omega
      | true =>
        by_cases hq : x = kind
        · have hh : (fun i => hasK kind (bt s i)) k = true := by show hasK kind (bt s k) = true; rw [hhd]; simp [hq]
          have e1 : (x == kind) = true := by simpa using hq
          have e2 : (x != kind) = false := by simpa using hq
          clear hhd hq
          by_cases hp : 0 < k ∧ (fun i => hasK kind (bt s i)) (k - 1) = true
          · have hkb : k - 1 < s.size := by omega
            have heq : bt s (k - 1) = bt s k := hasK_same hp.2 hh
            obtain ⟨i1, hi1⟩ : ∃ i1, k - 1 = i1 := ⟨_, rfl⟩
            rw [hi1] at hkb heq
            have g1 : (((s[i1]'hkb).toNat : Int) == ((s[k]'hlt).toNat : Int)) = true := by rw [bt_at s i1 hkb, bt_at s k hlt, heq]; simp
            have g2 : (k : Int) - 1 = (i1 : Int) := by omega
            have g3 : IntKind.i64.wrap (i1 : Int) = (i1 : Int) := IntWalk.i64_in _ ⟨by omega, by omega⟩
            have g4 : decide ((0 : Int) < (k : Int)) = true := decide_eq_true (by omega)
            have g5 : (i1 : Int) < (s.size : Int) := by omega
            have g6 : (k : Int) < (s.size : Int) := by omega
            have g7 : (0 : Int) ≤ (i1 : Int) := by omega
            have g8 : decide (0 < k) = true := decide_eq_true hp.1
            have g9 : (0 : Int) ≤ (k : Int) := by omega
            obtain ⟨o, a, he, he2⟩ := spells_ext (h := fun i => hasK kind (bt s i)) hh hp
            have HE2 := Lib.hid he2
            have HOW : Hid (Own w.heap.size wr (.slice A' n c') (o ++ [(a, (k : Int))])) := Lib.hid (by rw [← he]; exact hown.out)
            have hln : (o ++ [(a, (k : Int))]).length = n := by rw [← he]; exact HLN.out
            have HLN2 := Lib.hid hln
            obtain ⟨j, hj⟩ : ∃ j, o.length = j := ⟨_, rfl⟩
            have HJ := Lib.hid hj
            have hnj : (n : Int) - 1 = (j : Int) := by rw [← hln, List.length_append, hj]; simp
            have hjn : j < n := by rw [← hln, List.length_append, hj]; simp
            have hg : decide ((0 : Int) ≤ (j : Int)) = true := decide_eq_true (by omega)
            obtain ⟨A2, c2, hv2, hr2, _, _⟩ := HOW.out.form
            injection hv2 with q1 q2 q3
            subst q1 q3
            clear q2
            obtain ⟨bo, oo, x, y, rfl, hbo, hc1, hc2, hxy⟩ := hr2.at_ (k := j) (by rw [hln]; exact hjn)
            obtain ⟨rfl, hgb, hfz⟩ := own_some HOW.out
            rw [Nat.zero_add] at hc1 hc2
            have hy := hxy.out
            rw [← hj] at hy
            simp at hy
            obtain ⟨rfl, rfl⟩ := hy
            have hfz2 := hfz (j * 2 + 1)
            clear hj hln he he2 hp hh hfz hr2 hown hxy heq hi1
            go_wp2_with (go_at_call 15; refine (KD _).mono ?_; rintro e w1 ⟨rfl, rfl⟩)
            go_quiet (fail)
            go_wp2
            go_roundw
            case rel => exact ⟨k + 1, n, _, c', by omega, by go_num, rfl, Lib.hid (by rw [HE2.out, List.length_append, ← HLN2.out, List.length_append]; rfl), by omega, Lib.hid (by rw [HE2.out]; have h1 := own_joined (j := j) (z := (k : Int) + 1) (l' := o ++ [(a, (k : Int) + 1)]) HOW.out HLN2.out (by simp) (by rw [← HJ.out, flat_set]); exact h1), (b_dn hb).setCell (p := ⟨bo, j * 2 + 1, none⟩) hgb _⟩
            case measure => simp [intOf]; omega
          · have HE2 := Lib.hid (spells_app (h := fun i => hasK kind (bt s i)) hh hp)
            by_cases hk0 : k = 0
            · have g4 : decide ((0 : Int) < (k : Int)) = false := by rw [hk0]; rfl
              have g8 : decide (0 < k) = false := by rw [hk0]; rfl
              clear hp hh hk0
              go_wp2_with (go_at_call 15; refine (KD _).mono ?_; rintro e w1 ⟨rfl, rfl⟩)
              go_quiet (fail)
              go_wp2_with (at_builtin; refine wpList_append_own _ rfl _ _ 37 rfl w.heap.size 54 i0 (.agg #[.int .i64 0, .int .i64 0]) 2 16 Try.underlying37 hi hz0 hz1 hz2 rfl (by decide) _ _ _ rfl (Own.alloc (Own.below hown.out (b_dn (Below.refl _ _))) _) ⟨wr.heap.size, 0, none⟩ 1 1 [.int .i64 (k : Int), .int .i64 ((k : Int) + 1)] rfl rfl one_news one_cell2 (by unfold maxLen; omega) (by omega) (by have := hb.size; simp; omega) ?_; intro v5 w5 hown5 hgrow5 _; have HS := Lib.hid (Own.snoc hown5); have HB5 := Lib.hid (((b_dn hb).alloc hb.size (.cells #[.int .i64 (k : Int), .int .i64 ((k : Int) + 1)] 54)).grown hgrow5 (by have := hb.size; simp; omega) (fun q hq => (World.ownsRow.lt hown.out q hq).1)); clear hown5 hgrow5)
              obtain ⟨A5, c5, rfl, _, _, _⟩ := HS.out.form
              have HL5 := Lib.hid (show (spells (fun i => hasK kind (bt s i)) k ++ [((k : Int), (k : Int) + 1)]).length = n + 1 by rw [List.length_append, HLN.out]; rfl)
              rw [HL5.out]
              go_wp2
              go_roundw
              case rel => exact ⟨k + 1, n + 1, A5, c5, by omega, by go_num, rfl, Lib.hid (by rw [HE2.out]; exact HL5.out), by omega, Lib.hid (by rw [HE2.out]; have := HS.out; rw [HL5.out] at this; exact this), HB5.out⟩
              case measure => simp [intOf]; omega
            · have hkb : k - 1 < s.size := by omega
              have heq : bt s (k - 1) ≠ bt s k := fun c => hp ⟨by omega, by show hasK kind (bt s (k - 1)) = true; rw [c]; exact hh⟩
              obtain ⟨i1, hi1⟩ : ∃ i1, k - 1 = i1 := ⟨_, rfl⟩
              rw [hi1] at hkb heq
              have g1 : (((s[i1]'hkb).toNat : Int) == ((s[k]'hlt).toNat : Int)) = false := by rw [bt_at s i1 hkb, bt_at s k hlt]; simpa using heq
              have g2 : (k : Int) - 1 = (i1 : Int) := by omega
              have g3 : IntKind.i64.wrap (i1 : Int) = (i1 : Int) := IntWalk.i64_in _ ⟨by omega, by omega⟩
              have g4 : decide ((0 : Int) < (k : Int)) = true := decide_eq_true (by omega)
              have g5 : (i1 : Int) < (s.size : Int) := by omega
              have g6 : (k : Int) < (s.size : Int) := by omega
              have g7 : (0 : Int) ≤ (i1 : Int) := by omega
              have g8 : decide (0 < k) = true := decide_eq_true (by omega)
              have g9 : (0 : Int) ≤ (k : Int) := by omega
              clear hp hh hk0 heq hi1
              go_wp2_with (go_at_call 15; refine (KD _).mono ?_; rintro e w1 ⟨rfl, rfl⟩)
              go_quiet (fail)
              go_wp2_with (at_builtin; refine wpList_append_own _ rfl _ _ 37 rfl w.heap.size 54 i0 (.agg #[.int .i64 0, .int .i64 0]) 2 16 Try.underlying37 hi hz0 hz1 hz2 rfl (by decide) _ _ _ rfl (Own.alloc (Own.below hown.out (b_dn (Below.refl _ _))) _) ⟨wr.heap.size, 0, none⟩ 1 1 [.int .i64 (k : Int), .int .i64 ((k : Int) + 1)] rfl rfl one_news one_cell2 (by unfold maxLen; omega) (by omega) (by have := hb.size; simp; omega) ?_; intro v5 w5 hown5 hgrow5 _; have HS := Lib.hid (Own.snoc hown5); have HB5 := Lib.hid (((b_dn hb).alloc hb.size (.cells #[.int .i64 (k : Int), .int .i64 ((k : Int) + 1)] 54)).grown hgrow5 (by have := hb.size; simp; omega) (fun q hq => (World.ownsRow.lt hown.out q hq).1)); clear hown5 hgrow5)
              obtain ⟨A5, c5, rfl, _, _, _⟩ := HS.out.form
              have HL5 := Lib.hid (show (spells (fun i => hasK kind (bt s i)) k ++ [((k : Int), (k : Int) + 1)]).length = n + 1 by rw [List.length_append, HLN.out]; rfl)
              rw [HL5.out]
              go_wp2
              go_roundw
              case rel => exact ⟨k + 1, n + 1, A5, c5, by omega, by go_num, rfl, Lib.hid (by rw [HE2.out]; exact HL5.out), by omega, Lib.hid (by rw [HE2.out]; have := HS.out; rw [HL5.out] at this; exact this), HB5.out⟩
              case measure => simp [intOf]; omega
        · have hh : (fun i => hasK kind (bt s i)) k = false := by show hasK kind (bt s k) = false; rw [hhd]; simp [hq]
          have HE2 := Lib.hid (spells_no (h := fun i => hasK kind (bt s i)) hh)
          have e1 : (x == kind) = false := by simpa using hq
          have e2 : (x != kind) = true := by simpa using hq
          clear hhd hq hh
          go_wp2_with (go_at_call 15; refine (KD _).mono ?_; rintro e w1 ⟨rfl, rfl⟩)
          go_roundw
          case rel => exact ⟨k + 1, n, A', c', by omega, by go_num, rfl, Lib.hid (by rw [HE2.out]; exact HLN.out), by omega, Lib.hid (by rw [HE2.out]; exact hown.out), hb⟩
          case measure => simp [intOf]; omega
    · have hks : k = s.size := by omega
      have HO2 : Hid (Own w.heap.size wr (.slice A' n c') (spellsV s kind)) := Lib.hid (by rw [← HV.out, ← hks]; exact hown.out)
      clear hks
      go_wp2
      go_ret
      exact ⟨_, rfl, HO2.out, hb⟩

end Go.Proofs.Ytllinfcdbbmjaaa
