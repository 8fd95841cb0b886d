/- What Spells of layer 9 returns: the spells of a kind in letters. Conditions: at most a million letters. -/
import Derived.Test.YtllinfcdbbmjaaaRows
import Derived.Test.YtllinfcdbbmjaaaBase
import Derived.Test.YtllinfcdbbmjaaaRow
import Derived.Test.YtllinfcdbbmjaaaRecMath
import Derived.Test.YtllinfcdbbmjaaaIvalsWords
import Derived.Test.YtllinfcdbbmjaaaIvalsOwn
import Derived.Test.YtllinfcdbbmjaaaOwnMore
import Derived.Test.YtllinfcdbbmjaaaViewMath
import Derived.Test.YtllinfcdbbmjaaaViewLeaf
import Derived.WalkKit
import Derived.WalkSpells
import Derived.WalkSmall
import Derived.Below
import Derived.Lib.Hide
import Derived.Outline
import Derived.OwnWalk
import Derived.BigQuiet
import Derived.Deep.QuietTactic
namespace Go.Proofs.Ytllinfcdbbmjaaa
open Go.RowKit

theorem spells_app {h : Nat → Bool} {k : Nat} (hk : h k = true) (hp : ¬ (0 < k ∧ h (k - 1) = true)) : spells h (k + 1) = spells h k ++ [((k : Int), (k : Int) + 1)] := by
  rw [spells_yes hk]
  rcases List.eq_nil_or_concat (spells h k) with e | ⟨o, ⟨a, b⟩, e⟩
  · rw [e, spell_nil]; rfl
  · rw [List.concat_eq_append] at e
    rw [e, spell_other o (fun c => hp (((spells_last h k).1 o a b e).2.2.1 c))]

theorem spells_ext {h : Nat → Bool} {k : Nat} (hk : h k = true) (hp : 0 < k ∧ h (k - 1) = true) : ∃ o a, spells h k = o ++ [(a, (k : Int))] ∧ spells h (k + 1) = o ++ [(a, (k : Int) + 1)] := by
  rcases List.eq_nil_or_concat (spells h k) with e | ⟨o, ⟨a, b⟩, e⟩
  · exact absurd hp ((spells_last h k).2 e)
  · rw [List.concat_eq_append] at e
    obtain rfl := ((spells_last h k).1 o a b e).2.2.2 hp
    exact ⟨o, a, e, by rw [spells_yes hk, e, spell_same]⟩

theorem spells_off {h : Nat → Bool} {k : Nat} (hp : ¬ (0 < k ∧ h (k - 1) = true)) {o : List Sp} {a b : Int} (e : spells h k = o ++ [(a, b)]) : b ≠ (k : Int) := fun c => hp (((spells_last h k).1 o a b e).2.2.1 c)

set_option maxRecDepth 100000 in
set_option maxHeartbeats 4000000 in
theorem spells9_any (s : ByteArray) (kind : Int) (w : World) (hs : s.size ≤ 1000000) :
    Calls Try.prog 18 #[.string s, .int .i64 kind] w fun e w' => ∃ v, e = .returned v ∧ Own w.heap.size w' v (spellsV s kind) ∧ Below w.heap.size w w' := by
  obtain ⟨i0, hi, hz0, hz1, hz2⟩ := info_parts info_span
  by_cases hkd : 0 ≤ kind ∧ kind < 4
  · have LT := fun W => letter_yes kind W hkd.1 hkd.2
    have HKL := fun c => hasK_letter (c := c) hkd.1 hkd.2
    have HV := Lib.hid (show spells (fun i => hasK kind (bt s i)) s.size = spellsV s kind from rfl)
    obtain ⟨lt, hlt0⟩ : ∃ lt, ltN kind = lt := ⟨_, rfl⟩
    rw [hlt0] at LT
    have HLT := Lib.hid hlt0
    have HKL' := Lib.hid HKL
    clear hlt0 hkd HKL
    go_enter Try.func18, Try.ntmps18
    go_wp2_with (go_at_call 16; refine (LT _).mono ?_; rintro e w1 ⟨rfl, rfl⟩)
    clear LT
    go_loopw [7, 19] (fun v i wr => ∃ (k n : Nat) (A' : Option Addr) (c' : Nat), k ≤ s.size ∧ i = .int .i64 k ∧ v = .slice A' n c' ∧ Hid ((spells (fun i => hasK kind (bt s i)) k).length = n) ∧ n ≤ k ∧
        Hid (Own w.heap.size wr (.slice A' n c') (spells (fun i => hasK kind (bt s i)) k)) ∧ Below w.heap.size w wr) (fun _ i _ => s.size - (intOf i).toNat)
    case atStart => exact ⟨0, 0, none, 0, Nat.zero_le _, rfl, rfl, Lib.hid rfl, Nat.le_refl _, Lib.hid (Own.nil _ _), Below.refl _ _⟩
    case round =>
      obtain ⟨k, n, A', c', hk, rfl, rfl, HLN, hnk, hown, hb⟩ := hrel
      have hsz := hb.size
      by_cases hlt : k < s.size
      · have hhd : hasK kind (bt s k) = decide (((s[k]'hlt).toNat : Int) = lt) := by rw [HKL'.out, bt_at s k hlt, HLT.out]
        have hnb : (spells (fun i => hasK kind (bt s i)) k).length ≤ 1000000 := by rw [HLN.out]; omega
        by_cases hq : ((s[k]'hlt).toNat : Int) = lt
        · have hh : (fun i => hasK kind (bt s i)) k = true := by show hasK kind (bt s k) = true; rw [hhd]; exact decide_eq_true hq
          have e1 : (((s[k]'hlt).toNat : Int) == lt) = true := by simpa using hq
          have e2 : (((s[k]'hlt).toNat : Int) != lt) = false := by simpa using hq
          clear hhd hq
          by_cases hp : 0 < k ∧ (fun i => hasK kind (bt s i)) (k - 1) = true
          · have e3z : True := trivial
            obtain ⟨o, a, he, he2⟩ := spells_ext (h := fun i => hasK kind (bt s i)) hh hp
            have HE2 := Lib.hid he2
            have HOW : Hid (Own w.heap.size wr (.slice A' n c') (o ++ [(a, (k : Int))])) := Lib.hid (by rw [← he]; exact hown.out)
            have hln : (o ++ [(a, (k : Int))]).length = n := by rw [← he]; exact HLN.out
            have HLN2 := Lib.hid hln
            obtain ⟨j, hj⟩ : ∃ j, o.length = j := ⟨_, rfl⟩
            have HJ := Lib.hid hj
            have hnj : (n : Int) - 1 = (j : Int) := by rw [← hln, List.length_append, hj]; simp
            have hjn : j < n := by rw [← hln, List.length_append, hj]; simp
            have hg : decide ((0 : Int) ≤ (j : Int)) = true := decide_eq_true (by omega)
            obtain ⟨A2, c2, hv2, hr2, _, _⟩ := HOW.out.form
            injection hv2 with q1 q2 q3
            subst q1 q3
            clear q2
            obtain ⟨bo, oo, x, y, rfl, hbo, hc1, hc2, hxy⟩ := hr2.at_ (k := j) (by rw [hln]; exact hjn)
            obtain ⟨rfl, hgb, hfz⟩ := own_some HOW.out
            rw [Nat.zero_add] at hc1 hc2
            have hy := hxy.out
            rw [← hj] at hy
            simp at hy
            obtain ⟨rfl, rfl⟩ := hy
            have hfz2 := hfz (j * 2 + 1)
            have e3 : ((k : Int) == (k : Int)) = true := by simp
            clear hj hln he he2 hp hh hfz hr2 hown hxy
            go_wp2
            go_roundw
            case rel => exact ⟨k + 1, n, _, c', by omega, by go_num, rfl, Lib.hid (by rw [HE2.out, List.length_append, ← HLN2.out, List.length_append]; rfl), by omega, Lib.hid (by rw [HE2.out]; have h1 := own_joined (j := j) (z := (k : Int) + 1) (l' := o ++ [(a, (k : Int) + 1)]) HOW.out HLN2.out (by simp) (by rw [← HJ.out, flat_set]); exact h1), hb.setCell (p := ⟨bo, j * 2 + 1, none⟩) hgb _⟩
            case measure => simp [intOf]; omega
          · have HE2 := Lib.hid (spells_app (h := fun i => hasK kind (bt s i)) hh hp)
            by_cases hn0 : n = 0
            · subst hn0
              have hg : decide ((0 : Int) ≤ -1) = false := by decide
              clear hp hh
              go_wp2_with (at_builtin; refine wpList_append_own _ rfl _ _ 37 rfl w.heap.size 54 i0 (.agg #[.int .i64 0, .int .i64 0]) 2 16 Try.underlying37 hi hz0 hz1 hz2 rfl (by decide) _ _ _ rfl (hown.out.alloc _) ⟨wr.heap.size, 0, none⟩ 1 1 [.int .i64 (k : Int), .int .i64 ((k : Int) + 1)] rfl rfl one_news one_cell2 (by unfold maxLen; omega) (by omega) (by have := hb.size; simp; omega) ?_; intro v5 w5 hown5 hgrow5 _; have HS := Lib.hid (Own.snoc hown5); have HB5 := Lib.hid ((hb.alloc hb.size (.cells #[.int .i64 (k : Int), .int .i64 ((k : Int) + 1)] 54)).grown hgrow5 (by have := hb.size; simp; omega) (fun q hq => (World.ownsRow.lt hown.out q hq).1)); clear hown5 hgrow5)
              obtain ⟨A5, c5, rfl, _, _, _⟩ := HS.out.form
              have HL5 := Lib.hid (show (spells (fun i => hasK kind (bt s i)) k ++ [((k : Int), (k : Int) + 1)]).length = 0 + 1 by rw [List.length_append, HLN.out]; rfl)
              rw [HL5.out]
              go_wp2
              go_roundw
              case rel => exact ⟨k + 1, 0 + 1, A5, c5, by omega, by go_num, rfl, Lib.hid (by rw [HE2.out]; exact HL5.out), by omega, Lib.hid (by rw [HE2.out]; have := HS.out; rw [HL5.out] at this; exact this), HB5.out⟩
              case measure => simp [intOf]; omega
            · obtain ⟨j, hj⟩ : ∃ j, n = j + 1 := ⟨n - 1, by omega⟩
              have hnj : (n : Int) - 1 = (j : Int) := by omega
              have hjn : j < n := by omega
              have hg : decide ((0 : Int) ≤ (j : Int)) = true := decide_eq_true (by omega)
              obtain ⟨A2, c2, hv2, hr2, _, _⟩ := hown.out.form
              injection hv2 with q1 q2 q3
              subst q1 q3
              clear q2
              obtain ⟨bo, oo, x, y, rfl, hbo, hc1, hc2, hxy⟩ := hr2.at_ (k := j) (by rw [HLN.out]; exact hjn)
              obtain ⟨rfl, hgb, hfz⟩ := own_some hown.out
              rw [Nat.zero_add] at hc1 hc2
              have hyk : y ≠ (k : Int) := by
                rcases List.eq_nil_or_concat (spells (fun i => hasK kind (bt s i)) k) with e | ⟨o, ⟨a, b⟩, e⟩
                · have := HLN.out; rw [e] at this; simp at this; omega
                · rw [List.concat_eq_append] at e
                  have h3 := spells_off hp e
                  have h4 := hxy.out
                  have h5 := HLN.out
                  rw [e] at h4 h5
                  rw [List.length_append] at h5
                  simp at h5
                  obtain rfl : j = o.length := by omega
                  simp at h4
                  rw [← h4.2]; exact h3
              have e3 : (y == (k : Int)) = false := by simpa using hyk
              clear hj hyk hp hh hfz hr2 hxy hn0
              go_wp2_with (at_builtin; refine wpList_append_own _ rfl _ _ 37 rfl w.heap.size 54 i0 (.agg #[.int .i64 0, .int .i64 0]) 2 16 Try.underlying37 hi hz0 hz1 hz2 rfl (by decide) _ _ _ rfl (hown.out.alloc _) ⟨wr.heap.size, 0, none⟩ 1 1 [.int .i64 (k : Int), .int .i64 ((k : Int) + 1)] rfl rfl one_news one_cell2 (by unfold maxLen; omega) (by omega) (by have := hb.size; simp; omega) ?_; intro v5 w5 hown5 hgrow5 _; have HS := Lib.hid (Own.snoc hown5); have HB5 := Lib.hid ((hb.alloc hb.size (.cells #[.int .i64 (k : Int), .int .i64 ((k : Int) + 1)] 54)).grown hgrow5 (by have := hb.size; simp; omega) (fun q hq => (World.ownsRow.lt hown.out q hq).1)); clear hown5 hgrow5)
              obtain ⟨A5, c5, rfl, _, _, _⟩ := HS.out.form
              have HL5 := Lib.hid (show (spells (fun i => hasK kind (bt s i)) k ++ [((k : Int), (k : Int) + 1)]).length = n + 1 by rw [List.length_append, HLN.out]; rfl)
              rw [HL5.out]
              go_wp2
              go_roundw
              case rel => exact ⟨k + 1, n + 1, A5, c5, by omega, by go_num, rfl, Lib.hid (by rw [HE2.out]; exact HL5.out), by omega, Lib.hid (by rw [HE2.out]; have := HS.out; rw [HL5.out] at this; exact this), HB5.out⟩
              case measure => simp [intOf]; omega
        · have hh : (fun i => hasK kind (bt s i)) k = false := by show hasK kind (bt s k) = false; rw [hhd]; exact decide_eq_false hq
          have HE2 := Lib.hid (spells_no (h := fun i => hasK kind (bt s i)) hh)
          have e1 : (((s[k]'hlt).toNat : Int) == lt) = false := by simpa using hq
          have e2 : (((s[k]'hlt).toNat : Int) != lt) = true := by simpa using hq
          clear hhd hq hh
          go_wp2
          go_roundw
          case rel => exact ⟨k + 1, n, A', c', by omega, by go_num, rfl, Lib.hid (by rw [HE2.out]; exact HLN.out), by omega, Lib.hid (by rw [HE2.out]; exact hown.out), hb⟩
          case measure => simp [intOf]; omega
      · have hks : k = s.size := by omega
        have HO2 : Hid (Own w.heap.size wr (.slice A' n c') (spellsV s kind)) := Lib.hid (by rw [← HV.out, ← hks]; exact hown.out)
        clear hks
        go_wp2
        go_ret
        exact ⟨_, rfl, HO2.out, hb⟩
  · have LT := fun W => letter_no kind W hkd
    have HV := Lib.hid (show spellsV s kind = [] from spells_none (fun i => hasK_none hkd) s.size)
    clear hkd
    go_enter Try.func18, Try.ntmps18
    go_wp2_with (go_at_call 16; refine (LT _).mono ?_; rintro e w1 ⟨rfl, rfl⟩)
    go_ret
    exact ⟨_, rfl, by rw [HV.out]; exact Own.nil _ _, Below.refl _ _⟩

end Go.Proofs.Ytllinfcdbbmjaaa
