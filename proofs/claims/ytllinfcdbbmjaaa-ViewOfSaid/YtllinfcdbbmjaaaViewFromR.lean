/- What the document's own From of layer 9 returns. Conditions: at most a million letters. -/
import Derived.Test.YtllinfcdbbmjaaaRows
import Derived.Test.YtllinfcdbbmjaaaBase
import Derived.Test.YtllinfcdbbmjaaaRow
import Derived.Test.YtllinfcdbbmjaaaRecMath
import Derived.Test.YtllinfcdbbmjaaaRecHeap
import Derived.Test.YtllinfcdbbmjaaaRecCheck
import Derived.Test.YtllinfcdbbmjaaaRecNormal
import Derived.Test.YtllinfcdbbmjaaaRecOf
import Derived.Test.YtllinfcdbbmjaaaViewMath
import Derived.Test.YtllinfcdbbmjaaaViewLeaf
import Derived.Test.YtllinfcdbbmjaaaViewFrom
import Derived.WalkKit
import Derived.WalkSpells
import Derived.WalkSmall
import Derived.Below
import Derived.Lib.Hide
import Derived.Outline
import Derived.OwnWalk
import Derived.BigQuiet
import Derived.Deep.QuietTactic
namespace Go.Proofs.Ytllinfcdbbmjaaa
open Go.RowKit

theorem kinds_take_len {s : ByteArray} {k : Nat} (h : k ≤ s.size) : ((kindsS s).take k).length = k := by rw [List.length_take, kindsS_len]; omega

set_option maxRecDepth 100000 in
set_option maxHeartbeats 2000000 in
theorem reffrom9_any (at_ : Int) (s : ByteArray) (w : World) (hs : s.size ≤ 1000000) :
    Calls Try.prog 12 #[.int .i64 at_, .string s] w fun e w' => ∃ v, e = .returned (.tuple #[v, .int .i64 (fromV at_ s).2]) ∧ OwnR w.heap.size w' v (fromV at_ s).1 ∧ Below w.heap.size w w' := by
  obtain ⟨i1, hj, hy0, hy1, hy2⟩ := info_parts info_int
  by_cases h0 : at_ < 0
  · rw [from_low h0]
    go_enter Try.func12, Try.ntmps12
    go_wp2
    go_ret2
    exact ⟨_, rfl, OwnR.nil _ _, Below.refl _ _⟩
  · have h0' : 0 ≤ at_ := by omega
    by_cases h1 : 40320 < at_ + (s.size : Int)
    · rw [from_high h1]
      by_cases h2 : 40320 < at_
      · clear h0 h1
        go_enter Try.func12, Try.ntmps12
        go_wp2
        go_ret2
        exact ⟨_, rfl, OwnR.nil _ _, Below.refl _ _⟩
      · have h3 : at_ ≤ 40320 := by omega
        have h4 : 40320 - at_ < (s.size : Int) := by omega
        clear h0 h1 h2
        go_enter Try.func12, Try.ntmps12
        go_wp2
        go_ret2
        exact ⟨_, rfl, OwnR.nil _ _, Below.refl _ _⟩
    · have h2 : at_ ≤ 40320 := by omega
      have h3 : at_ + (s.size : Int) ≤ 40320 := by omega
      have h4 : (s.size : Int) ≤ 40320 - at_ := by omega
      obtain ⟨F, hF⟩ : ∃ F, fromV at_ s = F := ⟨_, rfl⟩
      have HF := Lib.hid hF
      rw [hF]
      clear hF h0 h1
      go_enter Try.func12, Try.ntmps12
      go_wp2
      go_loopw [6, 7] (fun v i wr => ∃ (k : Nat) (A' : Option Addr) (c' : Nat), k ≤ s.size ∧ i = .int .i64 k ∧ v = .slice A' k c' ∧ Hid (((kindsS s).take k).length = k) ∧
          Hid (OwnN w.heap.size wr (.slice A' k c') ((kindsS s).take k)) ∧ Below w.heap.size w wr ∧ Hid (∀ j, j < k → isL (bt s j) = true)) (fun _ i _ => s.size - (intOf i).toNat)
      case atStart => exact ⟨0, none, 0, Nat.zero_le _, rfl, rfl, Lib.hid rfl, Lib.hid (OwnN.nil _ _), Below.refl _ _, Lib.hid (by omega)⟩
      case round =>
        obtain ⟨k, A', c', hk, rfl, rfl, HON, hown, hb, HA⟩ := hrel
        have hsz := hb.size
        have hnb : ((kindsS s).take k).length ≤ 1000000 := by rw [HON.out]; omega
        by_cases hlt : k < s.size
        · have KD := fun W => refkind_any ((s[k]'hlt).toNat : Int) W
          rw [bt_at s k hlt] at KD
          have MM := Lib.hid (kindsS_more s k hlt)
          by_cases hL : isL (bt s k) = true
          · rw [hL] at KD
            have HA2 : Hid (∀ j, j < k + 1 → isL (bt s j) = true) := Lib.hid fun j hj => by
              rcases Nat.lt_or_ge j k with c | c
              · exact HA.out j c
              · obtain rfl : j = k := by omega
                exact hL
            have ML := Lib.hid (kinds_take_len (s := s) (k := k + 1) (by omega))
            clear hL
            obtain ⟨x, hx⟩ : ∃ x, kindB (bt s k) = x := ⟨_, rfl⟩
            rw [hx] at KD MM
            have eb := bt_at s k hlt
            generalize bt s k = bk at KD eb hx
            subst eb
            clear hx
            go_wp2_with (first
              | (go_at_call 15; refine (KD _).mono ?_; rintro e w1 ⟨rfl, rfl⟩)
              | (at_builtin; refine wpList_append_own _ rfl _ _ 40 rfl w.heap.size 3 i1 (.int .i64 0) 1 8 Try.underlying40 hj hy0 hy1 hy2 rfl (by decide) _ _ _ rfl (OwnN.alloc hown.out _) ⟨wr.heap.size, 0, none⟩ 1 1 [.int .i64 x] rfl rfl (int_news rfl) int_cells (by unfold maxLen; omega) (by omega) (by have := hb.size; simp; omega) ?_; intro v5 w5 hown5 hgrow5 _; have HS := Lib.hid (OwnN.snoc hown5); have HB5 := Lib.hid ((hb.alloc hb.size (.cells #[.int .i64 x] 3)).grown hgrow5 (by have := hb.size; simp; omega) (fun q hq => (World.ownsRow.lt hown.out q hq).1)); clear hown5 hgrow5))
            obtain ⟨A5, c5, rfl, _⟩ := HS.out.read
            rw [show ((kindsS s).take k ++ [x]).length = k + 1 by rw [List.length_append, HON.out]; rfl]
            go_wp2
            go_roundw
            case rel => exact ⟨k + 1, A5, c5, by omega, by go_num, rfl, ML, Lib.hid (by rw [MM.out]; have := HS.out; rw [List.length_append, HON.out] at this; exact this), HB5.out, HA2⟩
            case measure => simp [intOf]; omega
          · have hL' : isL (bt s k) = false := by simpa using hL
            have HE := Lib.hid (HF.out.symm.trans (from_kind h0' h3 hlt hL'))
            rw [hL'] at KD
            have eb := bt_at s k hlt
            generalize bt s k = bk at KD eb hL hL'
            subst eb
            clear hL hL'
            go_wp2_with (go_at_call 15; refine (KD _).mono ?_; rintro e w1 ⟨rfl, rfl⟩)
            go_ret2
            rw [HE.out]
            exact ⟨_, rfl, OwnR.nil _ _, hb⟩
        · have hks : k = s.size := by omega
          have HE := Lib.hid (HF.out.symm.trans (from_in h0' h3 (allL_yes fun i hi => HA.out i (by omega))))
          have HL := Lib.hid (show (kindsS s).take k = kindsS s by rw [List.take_of_length_le (by rw [kindsS_len]; omega)])
          rw [HL.out] at hown HON hnb
          have hks2 : at_ + (k : Int) ≤ 40320 := by omega
          clear hks HL
          have OF := fun B d W (hr : RdN W B (kindsS s)) => refofR_any B d k (kindsS s) at_ W HON hr h0' hks2
          obtain ⟨A6, c6, he6, hr6⟩ := hown.out.read
          rw [HON.out] at he6
          injection he6 with e1 e2 e3
          subst e1 e3
          have RD := Lib.hid hr6
          clear hr6
          go_wp2_with (go_at_call 30; (with_reducible refine (OF _ _ _ RD.out).mono ?_); rintro e w6 ⟨v6, rfl, ho6, hb6⟩; have HO6 := Lib.hid ho6; clear ho6)
          go_ret2
          rw [HE.out]
          exact ⟨_, rfl, HO6.out.more hb.size, b_cl hb (Nat.le_refl _) hb6⟩

end Go.Proofs.Ytllinfcdbbmjaaa
