/- What From of layer 9 returns: the normal timeline of which that is the view, or an error. Conditions: the minute is a 64-bit number; at most a million letters. -/
import Derived.Test.YtllinfcdbbmjaaaRows
import Derived.Test.YtllinfcdbbmjaaaBase
import Derived.Test.YtllinfcdbbmjaaaRow
import Derived.Test.YtllinfcdbbmjaaaRecMath
import Derived.Test.YtllinfcdbbmjaaaRecHeap
import Derived.Test.YtllinfcdbbmjaaaRecCheck
import Derived.Test.YtllinfcdbbmjaaaRecNormal
import Derived.Test.YtllinfcdbbmjaaaRecOf
import Derived.Test.YtllinfcdbbmjaaaViewMath
import Derived.Test.YtllinfcdbbmjaaaViewLeaf
import Derived.WalkKit
import Derived.WalkSpells
import Derived.WalkSmall
import Derived.Below
import Derived.Lib.Hide
import Derived.Outline
import Derived.OwnWalk
import Derived.BigQuiet
import Derived.Deep.QuietTactic
namespace Go.Proofs.Ytllinfcdbbmjaaa
open Go.RowKit

theorem from_low {at_ : Int} {s : ByteArray} (h : at_ < 0) : fromV at_ s = ([], 4) := by unfold fromV; rw [if_pos (.inl h)]
theorem from_high {at_ : Int} {s : ByteArray} (h : 40320 < at_ + (s.size : Int)) : fromV at_ s = ([], 4) := by unfold fromV; rw [if_pos (.inr h)]
theorem from_in {at_ : Int} {s : ByteArray} (h0 : 0 ≤ at_) (h1 : at_ + (s.size : Int) ≤ 40320) (ha : allL s = true) : fromV at_ s = (ofR at_ (kindsS s), 0) := by
  unfold fromV; rw [if_neg (by omega), if_pos ha]
theorem from_kind {at_ : Int} {s : ByteArray} (h0 : 0 ≤ at_) (h1 : at_ + (s.size : Int) ≤ 40320) {i : Nat} (hi : i < s.size) (ha : isL (bt s i) = false) : fromV at_ s = ([], 2) := by
  unfold fromV; rw [if_neg (by omega), if_neg (by rw [allL_no hi ha]; exact Bool.false_ne_true)]

theorem minsR_more {at_ : Int} {s : ByteArray} {k : Nat} (h : k < s.size) : minsR at_ ((kindsS s).take (k + 1)) = minsR at_ ((kindsS s).take k) ++ [(kindB (bt s k), at_ + (k : Int), at_ + (k : Int) + 1)] := by
  rw [kindsS_more s k h, minsR_snoc]
  have : ((kindsS s).take k).length = k := by rw [List.length_take, kindsS_len]; omega
  rw [this]

theorem minsR_take_len {at_ : Int} {s : ByteArray} {k : Nat} (h : k ≤ s.size) : (minsR at_ ((kindsS s).take k)).length = k := by
  rw [minsR_len, List.length_take, kindsS_len]; omega

set_option maxRecDepth 100000 in
set_option maxHeartbeats 2000000 in
theorem from9_any (at_ : Int) (s : ByteArray) (w : World) (hs : s.size ≤ 1000000) :
    Calls Try.prog 11 #[.int .i64 at_, .string s] w fun e w' => ∃ v, e = .returned (.tuple #[v, .int .i64 (fromV at_ s).2]) ∧ OwnR w.heap.size w' v (fromV at_ s).1 ∧ Below w.heap.size w w' := by
  obtain ⟨i0, hi, hz0, hz1, hz2⟩ := info_parts info_rec
  by_cases h0 : at_ < 0
  · rw [from_low h0]
    go_enter Try.func11, Try.ntmps11
    go_wp2
    go_ret2
    exact ⟨_, rfl, OwnR.nil _ _, Below.refl _ _⟩
  · have h0' : 0 ≤ at_ := by omega
    by_cases h1 : 40320 < at_ + (s.size : Int)
    · rw [from_high h1]
      have h2 : 40320 - (s.size : Int) < at_ := by omega
      clear h0 h1
      go_enter Try.func11, Try.ntmps11
      go_wp2
      go_ret2
      exact ⟨_, rfl, OwnR.nil _ _, Below.refl _ _⟩
    · have h2 : at_ ≤ 40320 - (s.size : Int) := by omega
      have h3 : at_ + (s.size : Int) ≤ 40320 := by omega
      have HT := Lib.hid (minsR_tl (kindsS s) at_ (kindsS_bd s) h0' (by rw [kindsS_len]; exact h3))
      obtain ⟨F, hF⟩ : ∃ F, fromV at_ s = F := ⟨_, rfl⟩
      have HF := Lib.hid hF
      rw [hF]
      clear hF h0 h1
      go_enter Try.func11, Try.ntmps11
      go_wp2
      go_loopw [6, 21] (fun v i wr => ∃ (k : Nat) (A' : Option Addr) (c' : Nat), k ≤ s.size ∧ i = .int .i64 k ∧ v = .slice A' k c' ∧ Hid ((minsR at_ ((kindsS s).take k)).length = k) ∧
          Hid (OwnR w.heap.size wr (.slice A' k c') (minsR at_ ((kindsS s).take k))) ∧ Below w.heap.size w wr ∧ Hid (∀ j, j < k → isL (bt s j) = true)) (fun _ i _ => s.size - (intOf i).toNat)
      case atStart => exact ⟨0, none, 0, Nat.zero_le _, rfl, rfl, Lib.hid rfl, Lib.hid (OwnR.nil _ _), Below.refl _ _, Lib.hid (by omega)⟩
      case round =>
        obtain ⟨k, A', c', hk, rfl, rfl, HON, hown, hb, HA⟩ := hrel
        have hsz := hb.size
        have hnb : (minsR at_ ((kindsS s).take k)).length ≤ 1000000 := by rw [HON.out]; omega
        by_cases hlt : k < s.size
        · have KD := fun W => kind_any ((s[k]'hlt).toNat : Int) W (by omega) (by have := (s[k]'hlt).toNat_lt; omega)
          rw [bt_at s k hlt] at KD
          have MM := Lib.hid (minsR_more (at_ := at_) hlt)
          by_cases hL : isL (bt s k) = true
          · rw [hL] at KD
            have HA2 : Hid (∀ j, j < k + 1 → isL (bt s j) = true) := Lib.hid fun j hj => by
              rcases Nat.lt_or_ge j k with c | c
              · exact HA.out j c
              · obtain rfl : j = k := by omega
                exact hL
            have ML := Lib.hid (minsR_take_len (at_ := at_) (s := s) (k := k + 1) (by omega))
            clear hL
            obtain ⟨x, hx⟩ : ∃ x, kindB (bt s k) = x := ⟨_, rfl⟩
            rw [hx] at KD MM
            have eb := bt_at s k hlt
            generalize bt s k = bk at KD eb hx
            subst eb
            clear hx
            go_wp2_with (first
              | (go_at_call 14; refine (KD _).mono ?_; rintro e w1 ⟨rfl, rfl⟩)
              | (at_builtin; refine wpList_append_own _ rfl _ _ 22 rfl w.heap.size 50 i0 (.agg #[.int .i64 0, .int .i64 0, .int .i64 0]) 3 24 Try.underlying22 hi hz0 hz1 hz2 rfl (by decide) _ _ _ rfl (OwnR.alloc hown.out _) ⟨wr.heap.size, 0, none⟩ 1 1 [.int .i64 x, .int .i64 (at_ + (k : Int)), .int .i64 (at_ + (k : Int) + 1)] rfl rfl (rec_news rfl) rec_cells (by unfold maxLen; omega) (by omega) (by have := hb.size; simp; omega) ?_; intro v5 w5 hown5 hgrow5 _; have HS := Lib.hid (OwnR.snoc hown5); have HB5 := Lib.hid ((hb.alloc hb.size (.cells #[.int .i64 x, .int .i64 (at_ + (k : Int)), .int .i64 (at_ + (k : Int) + 1)] 50)).grown hgrow5 (by have := hb.size; simp; omega) (fun q hq => (World.ownsRow.lt hown.out q hq).1)); clear hown5 hgrow5))
            obtain ⟨A5, c5, rfl, _, _⟩ := HS.out.read
            rw [show (minsR at_ ((kindsS s).take k) ++ [(x, at_ + (k : Int), at_ + (k : Int) + 1)]).length = k + 1 by rw [List.length_append, HON.out]; rfl]
            go_wp2
            go_roundw
            case rel => exact ⟨k + 1, A5, c5, by omega, by go_num, rfl, ML, Lib.hid (by rw [MM.out]; have := HS.out; rw [List.length_append, HON.out] at this; exact this), HB5.out, HA2⟩
            case measure => simp [intOf]; omega
          · have hL' : isL (bt s k) = false := by simpa using hL
            have HE := Lib.hid (HF.out.symm.trans (from_kind h0' h3 hlt hL'))
            rw [hL'] at KD
            have eb := bt_at s k hlt
            generalize bt s k = bk at KD eb hL hL'
            subst eb
            clear hL hL'
            go_wp2_with (go_at_call 14; refine (KD _).mono ?_; rintro e w1 ⟨rfl, rfl⟩)
            go_ret2
            rw [HE.out]
            exact ⟨_, rfl, OwnR.nil _ _, hb⟩
        · have hks : k = s.size := by omega
          have HE := Lib.hid (HF.out.symm.trans (from_in h0' h3 (allL_yes fun i hi => HA.out i (by omega))))
          have HL := Lib.hid (show (kindsS s).take k = kindsS s by rw [List.take_of_length_le (by rw [kindsS_len]; omega)])
          rw [HL.out] at hown HON hnb
          clear hks HL
          have NM := fun B d W (hr : RdR W B (minsR at_ (kindsS s))) => normal_any B d (minsR at_ (kindsS s)) W hr hnb
          rw [HON.out, tl_check HT.out, nrm_ok HT.out, minsR_norm] at NM
          have RD := Lib.hid hown.out.rd
          go_wp2_with (go_at_call 29; (with_reducible refine (NM _ _ _ RD.out).mono ?_); rintro e w6 ⟨v6, rfl, ho6, hb6⟩; have HO6 := Lib.hid ho6; clear ho6)
          go_ret2
          rw [HE.out]
          exact ⟨_, rfl, HO6.out.more hb.size, b_cl hb (Nat.le_refl _) hb6⟩

end Go.Proofs.Ytllinfcdbbmjaaa
