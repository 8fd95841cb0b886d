/- What days of layer 11 returns: the span of each day's minutes. Conditions: the span lies from 0 to 40320. -/
import Derived.Test.YtgmcikajhnnaaaaRows
import Derived.Test.YtgmcikajhnnaaaaBase
import Derived.Test.YtgmcikajhnnaaaaRow
import Derived.Test.YtgmcikajhnnaaaaIvalsWords
import Derived.Test.YtgmcikajhnnaaaaIvalsOwn
import Derived.Test.YtgmcikajhnnaaaaZ1
import Derived.WalkKit
import Derived.WalkSpells
import Derived.WalkSmall
import Derived.Below
import Derived.Lib.Hide
import Derived.Outline
import Derived.OwnWalk
namespace Go.Proofs.Ytgmcikajhnnaaaa
open Go.RowKit

set_option maxRecDepth 20000 in
set_option maxHeartbeats 1000000 in
theorem days_any (a b : Int) (w : World) (ha : 0 ≤ a) (ha2 : a ≤ 40320) (hb : b ≤ 40320) (hb0 : 0 ≤ b) :
    Calls Try.prog 22 #[.agg #[.int .i64 a, .int .i64 b]] w fun e w' => ∃ v, e = .returned v ∧ Own w.heap.size w' v (daysV a b) ∧ Below w.heap.size w w' := by
  obtain ⟨i0, hi, hz0, hz1, hz2⟩ := info_parts info_span
  have hlen := days_len (b - a).toNat a b
  have HV := Lib.hid (show days (b - a).toNat a b = daysV a b from rfl)
  rw [HV.out] at hlen
  obtain ⟨D, hD⟩ : ∃ D, daysV a b = D := ⟨_, rfl⟩
  rw [hD] at HV hlen ⊢
  obtain ⟨w0, hw0⟩ : ∃ w0 : World, w0 = w.alloc (.cells #[.int .i64 a, .int .i64 b] 45) := ⟨_, rfl⟩
  have x0 : w0.cell? ⟨w.heap.size, 0, none⟩ = some (.int .i64 a) := by rw [hw0]; simp
  have x1 : w0.cell? ⟨w.heap.size, 1, none⟩ = some (.int .i64 b) := by rw [hw0]; simp
  have hs0 : w0.heap.size = w.heap.size + 1 := by rw [hw0]; simp
  have HBW : Hid (Below w.heap.size w w0) := Lib.hid (by rw [hw0]; exact (Below.refl _ _).alloc (Nat.le_refl _) _)
  have HW0 := Lib.hid hw0
  have HLE := Lib.hid hlen
  clear hD hw0 hlen
  go_enter Try.func22, Try.ntmps22
  go_wp2
  rw [← HW0.out]
  go_loopw [3, 4] (fun v i wr => ∃ (f : Int) (k n : Nat) (A' : Option Addr) (c' : Nat) (out : List Sp), 0 ≤ f ∧ f ≤ 40320 ∧ b - f ≤ (k : Int) ∧ i = .int .i64 f ∧ v = .slice A' n c' ∧ Hid (out.length = n) ∧ Hid (out ++ days k f b = D) ∧ n ≤ 40320 ∧
      Hid (Own w0.heap.size wr (.slice A' n c') out) ∧ Below w0.heap.size w0 wr) (fun _ i _ => (b - intOf i).toNat)
  case atStart => exact ⟨a, (b - a).toNat, 0, none, 0, [], ha, ha2, by omega, rfl, rfl, Lib.hid rfl, HV, by omega, Lib.hid (Own.nil _ _), Below.refl _ _⟩
  case round =>
    obtain ⟨f, k, n, A', c', out, hf0, hf1, hk, rfl, rfl, HN, HD, hn, hown, hbw⟩ := hrel
    have hsz := hbw.size
    have y1 := c_cl x1 hbw
    by_cases hlt : f < b
    · obtain ⟨k', hk1, hk2, hk3⟩ := days_one hlt hk
      have hst := day_step hlt
      have HD2 : Hid (out ++ [(f, lo2 (dEnd f) b)] ++ days k' (lo2 (dEnd f) b) b = D) := Lib.hid (by rw [← HD.out, hk3]; simp)
      obtain ⟨t, ht⟩ : ∃ t, lo2 (dEnd f) b = t := ⟨_, rfl⟩
      have htc : (b < f - f % 1440 + 1440 ∧ t = b) ∨ (f - f % 1440 + 1440 ≤ b ∧ t = f - f % 1440 + 1440) := by
        have := lo2_is (dEnd f) b
        unfold dEnd at *
        omega
      rw [ht] at HD2 hst hk2
      have hnl : (out ++ [(f, t)]).length ≤ 40320 := by
        have h1 := congrArg List.length HD2.out
        have h2 := HLE.out
        rw [List.length_append] at h1
        omega
      have hnb : out.length ≤ 40320 := by rw [HN.out]; exact hn
      have HL5 := Lib.hid (show (out ++ [(f, t)]).length = n + 1 by rw [List.length_append, HN.out]; rfl)
      rw [HL5.out] at hnl
      clear hk1 hk3 ht
      rcases htc with ⟨ht1, rfl⟩ | ⟨ht1, rfl⟩
      · go_wp2_with (at_builtin; refine wpList_append_own _ rfl _ _ 57 rfl w0.heap.size 45 i0 (.agg #[.int .i64 0, .int .i64 0]) 2 16 Try.underlying57 hi hz0 hz1 hz2 rfl (by decide) _ _ _ rfl (hown.out.alloc _) ⟨wr.heap.size, 0, none⟩ 1 1 [.int .i64 f, .int .i64 t] rfl rfl one_news one_cell2 (by unfold maxLen; omega) (by omega) (by have := hbw.size; simp; omega) ?_; intro v5 w5 hown5 hgrow5 _; have HS := Lib.hid (Own.snoc hown5); have HB5 := Lib.hid ((hbw.alloc hbw.size (.cells #[.int .i64 f, .int .i64 t] 45)).grown hgrow5 (by have := hbw.size; simp; omega) (fun q hq => (World.ownsRow.lt hown.out q hq).1)); clear hown5 hgrow5)
        obtain ⟨A5, c5, rfl, _, _, _⟩ := HS.out.form
        rw [HL5.out]
        go_wp2
        go_roundw
        case rel => exact ⟨t, k', n + 1, A5, c5, out ++ [(f, t)], by omega, by omega, hk2, by first | rfl | go_num, rfl, HL5, HD2, hnl, Lib.hid (by have := HS.out; rw [HL5.out] at this; exact this), HB5.out⟩
        case measure => simp [intOf]; omega
      · go_wp2_with (at_builtin; refine wpList_append_own _ rfl _ _ 57 rfl w0.heap.size 45 i0 (.agg #[.int .i64 0, .int .i64 0]) 2 16 Try.underlying57 hi hz0 hz1 hz2 rfl (by decide) _ _ _ rfl (hown.out.alloc _) ⟨wr.heap.size, 0, none⟩ 1 1 [.int .i64 f, .int .i64 (f - f % 1440 + 1440)] rfl rfl one_news one_cell2 (by unfold maxLen; omega) (by omega) (by have := hbw.size; simp; omega) ?_; intro v5 w5 hown5 hgrow5 _; have HS := Lib.hid (Own.snoc hown5); have HB5 := Lib.hid ((hbw.alloc hbw.size (.cells #[.int .i64 f, .int .i64 (f - f % 1440 + 1440)] 45)).grown hgrow5 (by have := hbw.size; simp; omega) (fun q hq => (World.ownsRow.lt hown.out q hq).1)); clear hown5 hgrow5)
        obtain ⟨A5, c5, rfl, _, _, _⟩ := HS.out.form
        rw [HL5.out]
        go_wp2
        go_roundw
        case rel => exact ⟨(f - f % 1440 + 1440), k', n + 1, A5, c5, out ++ [(f, (f - f % 1440 + 1440))], by omega, by omega, hk2, by first | rfl | go_num, rfl, HL5, HD2, hnl, Lib.hid (by have := HS.out; rw [HL5.out] at this; exact this), HB5.out⟩
        case measure => simp [intOf]; omega
    · have HO2 : Hid (Own w0.heap.size wr (.slice A' n c') D) := Lib.hid (by rw [← HD.out, days_end (by omega), List.append_nil]; exact hown.out)
      go_wp2
      go_ret
      exact ⟨_, rfl, HO2.out.more (by omega), HBW.out.trans (hbw.mono (by omega))⟩

end Go.Proofs.Ytgmcikajhnnaaaa
