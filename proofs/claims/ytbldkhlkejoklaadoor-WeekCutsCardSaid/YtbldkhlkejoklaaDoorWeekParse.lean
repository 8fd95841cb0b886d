/- What digit, number, dayOf and Parse of layer 4 return, for any text. Conditions: as each theorem says; the table of the days' names reads as the program lays it. -/
import Derived.Test.YtbldkhlkejoklaaDoorWeekName2
import Derived.Lib.SlicesS
namespace Go.Proofs.YtbldkhlkejoklaaDoor
open Go.RowKit

theorem digit_any (b : Int) (w : World) (h0 : 0 ≤ b) (h1 : b ≤ 255) :
    Calls Tryd.prog 27 #[.int .u8 b] w fun e w' => e = .returned (.int .i64 (b - 48)) ∧ w' = w := by
  go_enter Tryd.func27, Tryd.ntmps27
  go_wp2
  go_ret
  exact ⟨rfl, rfl⟩

/-- What two bytes come to as digits. -/
def numB (t : ByteArray) : Int := 10 * (bt t 0 - 48) + (bt t 1 - 48)

theorem byte_at (t : ByteArray) (i : Nat) (h : i < t.size) : ((t[i]'h).toNat : Int) = bt t i := by
  have h' : i < t.data.size := h
  have e : t.data.getD i 0 = t[i]'h := by
    unfold Array.getD
    rw [dif_pos h']
    rfl
  unfold bt
  rw [e]

theorem digit_at (t : ByteArray) (i : Nat) (h : i < t.size) (w : World) :
    Calls Tryd.prog 27 #[.int .u8 (t[i]'h).toNat] w fun e w' => e = .returned (.int .i64 (bt t i - 48)) ∧ w' = w := by
  rw [byte_at]
  exact digit_any _ _ (bt_bd t i).1 (bt_bd t i).2

theorem wrap_in {n : Int} (h0 : -9223372036854775808 ≤ n) (h1 : n ≤ 9223372036854775807) : IntKind.i64.wrap n = n := IntWalk.i64_in n ⟨h0, h1⟩

theorem number_any (t : ByteArray) (w : World) (ht : t.size = 2) :
    Calls Tryd.prog 29 #[.string t] w fun e w' => e = .returned (.int .i64 (numB t)) ∧ ∃ n, w' = w.drewN n := by
  have b0 := bt_bd t 0
  have b1 := bt_bd t 1
  have g0 : 0 < t.size := by omega
  have g1 : 1 < t.size := by omega
  have D0 := fun W => digit_at t 0 g0 W
  have D1 := fun W => digit_at t 1 g1 W
  have i0 : (0 : Int) < (t.size : Int) := by omega
  have i1 : (1 : Int) < (t.size : Int) := by omega
  have e1 := wrap_in (n := 10 * (bt t 0 - 48)) (by omega) (by omega)
  have e2 := wrap_in (n := 10 * (bt t 0 - 48) + (bt t 1 - 48)) (by omega) (by omega)
  have HN := Lib.hid (show numB t = 10 * (bt t 0 - 48) + (bt t 1 - 48) from rfl)
  clear ht
  go_enter Tryd.func29, Tryd.ntmps29
  go_wp2
  go_quiet ((first
    | (go_at_call 27; (with_reducible exact Calls.quiet_of_same (D0 _)))
    | (go_at_call 27; (with_reducible exact Calls.quiet_of_same (D1 _)))))
  go_wp2
  go_ret
  rw [HN.out]
  exact ⟨rfl, _, rfl⟩

theorem dayOf_any (t : ByteArray) (w : World) (hd : Days w) :
    Calls Tryd.prog 28 #[.string t] w fun e w' => e = .returned (.int .i64 (dayIx t)) ∧ w' = w := by
  go_enter Tryd.func28, Tryd.ntmps28
  go_wp2
  go_loop [4] (fun i => ∃ k : Nat, k ≤ 7 ∧ i = .int .i64 k ∧ Hid (∀ j, j < k → dayB j ≠ t)) (fun i => 7 - (intOf i).toNat)
  case atStart => exact ⟨0, Nat.zero_le _, rfl, Lib.hid (by omega)⟩
  case round =>
    obtain ⟨k, hk, rfl, hn⟩ := hrel
    by_cases hlt : k < 7
    · have hc := hd k hlt
      have k1 : (k : Int) < 7 := by omega
      by_cases he : dayB k = t
      · have hix := Lib.hid (dayIx_at hlt he hn.out)
        go_wp2
        go_ret
        rw [hix.out]
        exact ⟨rfl, rfl⟩
      · have HE := Lib.hid he
        have hbq := (Lib.bytes_beq_false_iff (dayB k) t).2 he
        clear he
        go_wp2
        go_round
        case rel => exact ⟨k + 1, by omega, by go_num, Lib.hid (fun j hj => by
            by_cases e : j = k
            · subst e; exact HE.out
            · exact hn.out j (by omega))⟩
        case measure => simp [intOf]; omega
    · have hk7 : k = 7 := by omega
      subst hk7
      have hix := Lib.hid (dayIx_none hn.out)
      go_wp2
      go_ret
      rw [hix.out]
      exact ⟨rfl, rfl⟩

end Go.Proofs.YtbldkhlkejoklaaDoor
