/- What the document's own Parse of layer 4 returns, for any text. Conditions: none. -/
import Derived.Test.YtbldkhlkejoklaaDoorWeekRef3
import Derived.Test.YtbldkhlkejoklaaDoorWeekParse2
namespace Go.Proofs.YtbldkhlkejoklaaDoor
open Go.RowKit

theorem refparse_short (s : ByteArray) (w : World) (h : s.size ≠ 11) :
    Calls Tryd.prog 17 #[.string s] w fun e w' => e = .returned (.tuple #[.int .i64 0, .int .i64 7]) ∧ Below w.heap.size w w' := by
  have h1 : ((s.size : Int) == 11) = false := by simp; omega
  have h2 : ((s.size : Int) != 11) = true := by simp; omega
  clear h
  go_enter Tryd.func17, Tryd.ntmps17
  go_wp2
  go_ret2
  exact ⟨rfl, Below.refl _ _⟩

theorem candD_bd (s : ByteArray) (k : Nat) (h : k < 29) : -32208 ≤ candD s k ∧ candD s k ≤ 210000 := by
  have h6 := bt_bd s 6
  have h7 := bt_bd s 7
  have h9 := bt_bd s 9
  have h10 := bt_bd s 10
  unfold candD
  omega

set_option maxHeartbeats 1000000 in
theorem refparse_loop (s : ByteArray) (w : World) (h : s.size = 11) :
    Calls Tryd.prog 17 #[.string s] w fun e w' => e = .returned (.tuple #[.int .i64 (parseV s).1, .int .i64 (parseV s).2]) ∧ Below w.heap.size w w' := by
  have s1 : ((s.size : Int) == 11) = true := by simp; omega
  have s2 : ((s.size : Int) != 11) = false := by simp; omega
  have s3 : (6 : Int) < (s.size : Int) := by omega
  have s4 : (7 : Int) < (s.size : Int) := by omega
  have s5 : (9 : Int) < (s.size : Int) := by omega
  have s6 : (10 : Int) < (s.size : Int) := by omega
  have g6 : 6 < s.size := by omega
  have g7 : 7 < s.size := by omega
  have g9 : 9 < s.size := by omega
  have g10 : 10 < s.size := by omega
  clear h
  go_enter Tryd.func17, Tryd.ntmps17
  go_wp2
  go_loopw [4] (fun i wr => ∃ k : Nat, k ≤ 29 ∧ i = .int .i64 k ∧ Below w.heap.size w wr ∧ Hid (∀ j : Nat, j < k → ¬ (0 ≤ candD s j ∧ candD s j ≤ 40320 ∧ nameB (candD s j) = s))) (fun i _ => 29 - (intOf i).toNat)
  case atStart => exact ⟨0, Nat.zero_le _, rfl, Below.refl _ _, Lib.hid (by omega)⟩
  case round =>
    obtain ⟨k, hk, rfl, hb, hn⟩ := hrel
    by_cases hlt : k < 29
    · have bk := candD_bd s k hlt
      have b6 := bt_bd s 6
      have b7 := bt_bd s 7
      have b9 := bt_bd s 9
      have b10 := bt_bd s 10
      have k1 : (k : Int) ≤ 28 := by omega
      by_cases hr : 0 ≤ candD s k ∧ candD s k ≤ 40320
      · by_cases he : nameB (candD s k) = s
        · have PV := Lib.hid (parse_yes hr.1 hr.2 he)
          have w0 := wrap_in (n := 1440 * (k : Int)) (by omega) (by omega)
          have c6 : IntKind.i64.wrap ((s[6].toNat : Nat) : Int) = bt s 6 := by rw [byte_at]; exact wrap_in (by omega) (by omega)
          have c7 : IntKind.i64.wrap ((s[7].toNat : Nat) : Int) = bt s 7 := by rw [byte_at]; exact wrap_in (by omega) (by omega)
          have c9 : IntKind.i64.wrap ((s[9].toNat : Nat) : Int) = bt s 9 := by rw [byte_at]; exact wrap_in (by omega) (by omega)
          have c10 : IntKind.i64.wrap ((s[10].toNat : Nat) : Int) = bt s 10 := by rw [byte_at]; exact wrap_in (by omega) (by omega)
          have w1 := wrap_in (n := 10 * bt s 6) (by omega) (by omega)
          have w2 := wrap_in (n := 10 * bt s 6 + bt s 7) (by omega) (by omega)
          have w3 := wrap_in (n := 10 * bt s 6 + bt s 7 - 528) (by omega) (by omega)
          have w4 := wrap_in (n := 60 * (10 * bt s 6 + bt s 7 - 528)) (by omega) (by omega)
          have w5 := wrap_in (n := 1440 * (k : Int) + 60 * (10 * bt s 6 + bt s 7 - 528)) (by omega) (by omega)
          have w6 := wrap_in (n := 10 * bt s 9) (by omega) (by omega)
          have w7 := wrap_in (n := 1440 * (k : Int) + 60 * (10 * bt s 6 + bt s 7 - 528) + 10 * bt s 9) (by omega) (by omega)
          have w8 := wrap_in (n := 1440 * (k : Int) + 60 * (10 * bt s 6 + bt s 7 - 528) + 10 * bt s 9 + bt s 10) (by omega) (by omega)
          have w9 : IntKind.i64.wrap (1440 * (k : Int) + 60 * (10 * bt s 6 + bt s 7 - 528) + 10 * bt s 9 + bt s 10 - 528) = candD s k := by rw [wrap_in (by omega) (by omega)]; rfl
          have NC := fun W => (by have h := refname_any (candD s k) W; rwa [(nm_in hr.1 hr.2).1, (nm_in hr.1 hr.2).2] at h : Calls Tryd.prog 15 #[.int .i64 (candD s k)] W fun e w' => e = .returned (.tuple #[.string (nameB (candD s k)), .int .i64 0]) ∧ Below W.heap.size W w')
          have t1 := (Lib.bytes_beq_iff (nameB (candD s k)) s).2 he
          clear he hr
          go_wp2
          go_quiet (fail)
          clear w0 w1 w2 w3 w4 w5 w6 w7 w8 w9 c6 c7 c9 c10
          go_wp2_with (go_at_call 15; (with_reducible refine (NC _).mono ?_); rintro e w1 ⟨rfl, hb1⟩)
          go_ret2
          rw [PV.out]
          exact ⟨rfl, b_cl (b_dn hb) (Nat.le_refl _) hb1⟩
        · have HNO : Hid (¬ (0 ≤ candD s k ∧ candD s k ≤ 40320 ∧ nameB (candD s k) = s)) := Lib.hid (fun e => he e.2.2)
          have w0 := wrap_in (n := 1440 * (k : Int)) (by omega) (by omega)
          have c6 : IntKind.i64.wrap ((s[6].toNat : Nat) : Int) = bt s 6 := by rw [byte_at]; exact wrap_in (by omega) (by omega)
          have c7 : IntKind.i64.wrap ((s[7].toNat : Nat) : Int) = bt s 7 := by rw [byte_at]; exact wrap_in (by omega) (by omega)
          have c9 : IntKind.i64.wrap ((s[9].toNat : Nat) : Int) = bt s 9 := by rw [byte_at]; exact wrap_in (by omega) (by omega)
          have c10 : IntKind.i64.wrap ((s[10].toNat : Nat) : Int) = bt s 10 := by rw [byte_at]; exact wrap_in (by omega) (by omega)
          have w1 := wrap_in (n := 10 * bt s 6) (by omega) (by omega)
          have w2 := wrap_in (n := 10 * bt s 6 + bt s 7) (by omega) (by omega)
          have w3 := wrap_in (n := 10 * bt s 6 + bt s 7 - 528) (by omega) (by omega)
          have w4 := wrap_in (n := 60 * (10 * bt s 6 + bt s 7 - 528)) (by omega) (by omega)
          have w5 := wrap_in (n := 1440 * (k : Int) + 60 * (10 * bt s 6 + bt s 7 - 528)) (by omega) (by omega)
          have w6 := wrap_in (n := 10 * bt s 9) (by omega) (by omega)
          have w7 := wrap_in (n := 1440 * (k : Int) + 60 * (10 * bt s 6 + bt s 7 - 528) + 10 * bt s 9) (by omega) (by omega)
          have w8 := wrap_in (n := 1440 * (k : Int) + 60 * (10 * bt s 6 + bt s 7 - 528) + 10 * bt s 9 + bt s 10) (by omega) (by omega)
          have w9 : IntKind.i64.wrap (1440 * (k : Int) + 60 * (10 * bt s 6 + bt s 7 - 528) + 10 * bt s 9 + bt s 10 - 528) = candD s k := by rw [wrap_in (by omega) (by omega)]; rfl
          have NC := fun W => (by have h := refname_any (candD s k) W; rwa [(nm_in hr.1 hr.2).1, (nm_in hr.1 hr.2).2] at h : Calls Tryd.prog 15 #[.int .i64 (candD s k)] W fun e w' => e = .returned (.tuple #[.string (nameB (candD s k)), .int .i64 0]) ∧ Below W.heap.size W w')
          have t1 := (Lib.bytes_beq_false_iff (nameB (candD s k)) s).2 he
          clear he hr
          go_wp2
          go_quiet (fail)
          clear w0 w1 w2 w3 w4 w5 w6 w7 w8 w9 c6 c7 c9 c10
          go_wp2_with (go_at_call 15; (with_reducible refine (NC _).mono ?_); rintro e w1 ⟨rfl, hb1⟩)
          go_roundw
          case rel => exact ⟨k + 1, by omega, by go_num, b_cl (b_dn hb) (Nat.le_refl _) hb1, Lib.hid (fun j hj => by
              by_cases e : j = k
              · subst e; exact HNO.out
              · exact hn.out j (by omega))⟩
          case measure => simp [intOf]; omega
      · have HNO : Hid (¬ (0 ≤ candD s k ∧ candD s k ≤ 40320 ∧ nameB (candD s k) = s)) := Lib.hid (fun e => hr ⟨e.1, e.2.1⟩)
        have w0 := wrap_in (n := 1440 * (k : Int)) (by omega) (by omega)
        have c6 : IntKind.i64.wrap ((s[6].toNat : Nat) : Int) = bt s 6 := by rw [byte_at]; exact wrap_in (by omega) (by omega)
        have c7 : IntKind.i64.wrap ((s[7].toNat : Nat) : Int) = bt s 7 := by rw [byte_at]; exact wrap_in (by omega) (by omega)
        have c9 : IntKind.i64.wrap ((s[9].toNat : Nat) : Int) = bt s 9 := by rw [byte_at]; exact wrap_in (by omega) (by omega)
        have c10 : IntKind.i64.wrap ((s[10].toNat : Nat) : Int) = bt s 10 := by rw [byte_at]; exact wrap_in (by omega) (by omega)
        have w1 := wrap_in (n := 10 * bt s 6) (by omega) (by omega)
        have w2 := wrap_in (n := 10 * bt s 6 + bt s 7) (by omega) (by omega)
        have w3 := wrap_in (n := 10 * bt s 6 + bt s 7 - 528) (by omega) (by omega)
        have w4 := wrap_in (n := 60 * (10 * bt s 6 + bt s 7 - 528)) (by omega) (by omega)
        have w5 := wrap_in (n := 1440 * (k : Int) + 60 * (10 * bt s 6 + bt s 7 - 528)) (by omega) (by omega)
        have w6 := wrap_in (n := 10 * bt s 9) (by omega) (by omega)
        have w7 := wrap_in (n := 1440 * (k : Int) + 60 * (10 * bt s 6 + bt s 7 - 528) + 10 * bt s 9) (by omega) (by omega)
        have w8 := wrap_in (n := 1440 * (k : Int) + 60 * (10 * bt s 6 + bt s 7 - 528) + 10 * bt s 9 + bt s 10) (by omega) (by omega)
        have w9 : IntKind.i64.wrap (1440 * (k : Int) + 60 * (10 * bt s 6 + bt s 7 - 528) + 10 * bt s 9 + bt s 10 - 528) = candD s k := by rw [wrap_in (by omega) (by omega)]; rfl
        have NC := fun W => refname_out (candD s k) W hr
        clear hr
        go_wp2
        go_quiet (fail)
        clear w0 w1 w2 w3 w4 w5 w6 w7 w8 w9 c6 c7 c9 c10
        go_wp2_with (go_at_call 15; (with_reducible refine (NC _).mono ?_); rintro e w1 ⟨rfl, hb1⟩)
        go_roundw
        case rel => exact ⟨k + 1, by omega, by go_num, b_cl (b_dn hb) (Nat.le_refl _) hb1, Lib.hid (fun j hj => by
            by_cases e : j = k
            · subst e; exact HNO.out
            · exact hn.out j (by omega))⟩
        case measure => simp [intOf]; omega
    · have hk29 : k = 29 := by omega
      subst hk29
      have PV := Lib.hid (parse_days hn.out)
      go_wp2
      go_ret2
      rw [PV.out]
      exact ⟨rfl, hb⟩

theorem refparse_any (s : ByteArray) (w : World) :
    Calls Tryd.prog 17 #[.string s] w fun e w' => e = .returned (.tuple #[.int .i64 (parseV s).1, .int .i64 (parseV s).2]) ∧ Below w.heap.size w w' := by
  by_cases h : s.size = 11
  · exact refparse_loop s w h
  · rw [parse_size h]
    exact refparse_short s w h

end Go.Proofs.YtbldkhlkejoklaaDoor
