/- What Parse of layer 4 returns, for any text. Conditions: the table of the days' names reads as the program lays it. -/
import Derived.Test.YtbldkhlkejoklaaDoorWeekParse
namespace Go.Proofs.YtbldkhlkejoklaaDoor
open Go.RowKit

theorem bt_extract (s : ByteArray) (i j k : Nat) (h : i + k < j) (hj : j ≤ s.size) : bt (s.extract i j) k = bt s (i + k) := by
  have h1 : k < (s.extract i j).size := by rw [ByteArray.size_extract]; omega
  have h2 : i + k < s.size := by omega
  rw [← byte_at _ _ h1, ← byte_at _ _ h2, ByteArray.getElem_extract]

theorem Days.drewN {w : World} (h : Days w) (n : Nat) : Days (w.drewN n) := h

theorem num_extract (s : ByteArray) (i : Nat) (hj : i + 2 ≤ s.size) : numB (s.extract i (i + 2)) = 10 * (bt s i - 48) + (bt s (i + 1) - 48) := by
  unfold numB
  rw [bt_extract s i (i + 2) 0 (by omega) hj, bt_extract s i (i + 2) 1 (by omega) hj]
  rfl

theorem numB_bd (t : ByteArray) : -528 ≤ numB t ∧ numB t ≤ 2277 := by
  have h0 := bt_bd t 0
  have h1 := bt_bd t 1
  unfold numB
  omega

theorem cand_parts {s : ByteArray} (h : s.size = 11) : (bt s 0 - 48 - 1) * 10080 + (dayIx (s.extract 2 5) : Int) * 1440 + numB (s.extract 6 8) * 60 + numB (s.extract 9 11) = cand s := by
  rw [num_extract s 6 (by omega), num_extract s 9 (by omega)]
  rfl

theorem parse_short (s : ByteArray) (w : World) (h : s.size ≠ 11) :
    Calls Tryd.prog 16 #[.string s] w fun e w' => e = .returned (.tuple #[.int .i64 0, .int .i64 7]) ∧ Below w.heap.size w w' := by
  have h1 : ((s.size : Int) == 11) = false := by simp; omega
  have h2 : ((s.size : Int) != 11) = true := by simp; omega
  clear h
  go_enter Tryd.func16, Tryd.ntmps16
  go_wp2
  go_ret2
  exact ⟨rfl, Below.refl _ _⟩

theorem parse_far (s : ByteArray) (w : World) (hd : Days w) (h : s.size = 11) (hr : ¬ (0 ≤ cand s ∧ cand s ≤ 40320)) :
    Calls Tryd.prog 16 #[.string s] w fun e w' => e = .returned (.tuple #[.int .i64 0, .int .i64 7]) ∧ Below w.heap.size w w' := by
  have s1 : ((s.size : Int) == 11) = true := by simp; omega
  have s2 : ((s.size : Int) != 11) = false := by simp; omega
  have s3 : (0 : Int) < (s.size : Int) := by omega
  have s4 : (5 : Int) ≤ (s.size : Int) := by omega
  have s5 : (8 : Int) ≤ (s.size : Int) := by omega
  have s6 : (11 : Int) ≤ (s.size : Int) := by omega
  have s7 : (2 : Int) ≤ (s.size : Int) := by omega
  have s8 : (6 : Int) ≤ (s.size : Int) := by omega
  have s9 : (9 : Int) ≤ (s.size : Int) := by omega
  have g0 : 0 < s.size := by omega
  have D0 := fun W => digit_at s 0 g0 W
  have DO := fun n => dayOf_any (s.extract 2 5) (w.drewN n) (hd.drewN n)
  have N1 := fun W => number_any (s.extract 6 8) W (by rw [ByteArray.size_extract]; omega)
  have N2 := fun W => number_any (s.extract 9 11) W (by rw [ByteArray.size_extract]; omega)
  have NC := fun W (_ : Days W) => name_out (cand s) W hr
  have b0 := bt_bd s 0
  have b1 := dayIx_le (s.extract 2 5)
  have b2 := numB_bd (s.extract 6 8)
  have b3 := numB_bd (s.extract 9 11)
  have hc := cand_parts h
  have w0 := wrap_in (n := bt s 0 - 48 - 1) (by omega) (by omega)
  have w1 := wrap_in (n := (bt s 0 - 48 - 1) * 10080) (by omega) (by omega)
  have w2 := wrap_in (n := (dayIx (s.extract 2 5) : Int) * 1440) (by omega) (by omega)
  have w3 := wrap_in (n := (bt s 0 - 48 - 1) * 10080 + (dayIx (s.extract 2 5) : Int) * 1440) (by omega) (by omega)
  have w4 := wrap_in (n := numB (s.extract 6 8) * 60) (by omega) (by omega)
  have w5 := wrap_in (n := (bt s 0 - 48 - 1) * 10080 + (dayIx (s.extract 2 5) : Int) * 1440 + numB (s.extract 6 8) * 60) (by omega) (by omega)
  have w6 : IntKind.i64.wrap ((bt s 0 - 48 - 1) * 10080 + (dayIx (s.extract 2 5) : Int) * 1440 + numB (s.extract 6 8) * 60 + numB (s.extract 9 11)) = cand s := by rw [wrap_in (by omega) (by omega), hc]
  clear hr
  clear hc h
  go_enter Tryd.func16, Tryd.ntmps16
  go_wp2
  go_quiet ((first
    | (go_at_call 27; (with_reducible exact Calls.quiet_of_same (D0 _)))
    | (go_at_call 28; (with_reducible exact Calls.quiet_of_same (DO _)))
    | (go_at_call 29; (with_reducible exact Calls.quiet_of (N1 _)))
    | (go_at_call 29; (with_reducible exact Calls.quiet_of (N2 _)))))
  clear w0 w1 w2 w3 w4 w5 w6 D0 DO N1 N2
  go_wp2_with (go_at_call 14; (with_reducible refine (NC _ (hd.drewN _)).mono ?_); rintro e w1 ⟨rfl, hb1⟩)
  go_ret2
  exact ⟨rfl, b_cl (b_dn (Below.refl _ _)) (Nat.le_refl _) hb1⟩

theorem parse_else (s : ByteArray) (w : World) (hd : Days w) (h : s.size = 11) (h0 : 0 ≤ cand s) (h1 : cand s ≤ 40320) (hn : nameB (cand s) ≠ s) :
    Calls Tryd.prog 16 #[.string s] w fun e w' => e = .returned (.tuple #[.int .i64 0, .int .i64 7]) ∧ Below w.heap.size w w' := by
  have s1 : ((s.size : Int) == 11) = true := by simp; omega
  have s2 : ((s.size : Int) != 11) = false := by simp; omega
  have s3 : (0 : Int) < (s.size : Int) := by omega
  have s4 : (5 : Int) ≤ (s.size : Int) := by omega
  have s5 : (8 : Int) ≤ (s.size : Int) := by omega
  have s6 : (11 : Int) ≤ (s.size : Int) := by omega
  have s7 : (2 : Int) ≤ (s.size : Int) := by omega
  have s8 : (6 : Int) ≤ (s.size : Int) := by omega
  have s9 : (9 : Int) ≤ (s.size : Int) := by omega
  have g0 : 0 < s.size := by omega
  have D0 := fun W => digit_at s 0 g0 W
  have DO := fun n => dayOf_any (s.extract 2 5) (w.drewN n) (hd.drewN n)
  have N1 := fun W => number_any (s.extract 6 8) W (by rw [ByteArray.size_extract]; omega)
  have N2 := fun W => number_any (s.extract 9 11) W (by rw [ByteArray.size_extract]; omega)
  have NC := fun W hD => (by have h := name_any (cand s) W hD; rwa [(nm_in h0 h1).1, (nm_in h0 h1).2] at h : Calls Tryd.prog 14 #[.int .i64 (cand s)] W fun e w' => e = .returned (.tuple #[.string (nameB (cand s)), .int .i64 0]) ∧ Below W.heap.size W w')
  have b0 := bt_bd s 0
  have b1 := dayIx_le (s.extract 2 5)
  have b2 := numB_bd (s.extract 6 8)
  have b3 := numB_bd (s.extract 9 11)
  have hc := cand_parts h
  have w0 := wrap_in (n := bt s 0 - 48 - 1) (by omega) (by omega)
  have w1 := wrap_in (n := (bt s 0 - 48 - 1) * 10080) (by omega) (by omega)
  have w2 := wrap_in (n := (dayIx (s.extract 2 5) : Int) * 1440) (by omega) (by omega)
  have w3 := wrap_in (n := (bt s 0 - 48 - 1) * 10080 + (dayIx (s.extract 2 5) : Int) * 1440) (by omega) (by omega)
  have w4 := wrap_in (n := numB (s.extract 6 8) * 60) (by omega) (by omega)
  have w5 := wrap_in (n := (bt s 0 - 48 - 1) * 10080 + (dayIx (s.extract 2 5) : Int) * 1440 + numB (s.extract 6 8) * 60) (by omega) (by omega)
  have w6 : IntKind.i64.wrap ((bt s 0 - 48 - 1) * 10080 + (dayIx (s.extract 2 5) : Int) * 1440 + numB (s.extract 6 8) * 60 + numB (s.extract 9 11)) = cand s := by rw [wrap_in (by omega) (by omega), hc]
  have t1 := (Lib.bytes_beq_false_iff (nameB (cand s)) s).2 hn
  clear hn
  clear hc h
  go_enter Tryd.func16, Tryd.ntmps16
  go_wp2
  go_quiet ((first
    | (go_at_call 27; (with_reducible exact Calls.quiet_of_same (D0 _)))
    | (go_at_call 28; (with_reducible exact Calls.quiet_of_same (DO _)))
    | (go_at_call 29; (with_reducible exact Calls.quiet_of (N1 _)))
    | (go_at_call 29; (with_reducible exact Calls.quiet_of (N2 _)))))
  clear w0 w1 w2 w3 w4 w5 w6 D0 DO N1 N2
  go_wp2_with (go_at_call 14; (with_reducible refine (NC _ (hd.drewN _)).mono ?_); rintro e w1 ⟨rfl, hb1⟩)
  go_ret2
  exact ⟨rfl, b_cl (b_dn (Below.refl _ _)) (Nat.le_refl _) hb1⟩

theorem parse_name (s : ByteArray) (w : World) (hd : Days w) (h : s.size = 11) (h0 : 0 ≤ cand s) (h1 : cand s ≤ 40320) (hn : nameB (cand s) = s) :
    Calls Tryd.prog 16 #[.string s] w fun e w' => e = .returned (.tuple #[.int .i64 (cand s), .int .i64 0]) ∧ Below w.heap.size w w' := by
  have s1 : ((s.size : Int) == 11) = true := by simp; omega
  have s2 : ((s.size : Int) != 11) = false := by simp; omega
  have s3 : (0 : Int) < (s.size : Int) := by omega
  have s4 : (5 : Int) ≤ (s.size : Int) := by omega
  have s5 : (8 : Int) ≤ (s.size : Int) := by omega
  have s6 : (11 : Int) ≤ (s.size : Int) := by omega
  have s7 : (2 : Int) ≤ (s.size : Int) := by omega
  have s8 : (6 : Int) ≤ (s.size : Int) := by omega
  have s9 : (9 : Int) ≤ (s.size : Int) := by omega
  have g0 : 0 < s.size := by omega
  have D0 := fun W => digit_at s 0 g0 W
  have DO := fun n => dayOf_any (s.extract 2 5) (w.drewN n) (hd.drewN n)
  have N1 := fun W => number_any (s.extract 6 8) W (by rw [ByteArray.size_extract]; omega)
  have N2 := fun W => number_any (s.extract 9 11) W (by rw [ByteArray.size_extract]; omega)
  have NC := fun W hD => (by have h := name_any (cand s) W hD; rwa [(nm_in h0 h1).1, (nm_in h0 h1).2] at h : Calls Tryd.prog 14 #[.int .i64 (cand s)] W fun e w' => e = .returned (.tuple #[.string (nameB (cand s)), .int .i64 0]) ∧ Below W.heap.size W w')
  have b0 := bt_bd s 0
  have b1 := dayIx_le (s.extract 2 5)
  have b2 := numB_bd (s.extract 6 8)
  have b3 := numB_bd (s.extract 9 11)
  have hc := cand_parts h
  have w0 := wrap_in (n := bt s 0 - 48 - 1) (by omega) (by omega)
  have w1 := wrap_in (n := (bt s 0 - 48 - 1) * 10080) (by omega) (by omega)
  have w2 := wrap_in (n := (dayIx (s.extract 2 5) : Int) * 1440) (by omega) (by omega)
  have w3 := wrap_in (n := (bt s 0 - 48 - 1) * 10080 + (dayIx (s.extract 2 5) : Int) * 1440) (by omega) (by omega)
  have w4 := wrap_in (n := numB (s.extract 6 8) * 60) (by omega) (by omega)
  have w5 := wrap_in (n := (bt s 0 - 48 - 1) * 10080 + (dayIx (s.extract 2 5) : Int) * 1440 + numB (s.extract 6 8) * 60) (by omega) (by omega)
  have w6 : IntKind.i64.wrap ((bt s 0 - 48 - 1) * 10080 + (dayIx (s.extract 2 5) : Int) * 1440 + numB (s.extract 6 8) * 60 + numB (s.extract 9 11)) = cand s := by rw [wrap_in (by omega) (by omega), hc]
  have t1 := (Lib.bytes_beq_iff (nameB (cand s)) s).2 hn
  clear hn
  clear hc h
  go_enter Tryd.func16, Tryd.ntmps16
  go_wp2
  go_quiet ((first
    | (go_at_call 27; (with_reducible exact Calls.quiet_of_same (D0 _)))
    | (go_at_call 28; (with_reducible exact Calls.quiet_of_same (DO _)))
    | (go_at_call 29; (with_reducible exact Calls.quiet_of (N1 _)))
    | (go_at_call 29; (with_reducible exact Calls.quiet_of (N2 _)))))
  clear w0 w1 w2 w3 w4 w5 w6 D0 DO N1 N2
  go_wp2_with (go_at_call 14; (with_reducible refine (NC _ (hd.drewN _)).mono ?_); rintro e w1 ⟨rfl, hb1⟩)
  go_ret2
  exact ⟨rfl, b_cl (b_dn (Below.refl _ _)) (Nat.le_refl _) hb1⟩

theorem parse_any (s : ByteArray) (w : World) (hd : Days w) :
    Calls Tryd.prog 16 #[.string s] w fun e w' => e = .returned (.tuple #[.int .i64 (parseV s).1, .int .i64 (parseV s).2]) ∧ Below w.heap.size w w' := by
  by_cases h : s.size = 11
  · by_cases hr : 0 ≤ cand s ∧ cand s ≤ 40320
    · by_cases hn : nameB (cand s) = s
      · rw [parse_in hr.1 hr.2 hn]
        exact parse_name s w hd h hr.1 hr.2 hn
      · rw [parse_other hn]
        exact parse_else s w hd h hr.1 hr.2 hn
    · rw [parse_out hr]
      exact parse_far s w hd h hr
  · rw [parse_size h]
    exact parse_short s w h

end Go.Proofs.YtbldkhlkejoklaaDoor
