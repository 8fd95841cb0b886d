/- What the document's Number of layer 6 returns, for any text. Conditions: as each theorem says. -/
import Derived.Test.YtdepglceffpfhaaDoorWordLeaf
namespace Go.Proofs.YtdepglceffpfhaaDoor
open Go.RowKit

theorem valF_append (n : Nat) (a b : List UInt8) : valF n (a ++ b) = valF (valF n a) b := by unfold valF; rw [List.foldl_append]

theorem valF_step {s : ByteArray} {k : Nat} (h : k < s.size) : valF 0 (s.data.toList.take (k + 1)) = 10 * valF 0 (s.data.toList.take k) + ((s[k]'h).toNat - 48) := by
  have hl : k < s.data.toList.length := by rw [size_list]; exact h
  rw [List.take_succ_eq_append_getElem hl, valF_snoc]
  rfl

theorem valF_most (s : ByteArray) (k : Nat) : valF 0 (s.data.toList.take k) ≤ numV s := by
  have e : numV s = valF (valF 0 (s.data.toList.take k)) (s.data.toList.drop k) := by
    unfold numV
    rw [← valF_append, List.take_append_drop]
  rw [e]
  exact valF_ge _ _

theorem refnumber_no (s : ByteArray) (most : Int) (w : World) (hs : s.size ≤ maxLen) (h : ¬ numOk s) :
    Calls Tryd.prog 52 #[.string s, .int .i64 most] w fun e w' => e = .returned (.tuple #[.int .i64 0, .int .i64 7]) ∧ w' = w := by
  go_enter Tryd.func52, Tryd.ntmps52
  go_wp2_with (go_at_call 51; (with_reducible refine (text_no _ _ hs h).mono ?_); rintro e w' ⟨rfl, rfl⟩)
  go_ret2
  exact ⟨rfl, rfl⟩

theorem refnumber_yes (s : ByteArray) (most : Int) (w : World) (hm : most ≤ 9223372036854775807) (hs : s.size ≤ maxLen) (h : numOk s) :
    Calls Tryd.prog 52 #[.string s, .int .i64 most] w fun e w' => e = .returned (.tuple #[.int .i64 (numberV s most).1, .int .i64 (numberV s most).2]) ∧ w' = w := by
  have hd := Lib.hid h.2.1
  have H := Lib.hid h
  unfold maxLen at hs
  have I := fun W => text_yes s W (by unfold maxLen; omega) h
  clear h
  go_enter Tryd.func52, Tryd.ntmps52
  go_wp2_with (go_at_call 51; (with_reducible refine (I _).mono ?_); rintro e w' ⟨rfl, rfl⟩)
  go_loop [6, 7] (fun n i => ∃ k v : Nat, k ≤ s.size ∧ v ≤ 9223372036854775807 ∧ n = .int .i64 v ∧ i = .int .i64 k ∧ Hid (valF 0 (s.data.toList.take k) = v)) (fun _ i => s.size - (intOf i).toNat)
  case atStart => exact ⟨0, 0, Nat.zero_le _, by omega, rfl, rfl, Lib.hid rfl⟩
  case round =>
    obtain ⟨k, v, hk, hv, rfl, rfl, HV⟩ := hrel
    by_cases hlt : k < s.size
    · have d := dig_at hd.out hlt
      rw [← byte_bt s k hlt] at d
      obtain ⟨d1, d2⟩ := d
      have HS := Lib.hid (valF_step hlt)
      have HG := Lib.hid (valF_most s (k + 1))
      by_cases hbig : (9223372036854775807 : Int) < 10 * (v : Int) + (((s[k]'hlt).toNat : Int) - 48)
      · have HE := Lib.hid (number_far (most := most) H.out (by have := HG.out; rw [HS.out, HV.out] at this; omega))
        have c1 : (9223372036854775807 - (((s[k]'hlt).toNat : Int) - 48)) / 10 < (v : Int) := by omega
        go_wp2
        go_ret2
        rw [HE.out]
        exact ⟨rfl, rfl⟩
      · have c1 : ¬ (9223372036854775807 - (((s[k]'hlt).toNat : Int) - 48)) / 10 < (v : Int) := by omega
        go_wp2
        go_round
        case rel => exact ⟨k + 1, 10 * v + ((s[k]'hlt).toNat - 48), by omega, by omega, by congr 1; omega, by go_num, Lib.hid (by rw [HS.out, HV.out])⟩
        case measure => simp [intOf]; omega
    · have hn : numV s = v := by
        rw [← HV.out, List.take_of_length_le (by rw [size_list]; omega)]
        rfl
      by_cases hmv : most < (v : Int)
      · have HE := Lib.hid (number_far (most := most) H.out (by omega))
        go_wp2
        go_ret2
        rw [HE.out]
        exact ⟨rfl, rfl⟩
      · have HE := Lib.hid (number_good (most := most) H.out (by omega))
        rw [hn] at HE
        go_wp2
        go_ret2
        rw [HE.out]
        exact ⟨rfl, rfl⟩

theorem refnumber_any (s : ByteArray) (most : Int) (w : World) (hm : most ≤ 9223372036854775807) (hs : s.size ≤ maxLen) :
    Calls Tryd.prog 52 #[.string s, .int .i64 most] w fun e w' => e = .returned (.tuple #[.int .i64 (numberV s most).1, .int .i64 (numberV s most).2]) ∧ w' = w := by
  by_cases h : numOk s
  · exact refnumber_yes s most w hm hs h
  · rw [number_form h]
    exact refnumber_no s most w hs h

end Go.Proofs.YtdepglceffpfhaaDoor
