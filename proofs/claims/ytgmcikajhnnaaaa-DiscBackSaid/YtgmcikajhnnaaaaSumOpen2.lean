/- What Open of layer 5 returns, and the document's own, for any text. Conditions: as each theorem says. -/
import Derived.Test.YtgmcikajhnnaaaaSumOpen
namespace Go.Proofs.Ytgmcikajhnnaaaa
open Go.RowKit

theorem clones_any (s : ByteArray) (w : World) (hl : s.size ≤ 281474976710656) :
    Calls Try.prog 43 #[.string s] w fun e w' => e = .returned (.string s) ∧ Below w.heap.size w w' := by
  go_enter Try.func43, Try.ntmps43
  go_wp2_with (go_at_call 58; (with_reducible refine (clone_any _ _ hl).mono ?_); rintro e w1 ⟨rfl, hb1⟩)
  go_ret
  exact ⟨rfl, hb1⟩

theorem open_any (t : ByteArray) (w : World) (ht : t.size ≤ 281474976710656) :
    Calls Try.prog 32 #[.string t] w fun e w' => e = .returned (.tuple #[.string (openV t).1, .int .i64 (openV t).2]) ∧ Below w.heap.size w w' := by
  by_cases hs : t.size < 2
  · rw [open_short hs]
    have hs' : (t.size : Int) - 2 < 0 := by omega
    go_enter Try.func32, Try.ntmps32
    go_wp2
    go_ret2
    exact ⟨rfl, Below.refl _ _⟩
  · obtain ⟨n, hn⟩ : ∃ n : Nat, t.size - 2 = n := ⟨_, rfl⟩
    have hus : (t.extract 0 n).size = n := by rw [ByteArray.size_extract]; omega
    have S := fun W => sum_any (t.extract 0 n) W (by rw [hus]; unfold maxLen; omega)
    have K := fun W => clones_any (t.extract 0 n) W (by rw [hus]; omega)
    have N0 := sumV_bd 0 (t.extract 0 n).data.toList
    by_cases he : layB (sumV 0 (t.extract 0 (t.size - 2)).data.toList) = t.extract (t.size - 2) t.size
    · rw [open_yes hs he]
      rw [hn] at he ⊢
      generalize sumV 0 (t.extract 0 n).data.toList = m at S N0 he
      have L := fun W => lay_any m W N0.1 N0.2
      generalize layB m = b at L he
      have hq := (Lib.bytes_beq_iff (t.extract n t.size) b).2 he.symm
      have i0 : (0 : Int) ≤ (t.size : Int) - 2 := by omega
      have i1 : ((t.size : Int) - 2).toNat = n := by omega
      have i2 : (t.size : Int) - 2 = (n : Int) := by omega
      have i3 : (n : Int) ≤ (t.size : Int) := by omega
      have i4 : n ≤ t.size := by omega
      have z1 := wrap_of (n := (t.size : Int) - 2) (by omega) (by omega)
      clear he N0 hs hn hus
      go_enter Try.func32, Try.ntmps32
      go_wp2
      go_region_with (first
        | (go_at_call 41; (with_reducible refine (S _).mono ?_); rintro e w' ⟨rfl, rfl⟩)
        | (go_at_call 38; (with_reducible refine (L _).mono ?_); rintro e w1 ⟨rfl, hb1⟩))
      all_goals
        go_simp
        go_wp2_with (go_at_call 43; (with_reducible refine (K _).mono ?_); rintro e w2 ⟨rfl, hb2⟩)
        go_ret2
        refine ⟨rfl, ?_⟩
        (repeat (first | exact Below.refl _ _ | (refine b_st ?_ (by first | (simp; done) | (simp; omega))) | (refine b_al ?_ (Nat.le_refl _) _) | refine b_dn ?_ | refine b_dr ?_ | (refine b_cl ?_ (Nat.le_refl _) (by assumption))))
    · rw [open_no hs he]
      rw [hn] at he
      generalize sumV 0 (t.extract 0 n).data.toList = m at S N0 he
      have L := fun W => lay_any m W N0.1 N0.2
      generalize layB m = b at L he
      have hq := (Lib.bytes_beq_false_iff (t.extract n t.size) b).2 (fun e => he e.symm)
      have i0 : (0 : Int) ≤ (t.size : Int) - 2 := by omega
      have i1 : ((t.size : Int) - 2).toNat = n := by omega
      have i2 : (t.size : Int) - 2 = (n : Int) := by omega
      have i3 : (n : Int) ≤ (t.size : Int) := by omega
      have i4 : n ≤ t.size := by omega
      have z1 := wrap_of (n := (t.size : Int) - 2) (by omega) (by omega)
      clear he N0 hs hn hus
      go_enter Try.func32, Try.ntmps32
      go_wp2
      go_region_with (first
        | (go_at_call 41; (with_reducible refine (S _).mono ?_); rintro e w' ⟨rfl, rfl⟩)
        | (go_at_call 38; (with_reducible refine (L _).mono ?_); rintro e w1 ⟨rfl, hb1⟩))
      all_goals
        go_simp
        go_wp2_with fail
        go_ret2
        refine ⟨rfl, ?_⟩
        (repeat (first | exact Below.refl _ _ | (refine b_st ?_ (by first | (simp; done) | (simp; omega))) | (refine b_al ?_ (Nat.le_refl _) _) | refine b_dn ?_ | refine b_dr ?_ | (refine b_cl ?_ (Nat.le_refl _) (by assumption))))

end Go.Proofs.Ytgmcikajhnnaaaa
