/- What check of layer 21 and the document's Check return, and the library's Max of ints. Conditions: the loads can be read; Max is of one number at least. -/
import Derived.Test.YthgdclcmohgciaaRows
import Derived.Test.YthgdclcmohgciaaBase
import Derived.Test.YthgdclcmohgciaaRow
import Derived.Test.YthgdclcmohgciaaRecMath
import Derived.Test.YthgdclcmohgciaaRecHeap
import Derived.Test.YthgdclcmohgciaaIntsSame
import Derived.Test.YthgdclcmohgciaaLoadMath
import Derived.WalkKit
import Derived.WalkSpells
import Derived.WalkSmall
import Derived.Below
import Derived.Lib.Hide
import Derived.Lib.MinMax
namespace Go.Proofs.Ythgdclcmohgciaa
open Go.RowKit

theorem check21_any (A : Option Addr) (c n : Nat) (l : List Int) (w : World) (hn : Hid (l.length = n)) (hr : RdN w A l) :
    Calls Try.prog 16 #[.slice A n c] w fun e w' => e = .returned (.int .i64 (chkL l)) ∧ w = w' := by
  by_cases hmany : 2000 < n
  · have HM := Lib.hid (chkL_many (by rw [hn.out]; exact hmany))
    have HH := Lib.hid hmany
    go_enter Try.func16, Try.ntmps16
    go_wp2
    go_ret
    rw [HM.out]
    exact ⟨rfl, rfl⟩
  · have hle : n ≤ 2000 := by omega
    clear hmany
    have HR := Lib.hid hr
    clear hr
    go_enter Try.func16, Try.ntmps16
    go_wp2
    go_loop [10] (fun i => ∃ k : Nat, k ≤ n ∧ i = .int .i64 k ∧ Hid (∀ j, j < k → Few21 (l.getD j 0))) (fun i => n - (intOf i).toNat)
    case atStart => exact ⟨0, Nat.zero_le _, rfl, Lib.hid (by omega)⟩
    case round =>
      obtain ⟨k, hk, rfl, HF⟩ := hrel
      by_cases hlt : k < n
      · obtain ⟨b, off, x, rfl, hbb, hc0, hs⟩ := HR.out.getD (k := k) (by rw [hn.out]; exact hlt)
        have HW := Lib.hid fun h : ¬ Few21 x => chkL_wrong (l := l) (k := k) (by rw [hn.out]; exact hle) (by rw [hn.out]; exact hlt) (by rw [hs.out]; exact h)
        by_cases h1 : x < -1000000
        · go_wp2
          go_ret
          rw [HW.out (by unfold Few21; omega)]
          exact ⟨rfl, rfl⟩
        · by_cases h2 : 1000000 < x
          · go_wp2
            go_ret
            rw [HW.out (by unfold Few21; omega)]
            exact ⟨rfl, rfl⟩
          · go_wp2
            go_round
            case rel => exact ⟨k + 1, by omega, by go_num, Lib.hid (fun j hj => by
              by_cases e : j = k
              · subst e; rw [hs.out]; unfold Few21; omega
              · exact HF.out j (by omega))⟩
            case measure => simp [intOf]; omega
      · have HG := Lib.hid (chkL_right (l := l) (by rw [hn.out]; exact hle) (fun j hj => HF.out j (by rw [hn.out] at hj; omega)))
        go_wp2
        go_ret
        rw [HG.out]
        exact ⟨rfl, rfl⟩

theorem refcheck21_any (A : Option Addr) (c n : Nat) (l : List Int) (w : World) (hn : Hid (l.length = n)) (hr : RdN w A l) :
    Calls Try.prog 9 #[.slice A n c] w fun e w' => e = .returned (.int .i64 (chkL l)) ∧ w = w' := by
  by_cases hmany : 2000 < n
  · have HM := Lib.hid (chkL_many (by rw [hn.out]; exact hmany))
    have HH := Lib.hid hmany
    go_enter Try.func9, Try.ntmps9
    go_wp2
    go_ret
    rw [HM.out]
    exact ⟨rfl, rfl⟩
  · have hle : n ≤ 2000 := by omega
    clear hmany
    have HR := Lib.hid hr
    clear hr
    go_enter Try.func9, Try.ntmps9
    go_wp2
    go_loop [3] (fun i => ∃ k : Nat, k ≤ n ∧ i = .int .i64 k ∧ Hid (∀ j, j < k → Few21 (l.getD j 0))) (fun i => n - (intOf i).toNat)
    case atStart => exact ⟨0, Nat.zero_le _, rfl, Lib.hid (by omega)⟩
    case round =>
      obtain ⟨k, hk, rfl, HF⟩ := hrel
      by_cases hlt : k < n
      · obtain ⟨b, off, x, rfl, hbb, hc0, hs⟩ := HR.out.getD (k := k) (by rw [hn.out]; exact hlt)
        have HW := Lib.hid fun h : ¬ Few21 x => chkL_wrong (l := l) (k := k) (by rw [hn.out]; exact hle) (by rw [hn.out]; exact hlt) (by rw [hs.out]; exact h)
        by_cases h1 : x < -1000000
        · go_wp2
          go_ret
          rw [HW.out (by unfold Few21; omega)]
          exact ⟨rfl, rfl⟩
        · by_cases h2 : 1000000 < x
          · go_wp2
            go_ret
            rw [HW.out (by unfold Few21; omega)]
            exact ⟨rfl, rfl⟩
          · go_wp2
            go_round
            case rel => exact ⟨k + 1, by omega, by go_num, Lib.hid (fun j hj => by
              by_cases e : j = k
              · subst e; rw [hs.out]; unfold Few21; omega
              · exact HF.out j (by omega))⟩
            case measure => simp [intOf]; omega
      · have HG := Lib.hid (chkL_right (l := l) (by rw [hn.out]; exact hle) (fun j hj => HF.out j (by rw [hn.out] at hj; omega)))
        go_wp2
        go_ret
        rw [HG.out]
        exact ⟨rfl, rfl⟩

theorem max21_any (A : Option Addr) (c n : Nat) (l : List Int) (w : World) (hn : Hid (l.length = n)) (hr : RdN w A l) (h0 : 0 < n) (hbig : n ≤ 4611686018427387904) :
    Calls Try.prog 19 #[.slice A n c] w fun e w' => e = .returned (.int .i64 (mxL l n)) ∧ w = w' := by
  have HR := Lib.hid hr
  clear hr
  obtain ⟨b0, off0, x0, rfl, hbb0, hc00, hs0⟩ := HR.out.getD (k := 0) (by rw [hn.out]; exact h0)
  rw [Nat.add_zero] at hc00
  have H1 := Lib.hid ((mxL_one l).trans hs0.out)
  go_enter Try.func19, Try.ntmps19
  go_wp2
  go_loop [3, 4] (fun m i => ∃ (k : Nat) (y : Int), 0 < k ∧ k ≤ n ∧ i = .int .i64 k ∧ m = .int .i64 y ∧ Hid (mxL l k = y)) (fun _ i => n - (intOf i).toNat)
  case atStart => exact ⟨1, x0, Nat.one_pos, h0, rfl, rfl, H1⟩
  case round =>
    obtain ⟨k, y, hk0, hk, rfl, rfl, HY⟩ := hrel
    by_cases hlt : k < n
    · obtain ⟨b, off, x, e0, hbb, hc0, hs⟩ := HR.out.getD (k := k) (by rw [hn.out]; exact hlt)
      injection e0 with e0
      injection e0 with e1 e2 _
      subst e1 e2
      have HN : Hid (mxL l (k + 1) = max y x) := Lib.hid (by show max (mxL l k) (l.getD k 0) = _; rw [HY.out, hs.out])
      clear hc00
      go_wp2
      go_round
      case rel => exact ⟨k + 1, max y x, by omega, by omega, by go_num, rfl, HN⟩
      case measure => simp [intOf]; omega
    · obtain rfl : k = n := by omega
      clear hc00
      go_wp2
      go_ret
      rw [HY.out]
      exact ⟨rfl, rfl⟩

end Go.Proofs.Ythgdclcmohgciaa
