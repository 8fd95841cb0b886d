/- What Name of layer 4 returns, for any number of 64 bits. Conditions: the table of the days' names reads as the program lays it. -/
import Derived.Test.YtbldkhlkejoklaaDoorWeekNameC
namespace Go.Proofs.YtbldkhlkejoklaaDoor
open Go.RowKit

theorem div_c (a b q r : Int) (w : World) (ha : -9223372036854775808 ≤ a ∧ a ≤ 9223372036854775807) (hb : 1 ≤ b) (hb1 : b ≤ 9223372036854775807) (hq : a / b = q) (hr : a % b = r) :
    Calls Tryd.prog 19 #[.int .i64 a, .int .i64 b] w fun e w' => e = .returned (.tuple #[.int .i64 q, .int .i64 r, .int .i64 0]) ∧ Below w.heap.size w w' := by
  have h := div_any a b w ha ⟨by omega, hb1⟩
  simp only [dv_ok a b hb, hq, hr] at h
  exact h.mono fun e w' ⟨he, n, hn⟩ => ⟨he, by rw [hn]; exact b_dn (Below.refl _ _)⟩

theorem join_name (a b c d e f g : UInt8) (d1 d2 d3 : UInt8) :
    (⟨#[a]⟩ : ByteArray) ++ ⟨#[b]⟩ ++ ⟨#[d1, d2, d3]⟩ ++ ⟨#[b]⟩ ++ ⟨#[c, d]⟩ ++ ⟨#[e]⟩ ++ ⟨#[f, g]⟩ = ⟨#[a, b, d1, d2, d3, b, c, d, e, f, g]⟩ := by
  apply ByteArray.ext
  simp [ByteArray.data_append]

theorem name_form {m q r r2 h mi : Int} {k : Nat} (hq : m / 10080 = q) (hk : r / 1440 = (k : Int)) (hr2 : r % 1440 = r2) (hh : r2 / 60 = h) (hmi : r2 % 60 = mi) (hr : m % 10080 = r) :
    nameB m = ⟨#[dg (q + 1), 32, (dayC k).1, (dayC k).2.1, (dayC k).2.2, 32, dg (h / 10), dg (h % 10), 58, dg (mi / 10), dg (mi % 10)]⟩ := by
  have e1 : m / 1440 % 7 = (k : Int) := by omega
  have e2 : m / 60 % 24 = h := by omega
  have e3 : m % 60 = mi := by omega
  unfold nameB
  rw [e1, e2, e3, hq]
  rfl

theorem name_walk (m q r r2 h mi : Int) (k : Nat) (w : World) (hd : Days w) (hm0 : 0 ≤ m) (hm1 : m ≤ 40320) (hq : m / 10080 = q) (hr : m % 10080 = r) (hk : r / 1440 = (k : Int)) (hr2 : r % 1440 = r2) (hh : r2 / 60 = h) (hmi : r2 % 60 = mi) :
    Calls Tryd.prog 14 #[.int .i64 m] w fun e w' => e = .returned (.tuple #[.string (nameB m), .int .i64 0]) ∧ Below w.heap.size w w' := by
  have b1 : 0 ≤ q := by omega
  have b2 : q ≤ 4 := by omega
  have b3 : k < 7 := by omega
  have b4 : 0 ≤ h := by omega
  have b5 : h ≤ 23 := by omega
  have b6 : 0 ≤ mi := by omega
  have b7 : mi ≤ 59 := by omega
  have b8 : 0 ≤ r := by omega
  have b9 : r ≤ 10079 := by omega
  have b10 : 0 ≤ r2 := by omega
  have b11 : r2 ≤ 1439 := by omega
  have C1 := fun W => div_c m 10080 q r W (by omega) (by omega) (by omega) hq hr
  have C2 := fun W => div_c r 1440 k r2 W (by omega) (by omega) (by omega) hk hr2
  have C3 := fun W => div_c r2 60 h mi W (by omega) (by omega) (by omega) hh hmi
  have I1 := fun W => itoa_dig (q + 1) W (by omega) (by omega)
  have T1 := fun W => two_dig h W (by omega) (by omega)
  have T2 := fun W => two_dig mi W (by omega) (by omega)
  have EN := Lib.hid (name_form hq hk hr2 hh hmi hr)
  have hc := hd k b3
  have hlt := hd.lt
  clear hq hr hk hr2 hh hmi
  go_enter Tryd.func14, Tryd.ntmps14
  go_wp2_with (first
    | (go_at_call 19; (with_reducible refine (C1 _).mono ?_); rintro e w1 ⟨rfl, hb1⟩; have hc1 := c_cl hc hb1)
    | (go_at_call 19; (with_reducible refine (C2 _).mono ?_); rintro e w2 ⟨rfl, hb2⟩; have hc2 := c_cl hc1 hb2)
    | (go_at_call 19; (with_reducible refine (C3 _).mono ?_); rintro e w3 ⟨rfl, hb3⟩; have hc3 := c_cl hc2 hb3))
  clear hc hc1 hc2
  have k0 : (0 : Int) ≤ (k : Int) := by omega
  have k1 : (k : Int) < 7 := by omega
  have hds : (dayB k).size = 3 := rfl
  have hw1 : IntKind.i64.wrap (q + 1) = q + 1 := IntWalk.i64_in _ (by omega)
  go_quiet ((first
    | (go_at_call 24; (with_reducible exact Calls.quiet_of_same (I1 _)))
    | (go_at_call 25; (with_reducible exact Calls.quiet_of_same (T1 _)))
    | (go_at_call 25; (with_reducible exact Calls.quiet_of_same (T2 _)))))
  go_wp2
  go_ret2
  refine ⟨?_, b_dn (b_cl (b_cl hb1 (Nat.le_refl _) hb2) (Nat.le_refl _) hb3)⟩
  rw [EN.out, ← join_name]
  rfl

theorem name_out (m : Int) (w : World) (h : ¬ (0 ≤ m ∧ m ≤ 40320)) :
    Calls Tryd.prog 14 #[.int .i64 m] w fun e w' => e = .returned (.tuple #[.string ⟨#[]⟩, .int .i64 4]) ∧ Below w.heap.size w w' := by
  by_cases h0 : m < 0
  · clear h
    go_enter Tryd.func14, Tryd.ntmps14
    go_wp2
    go_ret2
    exact ⟨rfl, Below.refl _ _⟩
  · have h1 : 40320 < m := by omega
    have h2 : 0 ≤ m := by omega
    clear h h0
    go_enter Tryd.func14, Tryd.ntmps14
    go_wp2
    go_ret2
    exact ⟨rfl, Below.refl _ _⟩

theorem name_any (m : Int) (w : World) (hd : Days w) :
    Calls Tryd.prog 14 #[.int .i64 m] w fun e w' => e = .returned (.tuple #[.string (nmS m), .int .i64 (nmE m)]) ∧ Below w.heap.size w w' := by
  by_cases h : 0 ≤ m ∧ m ≤ 40320
  · rw [(nm_in h.1 h.2).1, (nm_in h.1 h.2).2]
    exact name_walk m _ _ _ _ _ (m % 10080 / 1440).toNat w hd h.1 h.2 rfl rfl (by omega) rfl rfl rfl
  · rw [(nm_out h).1, (nm_out h).2]
    exact name_out m w h

theorem alive4_any (w : World) (hd : Days w) :
    Calls Tryd.prog 10 #[] w fun e w' => e = .returned (.bool true) ∧ Below w.heap.size w w' := by
  have C := fun W h => name_any 1505 W h
  rw [(nm_in (m := 1505) (by omega) (by omega)).1, (nm_in (m := 1505) (by omega) (by omega)).2, name_alive] at C
  go_enter Tryd.func10, Tryd.ntmps10
  go_wp2_with (go_at_call 14; refine (C _ hd).mono ?_; rintro e w1 ⟨rfl, hb1⟩)
  go_ret
  exact ⟨rfl, hb1⟩

end Go.Proofs.YtbldkhlkejoklaaDoor
