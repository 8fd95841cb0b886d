/- What Add of layer 1 returns for any slice of numbers that it can read: the sum of the first ones, each of which must fit; else 0 and the error 19. Conditions: the cells read as numbers of 64 bits. -/
import Derived.Test.YthgdclcmohgciaaRows
import Derived.Test.YthgdclcmohgciaaMath
import Derived.Test.YthgdclcmohgciaaLeaf
import Derived.WalkKit
import Derived.WalkSpells
import Derived.Lib.Hide
namespace Go.Proofs.Ythgdclcmohgciaa
open Go.RowKit

theorem add_any (b off len cap : Nat) (l : List Int) (w : World) (hlen : l.length = len) (hl : len ≤ 9223372036854775807)
    (hc : ∀ i, i < len → w.cell? ⟨b, off + i, none⟩ = some (.int .i64 (l.getD i 0))) (hw : ∀ n ∈ l, -9223372036854775808 ≤ n ∧ n ≤ 9223372036854775807) :
    Calls Try.prog 18 #[.slice (some ⟨b, off, none⟩) len cap] w fun e w' => e = .returned (.tuple #[.int .i64 (sums 0 l).1, .int .i64 (sums 0 l).2]) ∧ w = w' := by
  have HC := Lib.hid hc
  have HW := Lib.hid hw
  have HL := Lib.hid hlen
  clear hc hw hlen
  go_enter Try.func18, Try.ntmps18
  go_wp2
  go_loop [4, 10] (fun s i => ∃ (k : Nat) (acc : Int), k ≤ len ∧ s = .int .i64 acc ∧ i = .int .i64 k ∧ -9223372036854775808 ≤ acc ∧ acc ≤ 9223372036854775807 ∧ Hid (sums 0 l = sums acc (l.drop k))) (fun _ i => len - (intOf i).toNat)
  case atStart => exact ⟨0, 0, Nat.zero_le _, rfl, rfl, by decide, by decide, Lib.hid rfl⟩
  case round =>
    obtain ⟨k, acc, hk, rfl, rfl, a0, a1, hs⟩ := hrel
    by_cases hlt : k < len
    · have hcell := HC.out k hlt
      have hd := Lib.hid (drop_cons l k (by rw [HL.out]; exact hlt))
      have hz : -9223372036854775808 ≤ l.getD k 0 ∧ l.getD k 0 ≤ 9223372036854775807 := HW.out _ (by
        have : k < l.length := by rw [HL.out]; exact hlt
        simp [List.getD, this])
      generalize hzz : l.getD k 0 = z at *
      clear hzz
      obtain ⟨z0, z1⟩ := hz
      by_cases h1 : 9223372036854775807 < acc + z
      · have hwr := (add_wrap_hi acc z a1 z1 h1).1
        have hout := Lib.hid (sums_out acc z (l.drop (k + 1)) (by omega))
        have c1 : 0 < z := by omega
        go_wp2
        go_ret2
        rw [hs.out, hd.out, hout.out]
        exact ⟨rfl, rfl⟩
      · by_cases h2 : acc + z < -9223372036854775808
        · have hwr := (add_wrap_lo acc z a0 z0 h2).1
          have hout := Lib.hid (sums_out acc z (l.drop (k + 1)) (by omega))
          have c1 : z < 0 := by omega
          go_wp2
          go_ret2
          rw [hs.out, hd.out, hout.out]
          exact ⟨rfl, rfl⟩
        · have h3 : acc + z ≤ 9223372036854775807 := by omega
          have h4 : -9223372036854775808 ≤ acc + z := by omega
          have hin := Lib.hid (sums_in acc z (l.drop (k + 1)) (by omega))
          clear h1 h2
          by_cases c1 : 0 < z
          · go_wp2
            go_round
            case rel => exact ⟨k + 1, acc + z, by omega, rfl, by go_num, h4, h3, Lib.hid (by rw [hs.out, hd.out, hin.out])⟩
            case measure => simp [intOf]; omega
          · by_cases c2 : z < 0
            all_goals
              go_wp2
              go_round
              case rel => exact ⟨k + 1, acc + z, by omega, rfl, by go_num, h4, h3, Lib.hid (by rw [hs.out, hd.out, hin.out])⟩
              case measure => simp [intOf]; omega
    · have hkl : l.length ≤ k := by rw [HL.out]; omega
      have hd := Lib.hid (List.drop_eq_nil_of_le hkl)
      clear hkl
      go_wp2
      go_ret2
      rw [hs.out, hd.out, sums_nil]
      exact ⟨rfl, rfl⟩

theorem add_nil (a : Option Addr) (cap : Nat) (w : World) :
    Calls Try.prog 18 #[.slice a 0 cap] w fun e w' => e = .returned (.tuple #[.int .i64 0, .int .i64 0]) ∧ w = w' := by
  go_enter Try.func18, Try.ntmps18
  go_wp2
  go_loop [4, 10] (fun s i => s = .int .i64 0 ∧ i = .int .i64 0) (fun _ _ => 0)
  case atStart => exact ⟨rfl, rfl⟩
  case round =>
    obtain ⟨rfl, rfl⟩ := hrel
    go_wp2
    go_ret2
    exact ⟨rfl, rfl⟩

/-- Of two numbers in one new block. -/
theorem add_two (b cap : Nat) (x y : Int) (w : World) (h0 : w.cell? ⟨b, 0, none⟩ = some (.int .i64 x)) (h1 : w.cell? ⟨b, 1, none⟩ = some (.int .i64 y))
    (hx : -9223372036854775808 ≤ x ∧ x ≤ 9223372036854775807) (hy : -9223372036854775808 ≤ y ∧ y ≤ 9223372036854775807) :
    Calls Try.prog 18 #[.slice (some ⟨b, 0, none⟩) 2 cap] w fun e w' => e = .returned (.tuple #[.int .i64 (fit (x + y)).1, .int .i64 (fit (x + y)).2]) ∧ w = w' := by
  have h := add_any b 0 2 cap [x, y] w rfl (by decide) (fun i hi => by
    match i, hi with
    | 0, _ => simpa using h0
    | 1, _ => simpa using h1) (by
    intro n hn
    simp only [List.mem_cons, List.not_mem_nil, or_false] at hn
    rcases hn with rfl | rfl
    · exact hx
    · exact hy)
  rwa [sums_two x y hx] at h

/-- The two cells of a new block. -/
theorem two_cells (w : World) (a b : Value) (t : TypeId) :
    (w.alloc (.cells #[a, b] t)).cell? ⟨w.heap.size, 0, none⟩ = some a ∧ (w.alloc (.cells #[a, b] t)).cell? ⟨w.heap.size, 1, none⟩ = some b := by
  constructor <;> simp

end Go.Proofs.Ythgdclcmohgciaa
