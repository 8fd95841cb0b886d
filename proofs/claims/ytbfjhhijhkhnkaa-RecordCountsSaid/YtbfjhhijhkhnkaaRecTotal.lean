/- What Total and Kind of layer 8 return. Conditions: the records can be read. -/
import Derived.Test.YtbfjhhijhkhnkaaRows
import Derived.Test.YtbfjhhijhkhnkaaBase
import Derived.Test.YtbfjhhijhkhnkaaRow
import Derived.Test.YtbfjhhijhkhnkaaRecMath
import Derived.Test.YtbfjhhijhkhnkaaRecMath2
import Derived.Test.YtbfjhhijhkhnkaaRecHeap
import Derived.Test.YtbfjhhijhkhnkaaRecLeaf
import Derived.Test.YtbfjhhijhkhnkaaRecCheck
import Derived.Test.YtbfjhhijhkhnkaaRecSmall
import Derived.Test.YtbfjhhijhkhnkaaIvalLeaf
import Derived.WalkKit
import Derived.WalkSpells
import Derived.WalkSmall
import Derived.Below
import Derived.Outline
import Derived.OwnWalk
import Derived.Lib.Hide
import Derived.BigQuiet
import Derived.Deep.QuietTactic
namespace Go.Proofs.Ytbfjhhijhkhnkaa
open Go.RowKit

theorem total_bad (A : Option Addr) (c : Nat) (l : List Rc) (K : Int) (w : World) (h : RdR w A l) (hl : l.length ≤ 4611686018427387904) (h0 : (checkV l).2 ≠ 0) :
    Calls Try.prog 21 #[.slice A l.length c, .int .i64 K] w fun e w' => e = .returned (.tuple #[.int .i64 0, .int .i64 (checkV l).2]) ∧ Below w.heap.size w w' := by
  have CK := fun W (hr : RdR W A l) => check_any A c l W hr hl
  obtain ⟨p, e, hv⟩ : ∃ p e, checkV l = (p, e) := ⟨_, _, rfl⟩
  rw [hv] at CK h0 ⊢
  have e1 : (e == 0) = false := by simpa using h0
  have e2 : (e != 0) = true := by simpa using h0
  have HR := Lib.hid h
  clear h0 hv h
  go_enter Try.func21, Try.ntmps21
  go_wp2_with (go_at_call 8; (with_reducible refine (CK _ HR.out).mono ?_); rintro e w1 ⟨rfl, hb1⟩)
  go_ret2
  exact ⟨rfl, hb1⟩

theorem total_none (A : Option Addr) (c : Nat) (l : List Rc) (K : Int) (w : World) (h : RdR w A l) (hl : l.length ≤ 4611686018427387904) (h0 : (checkV l).2 = 0) (hK : ¬ (0 ≤ K ∧ K < 4)) :
    Calls Try.prog 21 #[.slice A l.length c, .int .i64 K] w fun e w' => e = .returned (.tuple #[.int .i64 0, .int .i64 2]) ∧ Below w.heap.size w w' := by
  have CK := fun W (hr : RdR W A l) => check_any A c l W hr hl
  rw [tl_check (check_tl h0)] at CK
  have KN := fun W => isKind_no K W hK
  have HR := Lib.hid h
  clear h0 h hK
  go_enter Try.func21, Try.ntmps21
  go_wp2_with (first | (go_at_call 8; (with_reducible refine (CK _ HR.out).mono ?_); rintro e w1 ⟨rfl, hb1⟩) | (go_at_call 35; (with_reducible refine (KN _).mono ?_); rintro e w' ⟨rfl, rfl⟩))
  go_ret2
  exact ⟨rfl, hb1⟩

set_option maxRecDepth 100000 in
set_option maxHeartbeats 2000000 in
theorem total_ok (A : Option Addr) (c : Nat) (l : List Rc) (K : Int) (w : World) (h : RdR w A l) (hl : l.length ≤ 4611686018427387904) (h0 : (checkV l).2 = 0) (hK : 0 ≤ K ∧ K < 4) :
    Calls Try.prog 21 #[.slice A l.length c, .int .i64 K] w fun e w' => e = .returned (.tuple #[.int .i64 ((kindsV l).count K : Nat), .int .i64 0]) ∧ Below w.heap.size w w' := by
  have CK := fun W (hr : RdR W A l) => check_any A c l W hr hl
  rw [tl_check (check_tl h0)] at CK
  have KN := fun W => isKind_yes K W hK
  have HT := Lib.hid (check_tl h0)
  have HR := Lib.hid h
  clear h0 h hK
  go_enter Try.func21, Try.ntmps21
  go_wp2_with (first | (go_at_call 8; (with_reducible refine (CK _ HR.out).mono ?_); rintro e w1 ⟨rfl, hb1⟩) | (go_at_call 35; (with_reducible refine (KN _).mono ?_); rintro e w' ⟨rfl, rfl⟩))
  have HR1 := Lib.hid (HR.out.below hb1)
  go_loopw [8, 24] (fun t i wr => ∃ (k m : Nat), k ≤ l.length ∧ i = .int .i64 k ∧ t = .int .i64 m ∧ Hid ((kindsV (l.take k)).count K = m) ∧ Below w1.heap.size w1 wr) (fun _ i _ => l.length - (intOf i).toNat)
  case atStart => exact ⟨0, 0, Nat.zero_le _, rfl, rfl, Lib.hid rfl, Below.refl _ _⟩
  case round =>
    obtain ⟨k, m, hk, rfl, rfl, hm, hb⟩ := hrel
    obtain ⟨w2, rfl⟩ : ∃ w2 : World, w2 = wr := ⟨_, rfl⟩
    have hsz := hb.size
    by_cases hlt : k < l.length
    · obtain ⟨b, off, x, y, z, rfl, hbb, hc0, hc1, hc2, hs⟩ := HR1.out.at_ hlt
      rw [← hb.cell (p := ⟨b, _, none⟩) hbb] at hc0 hc1 hc2
      have hbr : b < w2.heap.size := by omega
      have CM := Lib.hid (count_more (K := K) hlt hs.out)
      have LE := count_le l (k + 1) K HT.out
      have bd : (0 ≤ x ∧ x < 4) ∧ 0 ≤ y ∧ y < z ∧ z ≤ 40320 := by
        have := HT.out.at_ k hlt
        rw [hs.out] at this
        exact this
      obtain ⟨_, bd0, bd1, bd2⟩ := bd
      by_cases hx : x = K
      · subst hx
        rw [CM.out, hm.out, if_pos rfl] at LE
        have CM2 := Lib.hid (CM.out.trans (by rw [hm.out, if_pos rfl]))
        have e1 : (x == x) = true := by simp
        obtain ⟨d, hd⟩ : ∃ d : Nat, (z - y).toNat = d := ⟨_, rfl⟩
        rw [hd] at LE CM2
        have hd2 : z - y = (d : Int) := by omega
        clear hd
        go_wp2
        go_roundw
        case rel => exact ⟨k + 1, m + d, by omega, by go_num, by go_num, CM2, hb.alloc hb.size _⟩
        case measure => simp [intOf]; omega
      · have CM2 := Lib.hid (CM.out.trans (by rw [hm.out, if_neg hx, Nat.add_zero]))
        have e1 : (x == K) = false := by simpa using hx
        clear hx
        go_wp2
        go_roundw
        case rel => exact ⟨k + 1, m, by omega, by go_num, rfl, CM2, hb.alloc hb.size _⟩
        case measure => simp [intOf]; omega
    · have hkl : k = l.length := by omega
      subst hkl
      have HE := Lib.hid (show (kindsV l).count K = m by rw [← hm.out, List.take_of_length_le (Nat.le_refl _)])
      go_wp2
      go_ret2
      rw [HE.out]
      exact ⟨rfl, b_tr hb1 hb⟩

theorem kind_bad_any (A : Option Addr) (c : Nat) (l : List Rc) (K : Int) (w : World) (h : RdR w A l) (hl : l.length ≤ 4611686018427387904) (h0 : (checkV l).2 ≠ 0) :
    Calls Try.prog 22 #[.slice A l.length c, .int .i64 K] w fun e w' => e = .returned (.tuple #[.int .i64 0, .bool false]) ∧ Below w.heap.size w w' := by
  have IT := fun W (hr : RdR W A l) => istime_any A c l W hr hl
  have e1 : ((checkV l).2 == 0) = false := by simpa using h0
  rw [e1] at IT
  have HR := Lib.hid h
  clear h0 h e1
  go_enter Try.func22, Try.ntmps22
  go_wp2_with (go_at_call 33; (with_reducible refine (IT _ HR.out).mono ?_); rintro e w1 ⟨rfl, hb1⟩)
  go_ret2
  exact ⟨rfl, hb1⟩

set_option maxRecDepth 100000 in
set_option maxHeartbeats 2000000 in
theorem kind_ok_any (A : Option Addr) (c : Nat) (l : List Rc) (m : Int) (w : World) (h : RdR w A l) (hl : l.length ≤ 4611686018427387904) (h0 : (checkV l).2 = 0) :
    Calls Try.prog 22 #[.slice A l.length c, .int .i64 m] w fun e w' => e = .returned (.tuple #[.int .i64 (kindAtV l m).1, .bool (kindAtV l m).2]) ∧ Below w.heap.size w w' := by
  have IT := fun W (hr : RdR W A l) => istime_any A c l W hr hl
  have e1 : ((checkV l).2 == 0) = true := by simpa using h0
  rw [e1] at IT
  have HT := Lib.hid h0
  have HR := Lib.hid h
  obtain ⟨V, hV⟩ : ∃ V, kindAtV l m = V := ⟨_, rfl⟩
  rw [hV]
  have HV := Lib.hid hV
  clear h0 h e1 hV
  go_enter Try.func22, Try.ntmps22
  go_wp2_with (go_at_call 33; (with_reducible refine (IT _ HR.out).mono ?_); rintro e w1 ⟨rfl, hb1⟩)
  have HR1 := Lib.hid (HR.out.below hb1)
  go_loopw [13] (fun i wr => ∃ (k : Nat), k ≤ l.length ∧ i = .int .i64 k ∧ Hid (∀ j, j < k → ¬ ((l.getD j rz).2.1 ≤ m ∧ m < (l.getD j rz).2.2)) ∧ Below w1.heap.size w1 wr) (fun i _ => l.length - (intOf i).toNat)
  case atStart => exact ⟨0, Nat.zero_le _, rfl, Lib.hid (fun j hj => by omega), Below.refl _ _⟩
  case round =>
    obtain ⟨k, hk, rfl, hn, hb⟩ := hrel
    obtain ⟨w2, rfl⟩ : ∃ w2 : World, w2 = wr := ⟨_, rfl⟩
    have hsz := hb.size
    by_cases hlt : k < l.length
    · obtain ⟨b, off, x, y, z, rfl, hbb, hc0, hc1, hc2, hs⟩ := HR1.out.at_ hlt
      rw [← hb.cell (p := ⟨b, _, none⟩) hbb] at hc0 hc1 hc2
      have hbr : b < w2.heap.size := by omega
      have HB := Lib.hid (hb.alloc hsz (.cells #[.int .i64 x, .int .i64 y, .int .i64 z] 47))
      by_cases hin : y ≤ m ∧ m < z
      · have HS := fun W => has_yes y z m W hin
        have HE := Lib.hid (kind_hit (m := m) HT.out hlt hs.out hin.1 hin.2)
        clear hin
        go_wp2_with (first
          | (go_at_call 30; (with_reducible refine (recspan_any _ _ _ _).mono ?_); rintro e w3 ⟨rfl, hb3⟩; have k0 : w3.cell? ⟨w2.heap.size, 0, none⟩ = some (.int .i64 x) := (c_cl (by simp) hb3))
          | (go_at_call 36; (with_reducible refine (HS _).mono ?_); rintro e w4 ⟨rfl, hb4⟩; have k1 : w4.cell? ⟨w2.heap.size, 0, none⟩ = some (.int .i64 x) := (c_cl k0 hb4)))
        go_ret2
        rw [← HV.out, HE.out]
        exact ⟨rfl, b_tr hb1 (b_cl (b_cl HB.out (Nat.le_refl _) hb3) (Nat.le_refl _) hb4)⟩
      · have HS := fun W => has_no y z m W hin
        have HN := Lib.hid (show ∀ j, j < k + 1 → ¬ ((l.getD j rz).2.1 ≤ m ∧ m < (l.getD j rz).2.2) from fun j hj => by
          by_cases e : j = k
          · subst e; rw [hs.out]; exact hin
          · exact hn.out j (by omega))
        clear hin
        go_wp2_with (first
          | (go_at_call 30; (with_reducible refine (recspan_any _ _ _ _).mono ?_); rintro e w3 ⟨rfl, hb3⟩)
          | (go_at_call 36; (with_reducible refine (HS _).mono ?_); rintro e w4 ⟨rfl, hb4⟩))
        go_roundw
        case rel => exact ⟨k + 1, by omega, by go_num, HN, b_cl (b_cl HB.out (Nat.le_refl _) hb3) (Nat.le_refl _) hb4⟩
        case measure => simp [intOf]; omega
    · have hkl : k = l.length := by omega
      subst hkl
      have HE := Lib.hid (kind_miss (m := m) HT.out hn.out)
      go_wp2
      go_ret2
      rw [← HV.out, HE.out]
      exact ⟨rfl, b_tr hb1 hb⟩

end Go.Proofs.Ytbfjhhijhkhnkaa
