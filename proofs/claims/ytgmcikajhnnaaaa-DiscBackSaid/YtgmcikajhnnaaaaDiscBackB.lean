/- Ways of the law DiscBack, each with what its calls return as premises. Conditions: as each theorem says. -/
import Derived.Test.YtgmcikajhnnaaaaRows
import Derived.Test.YtgmcikajhnnaaaaDiscLeaf
import Derived.Test.YtgmcikajhnnaaaaRecHeap
import Derived.Test.YtgmcikajhnnaaaaRow
import Derived.Test.YtgmcikajhnnaaaaBytes
import Derived.Test.YtgmcikajhnnaaaaSumMath
import Derived.WalkKit
import Derived.WalkSpells
import Derived.WalkSmall
import Derived.Below
import Derived.Lib.Hide
import Derived.Outline
import Derived.OwnWalk
import Derived.BigQuiet
import Derived.RegionTactic
import Derived.Deep.QuietTactic
import Derived.Deep.RegionHeld3
import Derived.Laws.BytesArg
namespace Go.Proofs.Ytgmcikajhnnaaaa
open Go.RowKit

set_option maxRecDepth 100000 in
set_option maxHeartbeats 4000000 in
theorem back_h2_bad (A0 : Option Addr) (c0 n0 : Nat) (l0 : List Rc) (t s1 : ByteArray) (a1 a2 : Int) (R : List Rc) (m : Nat) (w : World)
    (hr : RdR w A0 l0) (h100 : (n0 : Int) ≤ 100) (h3000 : (s1.size : Int) ≤ 3000)
    (E1 : ∀ W, RdR W A0 l0 → Calls Try.prog 10 #[.slice A0 n0 c0] W fun e w' => e = .returned (.tuple #[.string t, .int .i64 0]) ∧ Below W.heap.size W w')
    (D1 : ∀ W, Calls Try.prog 12 #[.string t] W fun e w' => ∃ A c, e = .returned (.tuple #[.slice A m c, .int .i64 0, .int .i64 0]) ∧ RdR w' A R ∧ Below W.heap.size W w')
    (N1 : ∀ W, RdR W A0 l0 → Calls Try.prog 13 #[.slice A0 n0 c0] W fun e w' => ∃ A c, e = .returned (.tuple #[.slice A m c, .int .i64 0]) ∧ RdR w' A R ∧ Below W.heap.size W w')
    (SM : ∀ (A B : Option Addr) (c d : Nat) W, RdR W A R → RdR W B R → Calls Try.prog 14 #[.slice A m c, .slice B m d] W fun e w' => e = .returned (.bool true) ∧ Below W.heap.size W w')
    (tz : t.size ≤ 100000)
    (g1 : 0 ≤ a1) (g2 : (t.size : Int) - 2 ≤ a1)
    (D2 : ∀ W, Calls Try.prog 12 #[.string s1] W fun e w' => ∃ pl er2, e = .returned (.tuple #[.slice none 0 0, .int .i64 pl, .int .i64 er2]) ∧ (er2 != 0) = true ∧ Below W.heap.size W w') :
    Calls Try.prog 5 #[.slice A0 n0 c0, .string s1, .agg #[.int .i64 a1, .int .u8 a2]] w fun e w' => e = .returned (.bool true) ∧ Below w.heap.size w w' := by
  have HR := Lib.hid (hr.below ((Below.refl _ _).alloc (Nat.le_refl _) (.cells #[.int .i64 a1, .int .u8 a2] 34)))
  clear hr
  have x00 : (w.alloc (.cells #[.int .i64 a1, .int .u8 a2] 34)).cell? ⟨w.heap.size, 0, none⟩ = some (.int .i64 a1) := by simp
  have x01 : (w.alloc (.cells #[.int .i64 a1, .int .u8 a2] 34)).cell? ⟨w.heap.size, 1, none⟩ = some (.int .u8 a2) := by simp
  have f1 : decide ((0 : Int) ≤ a1) = true := decide_eq_true g1
  have f2 : decide (a1 < (t.size : Int) - 2) = false := decide_eq_false (by omega)
  go_enter Try.func5, Try.ntmps5
  go_wp2_with (first
    | (go_at_call 10; (with_reducible refine (E1 _ HR.out).mono ?_); rintro e w1 ⟨rfl, hb1⟩; have x10 := c_cl x00 hb1; have x11 := c_cl x01 hb1; have HR1 := Lib.hid (HR.out.below hb1))
    | (go_at_call 12; (with_reducible refine (D1 _).mono ?_); rintro e w2 ⟨A2, c2, rfl, hr2, hb2⟩; have x20 := c_cl x10 hb2; have x21 := c_cl x11 hb2; have HR2 := Lib.hid (HR1.out.below hb2); have HA2 := Lib.hid hr2; clear hr2)
    | (go_at_call 13; (with_reducible refine (N1 _ HR2.out).mono ?_); rintro e w3 ⟨A3, c3, rfl, hr3, hb3⟩; have x30 := c_cl x20 hb3; have x31 := c_cl x21 hb3; have HA23 := Lib.hid (HA2.out.below hb3); have HA3 := Lib.hid hr3; clear hr3)
    | (go_at_call 14; (with_reducible refine (SM A2 A3 c2 c3 _ HA23.out HA3.out).mono ?_); rintro e w4 ⟨rfl, hb4⟩; have x40 := c_cl x30 hb4; have x41 := c_cl x31 hb4))
  have p0 : ∀ p : BelowOf w4, p.world.cell? ⟨w.heap.size, 0, none⟩ = some (.int .i64 a1) := fun p => p.cell x40
  have p1 : ∀ p : BelowOf w4, p.world.cell? ⟨w.heap.size, 1, none⟩ = some (.int .u8 a2) := fun p => p.cell x41
  refine wp_region_bel (by kernel_rfl) (by kernel_rfl) ?_
  repeat (go_big_quiet_step (first | (fail)))
  refine wpQuiet_nil ?_
  refine bel_all fun wq hbq => ?_
  have xq0 := c_cl x40 hbq
  have xq1 := c_cl x41 hbq
  clear p0 p1
  go_wp2_with (first
    | (go_at_call 12; (with_reducible refine (D2 _).mono ?_); rintro e w7 ⟨pl7, er7, rfl, hne7, hb7⟩)
    | (go_at_call 9; (with_reducible refine (alive11_any _).mono ?_); rintro e w' ⟨rfl, rfl⟩))
  go_ret
  exact ⟨rfl, by (repeat (first | exact Below.refl _ _ | (refine b_st ?_ (by first | (simp; done) | (simp; omega))) | (refine b_al ?_ (Nat.le_refl _) _) | refine b_dn ?_ | refine b_dr ?_ | (refine b_cl ?_ (Nat.le_refl _) (by assumption))))⟩

set_option maxRecDepth 100000 in
set_option maxHeartbeats 4000000 in
theorem back_h2_good (A0 : Option Addr) (c0 n0 : Nat) (l0 : List Rc) (t s1 : ByteArray) (a1 a2 : Int) (R : List Rc) (m : Nat) (b1 : List Rc) (n1 : Nat) (w : World)
    (hr : RdR w A0 l0) (h100 : (n0 : Int) ≤ 100) (h3000 : (s1.size : Int) ≤ 3000)
    (E1 : ∀ W, RdR W A0 l0 → Calls Try.prog 10 #[.slice A0 n0 c0] W fun e w' => e = .returned (.tuple #[.string t, .int .i64 0]) ∧ Below W.heap.size W w')
    (D1 : ∀ W, Calls Try.prog 12 #[.string t] W fun e w' => ∃ A c, e = .returned (.tuple #[.slice A m c, .int .i64 0, .int .i64 0]) ∧ RdR w' A R ∧ Below W.heap.size W w')
    (N1 : ∀ W, RdR W A0 l0 → Calls Try.prog 13 #[.slice A0 n0 c0] W fun e w' => ∃ A c, e = .returned (.tuple #[.slice A m c, .int .i64 0]) ∧ RdR w' A R ∧ Below W.heap.size W w')
    (SM : ∀ (A B : Option Addr) (c d : Nat) W, RdR W A R → RdR W B R → Calls Try.prog 14 #[.slice A m c, .slice B m d] W fun e w' => e = .returned (.bool true) ∧ Below W.heap.size W w')
    (tz : t.size ≤ 100000)
    (g1 : 0 ≤ a1) (g2 : (t.size : Int) - 2 ≤ a1)
    (D2 : ∀ W, Calls Try.prog 12 #[.string s1] W fun e w' => ∃ A c, e = .returned (.tuple #[.slice A n1 c, .int .i64 0, .int .i64 0]) ∧ RdR w' A b1 ∧ Below W.heap.size W w')
    (E2 : ∀ (A : Option Addr) (c : Nat) W, RdR W A b1 → Calls Try.prog 10 #[.slice A n1 c] W fun e w' => e = .returned (.tuple #[.string s1, .int .i64 0]) ∧ Below W.heap.size W w') :
    Calls Try.prog 5 #[.slice A0 n0 c0, .string s1, .agg #[.int .i64 a1, .int .u8 a2]] w fun e w' => e = .returned (.bool true) ∧ Below w.heap.size w w' := by
  have HR := Lib.hid (hr.below ((Below.refl _ _).alloc (Nat.le_refl _) (.cells #[.int .i64 a1, .int .u8 a2] 34)))
  clear hr
  have x00 : (w.alloc (.cells #[.int .i64 a1, .int .u8 a2] 34)).cell? ⟨w.heap.size, 0, none⟩ = some (.int .i64 a1) := by simp
  have x01 : (w.alloc (.cells #[.int .i64 a1, .int .u8 a2] 34)).cell? ⟨w.heap.size, 1, none⟩ = some (.int .u8 a2) := by simp
  have f1 : decide ((0 : Int) ≤ a1) = true := decide_eq_true g1
  have f2 : decide (a1 < (t.size : Int) - 2) = false := decide_eq_false (by omega)
  go_enter Try.func5, Try.ntmps5
  go_wp2_with (first
    | (go_at_call 10; (with_reducible refine (E1 _ HR.out).mono ?_); rintro e w1 ⟨rfl, hb1⟩; have x10 := c_cl x00 hb1; have x11 := c_cl x01 hb1; have HR1 := Lib.hid (HR.out.below hb1))
    | (go_at_call 12; (with_reducible refine (D1 _).mono ?_); rintro e w2 ⟨A2, c2, rfl, hr2, hb2⟩; have x20 := c_cl x10 hb2; have x21 := c_cl x11 hb2; have HR2 := Lib.hid (HR1.out.below hb2); have HA2 := Lib.hid hr2; clear hr2)
    | (go_at_call 13; (with_reducible refine (N1 _ HR2.out).mono ?_); rintro e w3 ⟨A3, c3, rfl, hr3, hb3⟩; have x30 := c_cl x20 hb3; have x31 := c_cl x21 hb3; have HA23 := Lib.hid (HA2.out.below hb3); have HA3 := Lib.hid hr3; clear hr3)
    | (go_at_call 14; (with_reducible refine (SM A2 A3 c2 c3 _ HA23.out HA3.out).mono ?_); rintro e w4 ⟨rfl, hb4⟩; have x40 := c_cl x30 hb4; have x41 := c_cl x31 hb4))
  have p0 : ∀ p : BelowOf w4, p.world.cell? ⟨w.heap.size, 0, none⟩ = some (.int .i64 a1) := fun p => p.cell x40
  have p1 : ∀ p : BelowOf w4, p.world.cell? ⟨w.heap.size, 1, none⟩ = some (.int .u8 a2) := fun p => p.cell x41
  refine wp_region_bel (by kernel_rfl) (by kernel_rfl) ?_
  repeat (go_big_quiet_step (first | (fail)))
  refine wpQuiet_nil ?_
  refine bel_all fun wq hbq => ?_
  have xq0 := c_cl x40 hbq
  have xq1 := c_cl x41 hbq
  clear p0 p1
  go_wp2_with (first
    | (go_at_call 12; (with_reducible refine (D2 _).mono ?_); rintro e w7 ⟨A7, c7, rfl, hr7, hb7⟩; have HA7 := Lib.hid hr7; clear hr7)
    | (go_at_call 10; (with_reducible refine (E2 A7 c7 _ HA7.out).mono ?_); rintro e w8 ⟨rfl, hb8⟩)
    | (go_at_call 9; (with_reducible refine (alive11_any _).mono ?_); rintro e w' ⟨rfl, rfl⟩))
  go_ret
  exact ⟨rfl, by (repeat (first | exact Below.refl _ _ | (refine b_st ?_ (by first | (simp; done) | (simp; omega))) | (refine b_al ?_ (Nat.le_refl _) _) | refine b_dn ?_ | refine b_dr ?_ | (refine b_cl ?_ (Nat.le_refl _) (by assumption))))⟩

set_option maxRecDepth 100000 in
set_option maxHeartbeats 4000000 in
theorem back_h3_bad (A0 : Option Addr) (c0 n0 : Nat) (l0 : List Rc) (t s1 : ByteArray) (a2 : Int) (R : List Rc) (m : Nat) (w : World)
    (hr : RdR w A0 l0) (h100 : (n0 : Int) ≤ 100) (h3000 : (s1.size : Int) ≤ 3000)
    (E1 : ∀ W, RdR W A0 l0 → Calls Try.prog 10 #[.slice A0 n0 c0] W fun e w' => e = .returned (.tuple #[.string t, .int .i64 0]) ∧ Below W.heap.size W w')
    (D1 : ∀ W, Calls Try.prog 12 #[.string t] W fun e w' => ∃ A c, e = .returned (.tuple #[.slice A m c, .int .i64 0, .int .i64 0]) ∧ RdR w' A R ∧ Below W.heap.size W w')
    (N1 : ∀ W, RdR W A0 l0 → Calls Try.prog 13 #[.slice A0 n0 c0] W fun e w' => ∃ A c, e = .returned (.tuple #[.slice A m c, .int .i64 0]) ∧ RdR w' A R ∧ Below W.heap.size W w')
    (SM : ∀ (A B : Option Addr) (c d : Nat) W, RdR W A R → RdR W B R → Calls Try.prog 14 #[.slice A m c, .slice B m d] W fun e w' => e = .returned (.bool true) ∧ Below W.heap.size W w')
    (tz : t.size ≤ 100000)
    (k : Nat) (g2 : (k : Int) < (t.size : Int) - 2) (g3 : 0 ≤ a2 ∧ a2 ≤ 255)
    (g4 : a2 % 255 = bt t k % 255)
    (D2 : ∀ W, Calls Try.prog 12 #[.string s1] W fun e w' => ∃ pl er2, e = .returned (.tuple #[.slice none 0 0, .int .i64 pl, .int .i64 er2]) ∧ (er2 != 0) = true ∧ Below W.heap.size W w') :
    Calls Try.prog 5 #[.slice A0 n0 c0, .string s1, .agg #[.int .i64 (k : Int), .int .u8 a2]] w fun e w' => e = .returned (.bool true) ∧ Below w.heap.size w w' := by
  have HR := Lib.hid (hr.below ((Below.refl _ _).alloc (Nat.le_refl _) (.cells #[.int .i64 (k : Int), .int .u8 a2] 34)))
  clear hr
  have x00 : (w.alloc (.cells #[.int .i64 (k : Int), .int .u8 a2] 34)).cell? ⟨w.heap.size, 0, none⟩ = some (.int .i64 (k : Int)) := by simp
  have x01 : (w.alloc (.cells #[.int .i64 (k : Int), .int .u8 a2] 34)).cell? ⟨w.heap.size, 1, none⟩ = some (.int .u8 a2) := by simp
  have hk : k < t.size := by omega
  obtain ⟨g30, g31⟩ := g3
  have f1 : decide ((0 : Int) ≤ (k : Int)) = true := decide_eq_true (by omega)
  have f2 : decide ((k : Int) < (t.size : Int) - 2) = true := decide_eq_true g2
  have hk2 : (k : Int) < (t.size : Int) := by omega
  have y0 := byte_bt t k hk
  have y1 := bt_bd t k
  have z5 := wrap_of (n := (t.size : Int) - 2) (by omega) (by omega)
  have f3 : (a2 % 255 != bt t k % 255) = false := by rw [g4]; simp
  go_enter Try.func5, Try.ntmps5
  go_wp2_with (first
    | (go_at_call 10; (with_reducible refine (E1 _ HR.out).mono ?_); rintro e w1 ⟨rfl, hb1⟩; have x10 := c_cl x00 hb1; have x11 := c_cl x01 hb1; have HR1 := Lib.hid (HR.out.below hb1))
    | (go_at_call 12; (with_reducible refine (D1 _).mono ?_); rintro e w2 ⟨A2, c2, rfl, hr2, hb2⟩; have x20 := c_cl x10 hb2; have x21 := c_cl x11 hb2; have HR2 := Lib.hid (HR1.out.below hb2); have HA2 := Lib.hid hr2; clear hr2)
    | (go_at_call 13; (with_reducible refine (N1 _ HR2.out).mono ?_); rintro e w3 ⟨A3, c3, rfl, hr3, hb3⟩; have x30 := c_cl x20 hb3; have x31 := c_cl x21 hb3; have HA23 := Lib.hid (HA2.out.below hb3); have HA3 := Lib.hid hr3; clear hr3)
    | (go_at_call 14; (with_reducible refine (SM A2 A3 c2 c3 _ HA23.out HA3.out).mono ?_); rintro e w4 ⟨rfl, hb4⟩; have x40 := c_cl x30 hb4; have x41 := c_cl x31 hb4))
  have p0 : ∀ p : BelowOf w4, p.world.cell? ⟨w.heap.size, 0, none⟩ = some (.int .i64 (k : Int)) := fun p => p.cell x40
  have p1 : ∀ p : BelowOf w4, p.world.cell? ⟨w.heap.size, 1, none⟩ = some (.int .u8 a2) := fun p => p.cell x41
  refine wp_region_bel (by kernel_rfl) (by kernel_rfl) ?_
  repeat (go_big_quiet_step (first | (fail)))
  refine wpQuiet_nil ?_
  refine bel_all fun wq hbq => ?_
  have xq0 := c_cl x40 hbq
  have xq1 := c_cl x41 hbq
  clear p0 p1
  go_wp2_with (first
    | (go_at_call 12; (with_reducible refine (D2 _).mono ?_); rintro e w7 ⟨pl7, er7, rfl, hne7, hb7⟩)
    | (go_at_call 9; (with_reducible refine (alive11_any _).mono ?_); rintro e w' ⟨rfl, rfl⟩))
  go_ret
  exact ⟨rfl, by (repeat (first | exact Below.refl _ _ | (refine b_st ?_ (by first | (simp; done) | (simp; omega))) | (refine b_al ?_ (Nat.le_refl _) _) | refine b_dn ?_ | refine b_dr ?_ | (refine b_cl ?_ (Nat.le_refl _) (by assumption))))⟩

set_option maxRecDepth 100000 in
set_option maxHeartbeats 4000000 in
theorem back_h3_good (A0 : Option Addr) (c0 n0 : Nat) (l0 : List Rc) (t s1 : ByteArray) (a2 : Int) (R : List Rc) (m : Nat) (b1 : List Rc) (n1 : Nat) (w : World)
    (hr : RdR w A0 l0) (h100 : (n0 : Int) ≤ 100) (h3000 : (s1.size : Int) ≤ 3000)
    (E1 : ∀ W, RdR W A0 l0 → Calls Try.prog 10 #[.slice A0 n0 c0] W fun e w' => e = .returned (.tuple #[.string t, .int .i64 0]) ∧ Below W.heap.size W w')
    (D1 : ∀ W, Calls Try.prog 12 #[.string t] W fun e w' => ∃ A c, e = .returned (.tuple #[.slice A m c, .int .i64 0, .int .i64 0]) ∧ RdR w' A R ∧ Below W.heap.size W w')
    (N1 : ∀ W, RdR W A0 l0 → Calls Try.prog 13 #[.slice A0 n0 c0] W fun e w' => ∃ A c, e = .returned (.tuple #[.slice A m c, .int .i64 0]) ∧ RdR w' A R ∧ Below W.heap.size W w')
    (SM : ∀ (A B : Option Addr) (c d : Nat) W, RdR W A R → RdR W B R → Calls Try.prog 14 #[.slice A m c, .slice B m d] W fun e w' => e = .returned (.bool true) ∧ Below W.heap.size W w')
    (tz : t.size ≤ 100000)
    (k : Nat) (g2 : (k : Int) < (t.size : Int) - 2) (g3 : 0 ≤ a2 ∧ a2 ≤ 255)
    (g4 : a2 % 255 = bt t k % 255)
    (D2 : ∀ W, Calls Try.prog 12 #[.string s1] W fun e w' => ∃ A c, e = .returned (.tuple #[.slice A n1 c, .int .i64 0, .int .i64 0]) ∧ RdR w' A b1 ∧ Below W.heap.size W w')
    (E2 : ∀ (A : Option Addr) (c : Nat) W, RdR W A b1 → Calls Try.prog 10 #[.slice A n1 c] W fun e w' => e = .returned (.tuple #[.string s1, .int .i64 0]) ∧ Below W.heap.size W w') :
    Calls Try.prog 5 #[.slice A0 n0 c0, .string s1, .agg #[.int .i64 (k : Int), .int .u8 a2]] w fun e w' => e = .returned (.bool true) ∧ Below w.heap.size w w' := by
  have HR := Lib.hid (hr.below ((Below.refl _ _).alloc (Nat.le_refl _) (.cells #[.int .i64 (k : Int), .int .u8 a2] 34)))
  clear hr
  have x00 : (w.alloc (.cells #[.int .i64 (k : Int), .int .u8 a2] 34)).cell? ⟨w.heap.size, 0, none⟩ = some (.int .i64 (k : Int)) := by simp
  have x01 : (w.alloc (.cells #[.int .i64 (k : Int), .int .u8 a2] 34)).cell? ⟨w.heap.size, 1, none⟩ = some (.int .u8 a2) := by simp
  have hk : k < t.size := by omega
  obtain ⟨g30, g31⟩ := g3
  have f1 : decide ((0 : Int) ≤ (k : Int)) = true := decide_eq_true (by omega)
  have f2 : decide ((k : Int) < (t.size : Int) - 2) = true := decide_eq_true g2
  have hk2 : (k : Int) < (t.size : Int) := by omega
  have y0 := byte_bt t k hk
  have y1 := bt_bd t k
  have z5 := wrap_of (n := (t.size : Int) - 2) (by omega) (by omega)
  have f3 : (a2 % 255 != bt t k % 255) = false := by rw [g4]; simp
  go_enter Try.func5, Try.ntmps5
  go_wp2_with (first
    | (go_at_call 10; (with_reducible refine (E1 _ HR.out).mono ?_); rintro e w1 ⟨rfl, hb1⟩; have x10 := c_cl x00 hb1; have x11 := c_cl x01 hb1; have HR1 := Lib.hid (HR.out.below hb1))
    | (go_at_call 12; (with_reducible refine (D1 _).mono ?_); rintro e w2 ⟨A2, c2, rfl, hr2, hb2⟩; have x20 := c_cl x10 hb2; have x21 := c_cl x11 hb2; have HR2 := Lib.hid (HR1.out.below hb2); have HA2 := Lib.hid hr2; clear hr2)
    | (go_at_call 13; (with_reducible refine (N1 _ HR2.out).mono ?_); rintro e w3 ⟨A3, c3, rfl, hr3, hb3⟩; have x30 := c_cl x20 hb3; have x31 := c_cl x21 hb3; have HA23 := Lib.hid (HA2.out.below hb3); have HA3 := Lib.hid hr3; clear hr3)
    | (go_at_call 14; (with_reducible refine (SM A2 A3 c2 c3 _ HA23.out HA3.out).mono ?_); rintro e w4 ⟨rfl, hb4⟩; have x40 := c_cl x30 hb4; have x41 := c_cl x31 hb4))
  have p0 : ∀ p : BelowOf w4, p.world.cell? ⟨w.heap.size, 0, none⟩ = some (.int .i64 (k : Int)) := fun p => p.cell x40
  have p1 : ∀ p : BelowOf w4, p.world.cell? ⟨w.heap.size, 1, none⟩ = some (.int .u8 a2) := fun p => p.cell x41
  refine wp_region_bel (by kernel_rfl) (by kernel_rfl) ?_
  repeat (go_big_quiet_step (first | (fail)))
  refine wpQuiet_nil ?_
  refine bel_all fun wq hbq => ?_
  have xq0 := c_cl x40 hbq
  have xq1 := c_cl x41 hbq
  clear p0 p1
  go_wp2_with (first
    | (go_at_call 12; (with_reducible refine (D2 _).mono ?_); rintro e w7 ⟨A7, c7, rfl, hr7, hb7⟩; have HA7 := Lib.hid hr7; clear hr7)
    | (go_at_call 10; (with_reducible refine (E2 A7 c7 _ HA7.out).mono ?_); rintro e w8 ⟨rfl, hb8⟩)
    | (go_at_call 9; (with_reducible refine (alive11_any _).mono ?_); rintro e w' ⟨rfl, rfl⟩))
  go_ret
  exact ⟨rfl, by (repeat (first | exact Below.refl _ _ | (refine b_st ?_ (by first | (simp; done) | (simp; omega))) | (refine b_al ?_ (Nat.le_refl _) _) | refine b_dn ?_ | refine b_dr ?_ | (refine b_cl ?_ (Nat.le_refl _) (by assumption))))⟩

end Go.Proofs.Ytgmcikajhnnaaaa
