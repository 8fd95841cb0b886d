/- A slip in a sealed text is not opened: no byte is another one. Conditions: as each theorem says. -/
import Derived.Test.YtofolebhnfmlaaaRows
import Derived.Test.YtofolebhnfmlaaaMath
import Derived.Test.YtofolebhnfmlaaaBase
import Derived.Test.YtofolebhnfmlaaaSumMath
import Derived.Test.YtofolebhnfmlaaaBytes
import Derived.Test.YtofolebhnfmlaaaSumC
import Derived.Test.YtofolebhnfmlaaaClone
import Derived.Test.YtofolebhnfmlaaaSumOpen
import Derived.Test.YtofolebhnfmlaaaSumOpen2
import Derived.Test.YtofolebhnfmlaaaSumSlip
import Derived.WalkKit
import Derived.WalkSpells
import Derived.WalkSmall
import Derived.Below
import Derived.Outline
import Derived.OwnWalk
import Derived.RegionTactic
import Derived.Deep.RegionWith
import Derived.Deep.QuietTactic
import Derived.BigQuiet
import Derived.Lib.Hide
namespace Go.Proofs.Ytofolebhnfmlaaa
open Go.RowKit

set_option maxRecDepth 100000 in
set_option maxHeartbeats 1000000 in
theorem slips_no_yes (s : ByteArray) (k : Nat) (a2 : Int) (w : World) (hs : (s.size : Int) ≤ 3000) (hk : k < s.size) (c0 : 0 ≤ a2) (c1 : a2 ≤ 255) (hd : a2 % 255 = bt s k % 255) (hk1 : k + 1 < s.size) (he : bt s k % 255 ≠ bt s (k + 1) % 255) :
    Calls Try.prog 6 #[.string s, .int .i64 (k : Int), .int .u8 a2] w fun e w' => e = .returned (.bool true) ∧ Below w.heap.size w w' := by
  have b0 := bt_bd s k
  have y0 := byte_bt s k hk
  have L1 := fun W => seal_any s W (by omega)
  have hz := sealB_size s
  have O2 := fun W => open_any (s.extract 0 k ++ ⟨#[UInt8.ofNat (bt s (k + 1)).toNat, UInt8.ofNat (bt s k).toNat]⟩ ++ (sealB s).extract (k + 2) (s.size + 2)) W (by rw [(cut_two_size s k hk1 _ _).2.2]; omega)
  have q1 := (cut_two_size s k hk1 0 0).1
  have q3 := (cut_two_size s k hk1 0 0).2.1
  rw [slips_two s k hk1 he] at O2
  dsimp only at O2
  have b1 := bt_bd s (k + 1)
  have y1 := byte_bt s (k + 1) hk1
  have k2 : (k : Int) + 1 < (s.size : Int) := by omega
  have k3 : decide ((k : Int) < (s.size : Int) - 1) = true := by simp; omega
  have k4 : (k : Int) < (s.size : Int) - 1 := by omega
  generalize sealB s = t at L1 hz O2 q3
  have k0 : (k : Int) < (s.size : Int) := by omega
  have z1 := wrap_of (n := (k : Int) + 1) (by omega) (by omega)
  have z2 := wrap_of (n := (k : Int) + 2) (by omega) (by omega)
  have z3 : ((k : Int) + 1).toNat = k + 1 := by omega
  have z4 : ((k : Int) + 2).toNat = k + 2 := by omega
  have z5 := wrap_of (n := (s.size : Int) - 1) (by omega) (by omega)
  have i1 : k ≤ s.size := by omega
  have i2 : (k : Int) ≤ (s.size : Int) := by omega
  have i3 : (0 : Int) ≤ (k : Int) + 1 := by omega
  have r3 : ∀ W : World, (Instr.slice 9 (.string s) none (some (.int .i64 (k : Int))) none).run Try.prog W = .ok (.string (s.extract 0 k)) W := fun W => run_slice_string_h W _ s Try.underlying9 .i64 k (by omega) i2
  have K2 : ∀ (W : World) (n : Nat), (convert 36 9 (.slice (some ⟨W.heap.size, 0, none⟩) 2 2)).run Try.prog ((W.drewN n).alloc (.cells #[.int .u8 (bt s (k + 1)), .int .u8 (bt s k)] 5)) = .ok (.string ⟨#[UInt8.ofNat (bt s (k + 1)).toNat, UInt8.ofNat (bt s k).toNat]⟩) ((W.drewN n).alloc (.cells #[.int .u8 (bt s (k + 1)), .int .u8 (bt s k)] 5)) := fun W n => convB2 ((W.drewN n).alloc (.cells #[.int .u8 (bt s (k + 1)), .int .u8 (bt s k)] 5)) (W.drewN n).heap.size _ _ (cell_new0 (W.drewN n) _ _ _) (cell_new1 (W.drewN n) _ _ _)
  have he' : (bt s k % 255 != bt s (k + 1) % 255) = true := bne_iff_ne.2 he
  have r5 : ∀ W : World, (Op.stringOp .add (s.extract 0 k) ⟨#[UInt8.ofNat (bt s (k + 1)).toNat, UInt8.ofNat (bt s k).toNat]⟩).run Try.prog W = .ok (.string (s.extract 0 k ++ ⟨#[UInt8.ofNat (bt s (k + 1)).toNat, UInt8.ofNat (bt s k).toNat]⟩)) W := fun W => run_string_add_sum W _ _ (by rw [q1, show (⟨#[UInt8.ofNat (bt s (k + 1)).toNat, UInt8.ofNat (bt s k).toNat]⟩ : ByteArray).size = 2 from rfl]; omega)
  have r6 : ∀ W : World, (Op.stringOp .add (s.extract 0 k ++ ⟨#[UInt8.ofNat (bt s (k + 1)).toNat, UInt8.ofNat (bt s k).toNat]⟩) (t.extract (k + 2) (s.size + 2))).run Try.prog W = .ok (.string (s.extract 0 k ++ ⟨#[UInt8.ofNat (bt s (k + 1)).toNat, UInt8.ofNat (bt s k).toNat]⟩ ++ t.extract (k + 2) (s.size + 2))) W := fun W => run_string_add_sum W _ _ (by rw [ByteArray.size_append, q1, q3, show (⟨#[UInt8.ofNat (bt s (k + 1)).toNat, UInt8.ofNat (bt s k).toNat]⟩ : ByteArray).size = 2 from rfl]; omega)
  have r8 : ∀ W : World, (Instr.slice 9 (.string t) (some (.int .i64 ((k : Int) + 2))) none none).run Try.prog W = .ok (.string (t.extract (k + 2) (s.size + 2))) W := fun W => by
    have h := run_slice_string_l W 9 t Try.underlying9 .i64 ((k : Int) + 2) (by omega) (by omega)
    rw [z4, hz] at h
    exact h
  go_enter Try.func6, Try.ntmps6
  go_wp2_with (go_at_call 14; (with_reducible refine (L1 _).mono ?_); rintro e w1 ⟨rfl, hb1⟩)
  go_quiet (fail)
  go_wp2
  go_region_with ((go_at_call 12; (with_reducible refine (O2 _).mono ?_); rintro e w3 ⟨rfl, hb3⟩))
  all_goals
    go_simp
    go_wp2_with (go_at_call 7; (with_reducible refine (alive5_any _).mono ?_); rintro e w9 ⟨rfl, rfl⟩)
  all_goals
    go_ret
    refine ⟨rfl, ?_⟩
    (repeat (first | exact Below.refl _ _ | (refine b_st ?_ (by first | (simp; done) | (simp; omega))) | (refine b_al ?_ (Nat.le_refl _) _) | refine b_dn ?_ | refine b_dr ?_ | (refine b_cl ?_ (Nat.le_refl _) (by assumption))))

set_option maxRecDepth 100000 in
set_option maxHeartbeats 1000000 in
theorem slips_no_same (s : ByteArray) (k : Nat) (a2 : Int) (w : World) (hs : (s.size : Int) ≤ 3000) (hk : k < s.size) (c0 : 0 ≤ a2) (c1 : a2 ≤ 255) (hd : a2 % 255 = bt s k % 255) (hk1 : k + 1 < s.size) (he : bt s k % 255 = bt s (k + 1) % 255) :
    Calls Try.prog 6 #[.string s, .int .i64 (k : Int), .int .u8 a2] w fun e w' => e = .returned (.bool true) ∧ Below w.heap.size w w' := by
  have b0 := bt_bd s k
  have y0 := byte_bt s k hk
  have L1 := fun W => seal_any s W (by omega)
  have hz := sealB_size s
  have b1 := bt_bd s (k + 1)
  have y1 := byte_bt s (k + 1) hk1
  have k2 : (k : Int) + 1 < (s.size : Int) := by omega
  have k3 : decide ((k : Int) < (s.size : Int) - 1) = true := by simp; omega
  have k4 : (k : Int) < (s.size : Int) - 1 := by omega
  generalize sealB s = t at L1 hz 
  have k0 : (k : Int) < (s.size : Int) := by omega
  have z1 := wrap_of (n := (k : Int) + 1) (by omega) (by omega)
  have z2 := wrap_of (n := (k : Int) + 2) (by omega) (by omega)
  have z3 : ((k : Int) + 1).toNat = k + 1 := by omega
  have z4 : ((k : Int) + 2).toNat = k + 2 := by omega
  have z5 := wrap_of (n := (s.size : Int) - 1) (by omega) (by omega)
  have i1 : k ≤ s.size := by omega
  have i2 : (k : Int) ≤ (s.size : Int) := by omega
  have i3 : (0 : Int) ≤ (k : Int) + 1 := by omega
  go_enter Try.func6, Try.ntmps6
  go_wp2_with (go_at_call 14; (with_reducible refine (L1 _).mono ?_); rintro e w1 ⟨rfl, hb1⟩)
  go_quiet (fail)
  go_wp2_with (go_at_call 7; (with_reducible refine (alive5_any _).mono ?_); rintro e w9 ⟨rfl, rfl⟩)
  all_goals
    go_ret
    refine ⟨rfl, ?_⟩
    (repeat (first | exact Below.refl _ _ | (refine b_st ?_ (by first | (simp; done) | (simp; omega))) | (refine b_al ?_ (Nat.le_refl _) _) | refine b_dn ?_ | refine b_dr ?_ | (refine b_cl ?_ (Nat.le_refl _) (by assumption))))

set_option maxRecDepth 100000 in
set_option maxHeartbeats 1000000 in
theorem slips_no_last (s : ByteArray) (k : Nat) (a2 : Int) (w : World) (hs : (s.size : Int) ≤ 3000) (hk : k < s.size) (c0 : 0 ≤ a2) (c1 : a2 ≤ 255) (hd : a2 % 255 = bt s k % 255) (hk1 : s.size ≤ k + 1) :
    Calls Try.prog 6 #[.string s, .int .i64 (k : Int), .int .u8 a2] w fun e w' => e = .returned (.bool true) ∧ Below w.heap.size w w' := by
  have b0 := bt_bd s k
  have y0 := byte_bt s k hk
  have L1 := fun W => seal_any s W (by omega)
  have hz := sealB_size s
  have k3 : decide ((k : Int) < (s.size : Int) - 1) = false := by simp; omega
  have k4 : (s.size : Int) - 1 ≤ (k : Int) := by omega
  generalize sealB s = t at L1 hz 
  have k0 : (k : Int) < (s.size : Int) := by omega
  have z1 := wrap_of (n := (k : Int) + 1) (by omega) (by omega)
  have z2 := wrap_of (n := (k : Int) + 2) (by omega) (by omega)
  have z3 : ((k : Int) + 1).toNat = k + 1 := by omega
  have z4 : ((k : Int) + 2).toNat = k + 2 := by omega
  have z5 := wrap_of (n := (s.size : Int) - 1) (by omega) (by omega)
  have i1 : k ≤ s.size := by omega
  have i2 : (k : Int) ≤ (s.size : Int) := by omega
  have i3 : (0 : Int) ≤ (k : Int) + 1 := by omega
  go_enter Try.func6, Try.ntmps6
  go_wp2_with (go_at_call 14; (with_reducible refine (L1 _).mono ?_); rintro e w1 ⟨rfl, hb1⟩)
  go_quiet (fail)
  go_wp2_with (go_at_call 7; (with_reducible refine (alive5_any _).mono ?_); rintro e w9 ⟨rfl, rfl⟩)
  all_goals
    go_ret
    refine ⟨rfl, ?_⟩
    (repeat (first | exact Below.refl _ _ | (refine b_st ?_ (by first | (simp; done) | (simp; omega))) | (refine b_al ?_ (Nat.le_refl _) _) | refine b_dn ?_ | refine b_dr ?_ | (refine b_cl ?_ (Nat.le_refl _) (by assumption))))

end Go.Proofs.Ytofolebhnfmlaaa
