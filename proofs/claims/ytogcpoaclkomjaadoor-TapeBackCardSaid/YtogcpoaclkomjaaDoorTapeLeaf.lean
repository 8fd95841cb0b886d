/- What Line of layer 10, and the document's own, return, and the small functions that they call. Conditions: as each theorem says; the program's listed variables are laid. -/
import Derived.Test.YtogcpoaclkomjaaDoorRows
import Derived.Test.YtogcpoaclkomjaaDoorZ1
import Derived.Test.YtogcpoaclkomjaaDoorRecCheck
import Derived.Test.YtogcpoaclkomjaaDoorRecCheckR
import Derived.Test.YtogcpoaclkomjaaDoorWordJoin
import Derived.Test.YtogcpoaclkomjaaDoorWordTold
import Derived.Test.YtogcpoaclkomjaaDoorViewLeaf
import Derived.Test.YtogcpoaclkomjaaDoorZ4
import Derived.WalkKit
import Derived.WalkSpells
import Derived.WalkSmall
import Derived.Below
import Derived.Outline
import Derived.OwnWalk
import Derived.Lib.Hide
import Derived.BigQuiet
import Derived.BigRegion
import Derived.Deep.QuietTactic
import Derived.Laws.BytesArg
namespace Go.Proofs.YtogcpoaclkomjaaDoor
open Go.RowKit

theorem letter_piece {x : Int} (h0 : 0 ≤ x) (h1 : x < 4) (W : World) : (Instr.slice 9 (.string ⟨#[82, 65, 87, 68]⟩) (some (.int .i64 x)) (some (.int .i64 (x + 1))) none).run Tryd.prog W = .ok (.string ⟨#[ltB x]⟩) W := by
  have h := run_slice_string (P := Tryd.prog) (w := W) 9 ⟨#[82, 65, 87, 68]⟩ .i64 .i64 x (x + 1) Tryd.underlying9 h0 (by omega) (by show x + 1 ≤ 4; omega)
  rw [h]
  have : x = 0 ∨ x = 1 ∨ x = 2 ∨ x = 3 := by omega
  rcases this with rfl | rfl | rfl | rfl <;> rfl

theorem kindOf_any (s : ByteArray) (w : World) :
    Calls Tryd.prog 21 #[.string s] w fun e w' => e = .returned (if s.size = 1 then .tuple #[.int .i64 (kindB (bt s 0)), .bool (isL (bt s 0))] else .tuple #[.int .i64 0, .bool false]) ∧ w = w' := by
  by_cases h : s.size = 1
  · rw [if_pos h]
    have hlt : 0 < s.size := by omega
    have KD := fun W => kind_any ((s[0]'hlt).toNat : Int) W (by omega) (by have := (s[0]'hlt).toNat_lt; omega)
    have eb := byte_bt s 0 hlt
    rw [eb] at KD
    have h1 : (s.size : Int) = 1 := by omega
    generalize kindB (bt s 0) = x at KD
    generalize isL (bt s 0) = g at KD
    generalize bt s 0 = bk at KD eb
    subst eb
    go_enter Tryd.func21, Tryd.ntmps21
    go_wp2_with (go_at_call 41; refine (KD _).mono ?_; rintro e w1 ⟨rfl, rfl⟩)
    go_ret2
    exact ⟨rfl, rfl⟩
  · rw [if_neg h]
    have h1 : ((s.size : Int) != 1) = true := by simp; omega
    go_enter Tryd.func21, Tryd.ntmps21
    go_wp2
    go_ret2
    exact ⟨rfl, rfl⟩

theorem two_read {W : World} {n : Nat} {a b : ByteArray} (h0 : W.cell? ⟨n, 0, none⟩ = some (.string a)) (h1 : W.cell? ⟨n, 1, none⟩ = some (.string b)) : RdT W (some ⟨n, 0, none⟩) [a, b] := fun _ => ⟨n, 0, rfl, World.block_lt_of_cell? W ⟨n, 0, none⟩ h0, fun k hk => by
  have : k = 0 ∨ k = 1 := by simp at hk; omega
  rcases this with rfl | rfl
  · exact h0
  · exact h1⟩

theorem line_size {k x y : Int} (hx0 : -9223372036854775808 ≤ x) (hx1 : x ≤ 9223372036854775807) (hy0 : -9223372036854775808 ≤ y) (hy1 : y ≤ 9223372036854775807) : (lineB k x y).size ≤ 45 := by
  have h1 := itoaB_size hx0 hx1
  have h2 := itoaB_size hy0 hy1
  unfold lineB toldB
  simp only [ByteArray.size_append]
  have e1 : (⟨#[ltB k]⟩ : ByteArray).size = 1 := rfl
  have e2 : (⟨#[32]⟩ : ByteArray).size = 1 := rfl
  have e3 : (⟨#[45]⟩ : ByteArray).size = 1 := rfl
  omega

/-- The line of a record, or the error. -/
def lineV (k x y : Int) : ByteArray × Int := if aloneV k x y = 0 then (lineB k x y, 0) else (⟨#[]⟩, aloneV k x y)
theorem line_good {k x y : Int} (h : aloneV k x y = 0) : lineV k x y = (lineB k x y, 0) := if_pos h
theorem line_wrong {k x y : Int} (h : aloneV k x y ≠ 0) : lineV k x y = (⟨#[]⟩, aloneV k x y) := if_neg h

theorem check_one (k x y : Int) : checkV [(k, x, y)] = (0, aloneV k x y) := by
  by_cases h : aloneV k x y = 0
  · rw [check_ok (fun j hj => ?_), h]
    obtain rfl : j = 0 := by simp at hj; exact hj
    rw [fault_first (x := k) (y := x) (z := y) rfl]; exact h
  · exact check_bad (k := 0) (by simp) (fun j hj => by omega) (fault_first rfl) h

theorem one_read {W : World} {n : Nat} {k x y : Int} (h0 : W.cell? ⟨n, 0, none⟩ = some (.int .i64 k)) (h1 : W.cell? ⟨n, 1, none⟩ = some (.int .i64 x)) (h2 : W.cell? ⟨n, 2, none⟩ = some (.int .i64 y)) : RdR W (some ⟨n, 0, none⟩) [(k, x, y)] := fun _ => ⟨n, 0, rfl, World.block_lt_of_cell? W ⟨n, 0, none⟩ h0, fun j hj => by
  obtain rfl : j = 0 := by simp at hj; exact hj
  exact ⟨h0, h1, h2⟩⟩

theorem check_alone (k x y : Int) (W : World) (N : Nat) (h0 : W.cell? ⟨N, 0, none⟩ = some (.int .i64 k)) (h1 : W.cell? ⟨N, 1, none⟩ = some (.int .i64 x)) (h2 : W.cell? ⟨N, 2, none⟩ = some (.int .i64 y)) :
    Calls Tryd.prog 16 #[.slice (some ⟨N, 0, none⟩) 1 1] W fun e w' => e = .returned (.tuple #[.int .i64 0, .int .i64 (aloneV k x y)]) ∧ Below W.heap.size W w' := by
  have := rcheck_any (some ⟨N, 0, none⟩) 1 [(k, x, y)] W (one_read h0 h1 h2) (by simp)
  rw [check_one] at this
  exact this

theorem refcheck_alone (k x y : Int) (W : World) (N : Nat) (h0 : W.cell? ⟨N, 0, none⟩ = some (.int .i64 k)) (h1 : W.cell? ⟨N, 1, none⟩ = some (.int .i64 x)) (h2 : W.cell? ⟨N, 2, none⟩ = some (.int .i64 y)) :
    Calls Tryd.prog 18 #[.slice (some ⟨N, 0, none⟩) 1 1] W fun e w' => e = .returned (.tuple #[.int .i64 0, .int .i64 (aloneV k x y)]) ∧ Below W.heap.size W w' := by
  have := refrcheck_any (some ⟨N, 0, none⟩) 1 [(k, x, y)] W (one_read h0 h1 h2) (by simp)
  rw [check_one] at this
  exact this

set_option maxHeartbeats 1000000 in
theorem refline_any (k x y : Int) (w : World) :
    Calls Tryd.prog 8 #[.agg #[.int .i64 k, .int .i64 x, .int .i64 y]] w fun e w' => e = .returned (.tuple #[.string (lineV k x y).1, .int .i64 (lineV k x y).2]) ∧ Below w.heap.size w w' := by
  have CC := fun W N h0 h1 h2 => refcheck_alone k x y W N h0 h1 h2
  by_cases h : aloneV k x y = 0
  · rw [line_good h]
    rw [h] at CC
    obtain ⟨hk, hx, hxy, hy⟩ := alone_zero.1 h
    have CT := fun (W : World) => reftold_any x y W (by omega) (by omega) (by omega) (by omega)
    have z1 : IntKind.i64.wrap (k + 1) = k + 1 := IntWalk.i64_in _ ⟨by omega, by omega⟩
    have r1 := fun W => letter_piece hk.1 hk.2 W
    have r2 : ∀ W : World, (Op.stringOp .add ⟨#[ltB k]⟩ ⟨#[32]⟩).run Tryd.prog W = .ok (.string (⟨#[ltB k]⟩ ++ ⟨#[32]⟩)) W := fun W => run_string_add_sum W _ _ (by show 1 + 1 ≤ _; omega)
    have hz := line_size (k := k) (x := x) (y := y) (by omega) (by omega) (by omega) (by omega)
    have r3 : ∀ W : World, (Op.stringOp .add (⟨#[ltB k]⟩ ++ ⟨#[32]⟩) (toldB x y)).run Tryd.prog W = .ok (.string (lineB k x y)) W := fun W => run_string_add_sum W _ _ (by rw [← ByteArray.size_append]; unfold lineB at hz; omega)
    generalize lineB k x y = z at r3
    generalize toldB x y = b at CT r3
    generalize (⟨#[ltB k]⟩ : ByteArray) ++ ⟨#[32]⟩ = a2 at r2 r3
    generalize (⟨#[ltB k]⟩ : ByteArray) = a1 at r1 r2
    clear h hk hx hxy hy hz
    go_enter Tryd.func8, Tryd.ntmps8
    go_wp2_with (go_at_call 18; (with_reducible refine (CC _ _ ?_ ?_ ?_).mono ?_); (focus simp); (focus simp); (focus simp); rintro e w1 ⟨rfl, hb1⟩; obtain ⟨hc1, hf1⟩ := bcell hb1; have hz1 := hb1.size; (try simp at hz1); have hlt1 : w.heap.size < w1.heap.size := (by omega))
    have q1 : ∀ p : BelowOf w1, p.world.cell? ⟨w.heap.size, 0, none⟩ = some (.int .i64 k) := fun p => p.cell (by (repeat (first | assumption | (simp; done) | refine c_al _ ?_ | refine c_cl ?_ (by assumption))))
    have q2 : ∀ p : BelowOf w1, p.world.cell? ⟨w.heap.size, 1, none⟩ = some (.int .i64 x) := fun p => p.cell (by (repeat (first | assumption | (simp; done) | refine c_al _ ?_ | refine c_cl ?_ (by assumption))))
    have q3 : ∀ p : BelowOf w1, p.world.cell? ⟨w.heap.size, 2, none⟩ = some (.int .i64 y) := fun p => p.cell (by (repeat (first | assumption | (simp; done) | refine c_al _ ?_ | refine c_cl ?_ (by assumption))))
    refine wp_region_bel (by kernel_rfl) (by kernel_rfl) ?_
    repeat (go_big_quiet_step ((go_at_call 19; (with_reducible exact Calls.bel_of (CT _)))))
    refine wpQuiet_nil ?_
    refine bel_all fun wq hbq => ?_
    go_wp2
    go_ret2
    refine ⟨rfl, ?_⟩
    (repeat (first | assumption | exact Below.refl _ _ | (refine b_st ?_ (by first | (simp; done) | (simp; omega))) | (refine b_al ?_ (Nat.le_refl _) _) | refine b_dn ?_ | refine b_dr ?_ | (refine b_cl ?_ (Nat.le_refl _) (by assumption))))
  · rw [line_wrong h]
    generalize aloneV k x y = g at CC h
    have hg : (g != 0) = true := by simpa using h
    clear h
    go_enter Tryd.func8, Tryd.ntmps8
    go_wp2_with (go_at_call 18; (with_reducible refine (CC _ _ ?_ ?_ ?_).mono ?_); (focus simp); (focus simp); (focus simp); rintro e w1 ⟨rfl, hb1⟩)
    go_ret2
    refine ⟨rfl, ?_⟩
    (repeat (first | assumption | exact Below.refl _ _ | (refine b_st ?_ (by first | (simp; done) | (simp; omega))) | (refine b_al ?_ (Nat.le_refl _) _) | refine b_dn ?_ | refine b_dr ?_ | (refine b_cl ?_ (Nat.le_refl _) (by assumption))))

end Go.Proofs.YtogcpoaclkomjaaDoor
