/- IvalMinutes of layer 2, way by way: which minutes lie in which span. Conditions: what the callees return. -/
import Derived.Test.YteijjkdfffmikaaRows
import Derived.Test.YteijjkdfffmikaaMath
import Derived.Test.YteijjkdfffmikaaBase
import Derived.Test.YteijjkdfffmikaaLeaf
import Derived.Test.YteijjkdfffmikaaAdd
import Derived.Test.YteijjkdfffmikaaIvalLeaf
import Derived.Test.YteijjkdfffmikaaIvalTwo
import Derived.Test.YteijjkdfffmikaaIvalRest
import Derived.Test.YteijjkdfffmikaaIvalAlive
import Derived.Test.YteijjkdfffmikaaSpan
import Derived.WalkKit
import Derived.WalkSpells
import Derived.WalkSmall
import Derived.Below
import Derived.Lib.Hide
import Derived.Outline
import Derived.Deep.RegionHeld3
import Derived.OwnWalk
import Derived.IntWalk
namespace Go.Proofs.Yteijjkdfffmikaa
open Go.RowKit

theorem keep4_2 {W w1 : World} {p0 p1 p2 p3 : Addr} {v0 v1 v2 v3 : Value} (hb : Below W.heap.size W w1) (h : W.cell? p0 = some v0 ∧ W.cell? p1 = some v1 ∧ W.cell? p2 = some v2 ∧ W.cell? p3 = some v3) :
    w1.cell? p0 = some v0 ∧ w1.cell? p1 = some v1 ∧ w1.cell? p2 = some v2 ∧ w1.cell? p3 = some v3 := by
  obtain ⟨h0, h1, h2, h3⟩ := h
  exact ⟨c_cl h0 hb, c_cl h1 hb, c_cl h2 hb, c_cl h3 hb⟩

set_option maxRecDepth 100000 in
set_option maxHeartbeats 800000 in
theorem minutes_yesh_ft (a0 b0 a1 b1 m bf bt uf ut o : Int) (w : World) (o0 : -1 ≤ o) (o1 : o ≤ 1)
    (HA : Hid (∀ W : World, Calls Try.prog 13 #[.agg #[.int .i64 a0, .int .i64 b0], .int .i64 m] W fun e w' => e = .returned (.bool false) ∧ Below W.heap.size W w'))
    (HC : Hid (∀ W : World, Calls Try.prog 13 #[.agg #[.int .i64 a1, .int .i64 b1], .int .i64 m] W fun e w' => e = .returned (.bool true) ∧ Below W.heap.size W w'))
    (HB : Hid (∀ W : World, Calls Try.prog 6 #[.agg #[.int .i64 a0, .int .i64 b0], .agg #[.int .i64 a1, .int .i64 b1]] W fun e w' => e = .returned (.tuple #[.agg #[.int .i64 bf, .int .i64 bt], .bool true]) ∧ Below W.heap.size W w'))
    (HR : Hid (∀ W : World, Calls Try.prog 11 #[.agg #[.int .i64 bf, .int .i64 bt]] W fun e w' => e = .returned (.bool true) ∧ Below W.heap.size W w'))
    (HH : Hid (∀ W : World, Calls Try.prog 8 #[.agg #[.int .i64 a0, .int .i64 b0], .agg #[.int .i64 a1, .int .i64 b1]] W fun e w' => e = .returned (.tuple #[.agg #[.int .i64 uf, .int .i64 ut], .bool true]) ∧ Below W.heap.size W w'))
    (HP : Hid (∀ W : World, Calls Try.prog 11 #[.agg #[.int .i64 a0, .int .i64 b0]] W fun e w' => e = .returned (.bool true) ∧ Below W.heap.size W w'))
    (HO : Hid (∀ W : World, Calls Try.prog 20 #[.agg #[.int .i64 a0, .int .i64 b0], .agg #[.int .i64 a1, .int .i64 b1]] W fun e w' => e = .returned (.int .i64 (-o)) ∧ Below W.heap.size W w'))
    (HQ : Hid (∀ W : World, Calls Try.prog 20 #[.agg #[.int .i64 a1, .int .i64 b1], .agg #[.int .i64 a0, .int .i64 b0]] W fun e w' => e = .returned (.int .i64 o) ∧ Below W.heap.size W w'))
    (HM : Hid (∀ W : World, Calls Try.prog 13 #[.agg #[.int .i64 bf, .int .i64 bt], .int .i64 m] W fun e w' => e = .returned (.bool false) ∧ Below W.heap.size W w'))
    (HU : Hid (∀ W : World, Calls Try.prog 13 #[.agg #[.int .i64 uf, .int .i64 ut], .int .i64 m] W fun e w' => e = .returned (.bool true) ∧ Below W.heap.size W w'))
    (HS : Hid (∀ W : World, Calls Try.prog 11 #[.agg #[.int .i64 a1, .int .i64 b1]] W fun e w' => e = .returned (.bool true) ∧ Below W.heap.size W w')) :
    Calls Try.prog 5 #[.agg #[.int .i64 a0, .int .i64 b0], .agg #[.int .i64 a1, .int .i64 b1], .int .i64 m] w fun e w' => e = .returned (.bool true) ∧ Below w.heap.size w w' := by
  go_enter Try.func5, Try.ntmps5
  go_wp2
  have ka0 : ((w.alloc (Obj.cells #[.int .i64 a0, .int .i64 b0] 23)).alloc (Obj.cells #[.int .i64 a1, .int .i64 b1] 23)).cell? ⟨w.heap.size, 0, none⟩ = some (.int .i64 a0) := by
    (repeat (first | assumption | (simp; done) | refine c_al _ ?_ | refine c_cl ?_ (by assumption)))
  have ka1 : ((w.alloc (Obj.cells #[.int .i64 a0, .int .i64 b0] 23)).alloc (Obj.cells #[.int .i64 a1, .int .i64 b1] 23)).cell? ⟨w.heap.size, 1, none⟩ = some (.int .i64 b0) := by
    (repeat (first | assumption | (simp; done) | refine c_al _ ?_ | refine c_cl ?_ (by assumption)))
  have ka2 : ((w.alloc (Obj.cells #[.int .i64 a0, .int .i64 b0] 23)).alloc (Obj.cells #[.int .i64 a1, .int .i64 b1] 23)).cell? ⟨w.heap.size + 1, 0, none⟩ = some (.int .i64 a1) := by
    (repeat (first | assumption | (simp; done) | refine c_al _ ?_ | refine c_cl ?_ (by assumption)))
  have ka3 : ((w.alloc (Obj.cells #[.int .i64 a0, .int .i64 b0] 23)).alloc (Obj.cells #[.int .i64 a1, .int .i64 b1] 23)).cell? ⟨w.heap.size + 1, 1, none⟩ = some (.int .i64 b1) := by
    (repeat (first | assumption | (simp; done) | refine c_al _ ?_ | refine c_cl ?_ (by assumption)))
  have kaB : Below w.heap.size w ((w.alloc (Obj.cells #[.int .i64 a0, .int .i64 b0] 23)).alloc (Obj.cells #[.int .i64 a1, .int .i64 b1] 23)) := by
    (repeat (first | exact Below.refl _ _ | (refine b_st ?_ (by first | (simp; done) | (simp; omega))) | (refine b_al ?_ (Nat.le_refl _) _) | refine b_dn ?_ | refine b_dr ?_ | (refine b_cl ?_ (Nat.le_refl _) (by assumption))))
  have kaz : w.heap.size + 1 < ((w.alloc (Obj.cells #[.int .i64 a0, .int .i64 b0] 23)).alloc (Obj.cells #[.int .i64 a1, .int .i64 b1] 23)).heap.size := by have := kaB.size; first | omega | (simp; done) | (simp; omega)
  generalize ((w.alloc (Obj.cells #[.int .i64 a0, .int .i64 b0] 23)).alloc (Obj.cells #[.int .i64 a1, .int .i64 b1] 23)) = W0 at *
  go_region_held3 (fun w' => w'.cell? ⟨w.heap.size, 0, none⟩ = some (.int .i64 a0) ∧ w'.cell? ⟨w.heap.size, 1, none⟩ = some (.int .i64 b0) ∧ w'.cell? ⟨w.heap.size + 1, 0, none⟩ = some (.int .i64 a1) ∧ w'.cell? ⟨w.heap.size + 1, 1, none⟩ = some (.int .i64 b1)) (first | exact ⟨ka0, ka1, ka2, ka3⟩ | exact keep4_2 (by assumption) (by assumption) | exact keep4_2 (by assumption) ⟨ka0, ka1, ka2, ka3⟩) (first | (go_at_call_of 13 (Value.agg #[.int .i64 a0, .int .i64 b0]); refine (HA.out _).mono ?_; rintro e w1 ⟨rfl, hb1⟩) | (go_at_call_of 13 (Value.agg #[.int .i64 a1, .int .i64 b1]); refine (HC.out _).mono ?_; rintro e w2 ⟨rfl, hb2⟩))
  obtain ⟨kc0, kc1, kc2, kc3⟩ := keep4_2 hb2 (keep4_2 hb1 ⟨ka0, ka1, ka2, ka3⟩)
  have kcB : Below w.heap.size w w2 := by
    exact (b_cl (b_cl kaB.drew (Nat.le_refl _) hb1) (Nat.le_refl _) hb2)
  have kcz : w.heap.size + 1 < w2.heap.size := c_lt kc2
  have kcy : w.heap.size < w2.heap.size := c_lt kc0
  clear ka0 ka1 ka2 ka3 kaB kaz hb1 hb2 w1 W0
  go_wp2_with (first | (go_at_call 6; refine (HB.out _).mono ?_; rintro e w3 ⟨rfl, hb3⟩; obtain ⟨hc3, hf3⟩ := bcell hb3; have hz3 := hb3.size; (try simp at hz3); have : w.heap.size < w3.heap.size := (by omega); have : w.heap.size + 1 < w3.heap.size := (by omega)) | (go_at_call_of 13 (Value.agg #[.int .i64 bf, .int .i64 bt]); refine (HM.out _).mono ?_; rintro e w4 ⟨rfl, hb4⟩; obtain ⟨hc4, hf4⟩ := bcell hb4; have hz4 := hb4.size; (try simp at hz4); have : w.heap.size < w4.heap.size := (by omega); have : w.heap.size + 1 < w4.heap.size := (by omega); have : w3.heap.size < w4.heap.size := (by omega)) | (go_at_call_of 11 (Value.agg #[.int .i64 bf, .int .i64 bt]); refine (HR.out _).mono ?_; rintro e w5 ⟨rfl, hb5⟩; obtain ⟨hc5, hf5⟩ := bcell hb5; have hz5 := hb5.size; (try simp at hz5); have : w.heap.size < w5.heap.size := (by omega); have : w.heap.size + 1 < w5.heap.size := (by omega)) | (go_at_call 8; refine (HH.out _).mono ?_; rintro e w6 ⟨rfl, hb6⟩; obtain ⟨hc6, hf6⟩ := bcell hb6; have hz6 := hb6.size; (try simp at hz6); have : w.heap.size < w6.heap.size := (by omega); have : w.heap.size + 1 < w6.heap.size := (by omega)) | (go_at_call_of 13 (Value.agg #[.int .i64 uf, .int .i64 ut]); refine (HU.out _).mono ?_; rintro e w7 ⟨rfl, hb7⟩; obtain ⟨hc7, hf7⟩ := bcell hb7; have hz7 := hb7.size; (try simp at hz7); have : w.heap.size < w7.heap.size := (by omega); have : w.heap.size + 1 < w7.heap.size := (by omega)))

  have kd0 : w7.cell? ⟨w.heap.size, 0, none⟩ = some (.int .i64 a0) := by
    (repeat (first | assumption | (simp; done) | refine c_al _ ?_ | refine c_cl ?_ (by assumption)))
  have kd1 : w7.cell? ⟨w.heap.size, 1, none⟩ = some (.int .i64 b0) := by
    (repeat (first | assumption | (simp; done) | refine c_al _ ?_ | refine c_cl ?_ (by assumption)))
  have kd2 : w7.cell? ⟨w.heap.size + 1, 0, none⟩ = some (.int .i64 a1) := by
    (repeat (first | assumption | (simp; done) | refine c_al _ ?_ | refine c_cl ?_ (by assumption)))
  have kd3 : w7.cell? ⟨w.heap.size + 1, 1, none⟩ = some (.int .i64 b1) := by
    (repeat (first | assumption | (simp; done) | refine c_al _ ?_ | refine c_cl ?_ (by assumption)))
  have kdB : Below w.heap.size w w7 := by
    (repeat (first | exact Below.refl _ _ | (refine b_st ?_ (by first | (simp; done) | (simp; omega))) | (refine b_al ?_ (Nat.le_refl _) _) | refine b_dn ?_ | refine b_dr ?_ | (refine b_cl ?_ (Nat.le_refl _) (by assumption))))
  have kdz : w.heap.size + 1 < w7.heap.size := by have := kdB.size; first | omega | (simp; done) | (simp; omega)
  clear hc3 hf3 hb3 hz3 hc4 hf4 hb4 hz4 hc5 hf5 hb5 hz5 hc6 hf6 hb6 hz6 hc7 hf7 hb7 hz7
  generalize w7 = w9 at *
  have hwr : IntKind.i64.wrap (-o) = -o := IntWalk.i64_in _ (by omega)
  go_region_held3 (fun w' => w'.cell? ⟨w.heap.size, 0, none⟩ = some (.int .i64 a0) ∧ w'.cell? ⟨w.heap.size, 1, none⟩ = some (.int .i64 b0) ∧ w'.cell? ⟨w.heap.size + 1, 0, none⟩ = some (.int .i64 a1) ∧ w'.cell? ⟨w.heap.size + 1, 1, none⟩ = some (.int .i64 b1)) (first | exact ⟨kd0, kd1, kd2, kd3⟩ | exact keep4_2 (by assumption) (by assumption) | exact keep4_2 (by assumption) ⟨kd0, kd1, kd2, kd3⟩) (first | (go_at_call_of 11 (Value.agg #[.int .i64 a0, .int .i64 b0]); refine (HP.out _).mono ?_; rintro e w12 ⟨rfl, hb12⟩) | (go_at_call_of 11 (Value.agg #[.int .i64 a1, .int .i64 b1]); refine (HS.out _).mono ?_; rintro e w13 ⟨rfl, hb13⟩) | (go_at_call 20; (with_reducible refine (HO.out _).mono ?_); rintro e w14 ⟨rfl, hb14⟩) | (go_at_call 20; (with_reducible refine (HQ.out _).mono ?_); rintro e w15 ⟨rfl, hb15⟩) | (go_at_call 15; refine (alive2_any _).mono ?_; rintro e w16 ⟨rfl, hb16⟩))
  clear hwr
  all_goals go_wp2
  go_ret
  refine ⟨rfl, ?_⟩
  (repeat (first | exact Below.refl _ _ | (refine b_st ?_ (by first | (simp; done) | (simp; omega))) | (refine b_al ?_ (Nat.le_refl _) _) | refine b_dn ?_ | refine b_dr ?_ | (refine b_cl ?_ (Nat.le_refl _) (by assumption))))

set_option maxRecDepth 100000 in
set_option maxHeartbeats 800000 in
theorem minutes_noh_ft (a0 b0 a1 b1 m bf bt uf ut o : Int) (w : World) (o0 : -1 ≤ o) (o1 : o ≤ 1)
    (HA : Hid (∀ W : World, Calls Try.prog 13 #[.agg #[.int .i64 a0, .int .i64 b0], .int .i64 m] W fun e w' => e = .returned (.bool false) ∧ Below W.heap.size W w'))
    (HC : Hid (∀ W : World, Calls Try.prog 13 #[.agg #[.int .i64 a1, .int .i64 b1], .int .i64 m] W fun e w' => e = .returned (.bool true) ∧ Below W.heap.size W w'))
    (HB : Hid (∀ W : World, Calls Try.prog 6 #[.agg #[.int .i64 a0, .int .i64 b0], .agg #[.int .i64 a1, .int .i64 b1]] W fun e w' => e = .returned (.tuple #[.agg #[.int .i64 bf, .int .i64 bt], .bool false]) ∧ Below W.heap.size W w'))
    (HR : Hid (∀ W : World, Calls Try.prog 11 #[.agg #[.int .i64 bf, .int .i64 bt]] W fun e w' => e = .returned (.bool false) ∧ Below W.heap.size W w'))
    (HH : Hid (∀ W : World, Calls Try.prog 8 #[.agg #[.int .i64 a0, .int .i64 b0], .agg #[.int .i64 a1, .int .i64 b1]] W fun e w' => e = .returned (.tuple #[.agg #[.int .i64 uf, .int .i64 ut], .bool true]) ∧ Below W.heap.size W w'))
    (HP : Hid (∀ W : World, Calls Try.prog 11 #[.agg #[.int .i64 a0, .int .i64 b0]] W fun e w' => e = .returned (.bool true) ∧ Below W.heap.size W w'))
    (HO : Hid (∀ W : World, Calls Try.prog 20 #[.agg #[.int .i64 a0, .int .i64 b0], .agg #[.int .i64 a1, .int .i64 b1]] W fun e w' => e = .returned (.int .i64 (-o)) ∧ Below W.heap.size W w'))
    (HQ : Hid (∀ W : World, Calls Try.prog 20 #[.agg #[.int .i64 a1, .int .i64 b1], .agg #[.int .i64 a0, .int .i64 b0]] W fun e w' => e = .returned (.int .i64 o) ∧ Below W.heap.size W w'))
    (HU : Hid (∀ W : World, Calls Try.prog 13 #[.agg #[.int .i64 uf, .int .i64 ut], .int .i64 m] W fun e w' => e = .returned (.bool true) ∧ Below W.heap.size W w'))
    (HS : Hid (∀ W : World, Calls Try.prog 11 #[.agg #[.int .i64 a1, .int .i64 b1]] W fun e w' => e = .returned (.bool true) ∧ Below W.heap.size W w')) :
    Calls Try.prog 5 #[.agg #[.int .i64 a0, .int .i64 b0], .agg #[.int .i64 a1, .int .i64 b1], .int .i64 m] w fun e w' => e = .returned (.bool true) ∧ Below w.heap.size w w' := by
  go_enter Try.func5, Try.ntmps5
  go_wp2
  have ka0 : ((w.alloc (Obj.cells #[.int .i64 a0, .int .i64 b0] 23)).alloc (Obj.cells #[.int .i64 a1, .int .i64 b1] 23)).cell? ⟨w.heap.size, 0, none⟩ = some (.int .i64 a0) := by
    (repeat (first | assumption | (simp; done) | refine c_al _ ?_ | refine c_cl ?_ (by assumption)))
  have ka1 : ((w.alloc (Obj.cells #[.int .i64 a0, .int .i64 b0] 23)).alloc (Obj.cells #[.int .i64 a1, .int .i64 b1] 23)).cell? ⟨w.heap.size, 1, none⟩ = some (.int .i64 b0) := by
    (repeat (first | assumption | (simp; done) | refine c_al _ ?_ | refine c_cl ?_ (by assumption)))
  have ka2 : ((w.alloc (Obj.cells #[.int .i64 a0, .int .i64 b0] 23)).alloc (Obj.cells #[.int .i64 a1, .int .i64 b1] 23)).cell? ⟨w.heap.size + 1, 0, none⟩ = some (.int .i64 a1) := by
    (repeat (first | assumption | (simp; done) | refine c_al _ ?_ | refine c_cl ?_ (by assumption)))
  have ka3 : ((w.alloc (Obj.cells #[.int .i64 a0, .int .i64 b0] 23)).alloc (Obj.cells #[.int .i64 a1, .int .i64 b1] 23)).cell? ⟨w.heap.size + 1, 1, none⟩ = some (.int .i64 b1) := by
    (repeat (first | assumption | (simp; done) | refine c_al _ ?_ | refine c_cl ?_ (by assumption)))
  have kaB : Below w.heap.size w ((w.alloc (Obj.cells #[.int .i64 a0, .int .i64 b0] 23)).alloc (Obj.cells #[.int .i64 a1, .int .i64 b1] 23)) := by
    (repeat (first | exact Below.refl _ _ | (refine b_st ?_ (by first | (simp; done) | (simp; omega))) | (refine b_al ?_ (Nat.le_refl _) _) | refine b_dn ?_ | refine b_dr ?_ | (refine b_cl ?_ (Nat.le_refl _) (by assumption))))
  have kaz : w.heap.size + 1 < ((w.alloc (Obj.cells #[.int .i64 a0, .int .i64 b0] 23)).alloc (Obj.cells #[.int .i64 a1, .int .i64 b1] 23)).heap.size := by have := kaB.size; first | omega | (simp; done) | (simp; omega)
  generalize ((w.alloc (Obj.cells #[.int .i64 a0, .int .i64 b0] 23)).alloc (Obj.cells #[.int .i64 a1, .int .i64 b1] 23)) = W0 at *
  go_region_held3 (fun w' => w'.cell? ⟨w.heap.size, 0, none⟩ = some (.int .i64 a0) ∧ w'.cell? ⟨w.heap.size, 1, none⟩ = some (.int .i64 b0) ∧ w'.cell? ⟨w.heap.size + 1, 0, none⟩ = some (.int .i64 a1) ∧ w'.cell? ⟨w.heap.size + 1, 1, none⟩ = some (.int .i64 b1)) (first | exact ⟨ka0, ka1, ka2, ka3⟩ | exact keep4_2 (by assumption) (by assumption) | exact keep4_2 (by assumption) ⟨ka0, ka1, ka2, ka3⟩) (first | (go_at_call_of 13 (Value.agg #[.int .i64 a0, .int .i64 b0]); refine (HA.out _).mono ?_; rintro e w1 ⟨rfl, hb1⟩) | (go_at_call_of 13 (Value.agg #[.int .i64 a1, .int .i64 b1]); refine (HC.out _).mono ?_; rintro e w2 ⟨rfl, hb2⟩))
  obtain ⟨kc0, kc1, kc2, kc3⟩ := keep4_2 hb2 (keep4_2 hb1 ⟨ka0, ka1, ka2, ka3⟩)
  have kcB : Below w.heap.size w w2 := by
    exact (b_cl (b_cl kaB.drew (Nat.le_refl _) hb1) (Nat.le_refl _) hb2)
  have kcz : w.heap.size + 1 < w2.heap.size := c_lt kc2
  have kcy : w.heap.size < w2.heap.size := c_lt kc0
  clear ka0 ka1 ka2 ka3 kaB kaz hb1 hb2 w1 W0
  go_wp2_with (first | (go_at_call 6; refine (HB.out _).mono ?_; rintro e w3 ⟨rfl, hb3⟩; obtain ⟨hc3, hf3⟩ := bcell hb3; have hz3 := hb3.size; (try simp at hz3); have : w.heap.size < w3.heap.size := (by omega); have : w.heap.size + 1 < w3.heap.size := (by omega)) | (go_at_call_of 11 (Value.agg #[.int .i64 bf, .int .i64 bt]); refine (HR.out _).mono ?_; rintro e w5 ⟨rfl, hb5⟩; obtain ⟨hc5, hf5⟩ := bcell hb5; have hz5 := hb5.size; (try simp at hz5); have : w.heap.size < w5.heap.size := (by omega); have : w.heap.size + 1 < w5.heap.size := (by omega)) | (go_at_call 8; refine (HH.out _).mono ?_; rintro e w6 ⟨rfl, hb6⟩; obtain ⟨hc6, hf6⟩ := bcell hb6; have hz6 := hb6.size; (try simp at hz6); have : w.heap.size < w6.heap.size := (by omega); have : w.heap.size + 1 < w6.heap.size := (by omega)) | (go_at_call_of 13 (Value.agg #[.int .i64 uf, .int .i64 ut]); refine (HU.out _).mono ?_; rintro e w7 ⟨rfl, hb7⟩; obtain ⟨hc7, hf7⟩ := bcell hb7; have hz7 := hb7.size; (try simp at hz7); have : w.heap.size < w7.heap.size := (by omega); have : w.heap.size + 1 < w7.heap.size := (by omega)))

  have kd0 : w7.cell? ⟨w.heap.size, 0, none⟩ = some (.int .i64 a0) := by
    (repeat (first | assumption | (simp; done) | refine c_al _ ?_ | refine c_cl ?_ (by assumption)))
  have kd1 : w7.cell? ⟨w.heap.size, 1, none⟩ = some (.int .i64 b0) := by
    (repeat (first | assumption | (simp; done) | refine c_al _ ?_ | refine c_cl ?_ (by assumption)))
  have kd2 : w7.cell? ⟨w.heap.size + 1, 0, none⟩ = some (.int .i64 a1) := by
    (repeat (first | assumption | (simp; done) | refine c_al _ ?_ | refine c_cl ?_ (by assumption)))
  have kd3 : w7.cell? ⟨w.heap.size + 1, 1, none⟩ = some (.int .i64 b1) := by
    (repeat (first | assumption | (simp; done) | refine c_al _ ?_ | refine c_cl ?_ (by assumption)))
  have kdB : Below w.heap.size w w7 := by
    (repeat (first | exact Below.refl _ _ | (refine b_st ?_ (by first | (simp; done) | (simp; omega))) | (refine b_al ?_ (Nat.le_refl _) _) | refine b_dn ?_ | refine b_dr ?_ | (refine b_cl ?_ (Nat.le_refl _) (by assumption))))
  have kdz : w.heap.size + 1 < w7.heap.size := by have := kdB.size; first | omega | (simp; done) | (simp; omega)
  clear hc3 hf3 hb3 hz3 hc5 hf5 hb5 hz5 hc6 hf6 hb6 hz6 hc7 hf7 hb7 hz7
  generalize w7 = w9 at *
  have hwr : IntKind.i64.wrap (-o) = -o := IntWalk.i64_in _ (by omega)
  go_region_held3 (fun w' => w'.cell? ⟨w.heap.size, 0, none⟩ = some (.int .i64 a0) ∧ w'.cell? ⟨w.heap.size, 1, none⟩ = some (.int .i64 b0) ∧ w'.cell? ⟨w.heap.size + 1, 0, none⟩ = some (.int .i64 a1) ∧ w'.cell? ⟨w.heap.size + 1, 1, none⟩ = some (.int .i64 b1)) (first | exact ⟨kd0, kd1, kd2, kd3⟩ | exact keep4_2 (by assumption) (by assumption) | exact keep4_2 (by assumption) ⟨kd0, kd1, kd2, kd3⟩) (first | (go_at_call_of 11 (Value.agg #[.int .i64 a0, .int .i64 b0]); refine (HP.out _).mono ?_; rintro e w12 ⟨rfl, hb12⟩) | (go_at_call_of 11 (Value.agg #[.int .i64 a1, .int .i64 b1]); refine (HS.out _).mono ?_; rintro e w13 ⟨rfl, hb13⟩) | (go_at_call 20; (with_reducible refine (HO.out _).mono ?_); rintro e w14 ⟨rfl, hb14⟩) | (go_at_call 20; (with_reducible refine (HQ.out _).mono ?_); rintro e w15 ⟨rfl, hb15⟩) | (go_at_call 15; refine (alive2_any _).mono ?_; rintro e w16 ⟨rfl, hb16⟩))
  clear hwr
  all_goals go_wp2
  go_ret
  refine ⟨rfl, ?_⟩
  (repeat (first | exact Below.refl _ _ | (refine b_st ?_ (by first | (simp; done) | (simp; omega))) | (refine b_al ?_ (Nat.le_refl _) _) | refine b_dn ?_ | refine b_dr ?_ | (refine b_cl ?_ (Nat.le_refl _) (by assumption))))

set_option maxRecDepth 100000 in
set_option maxHeartbeats 800000 in
theorem minutes_noa_ft (a0 b0 a1 b1 m bf bt uf ut o : Int) (w : World) (o0 : -1 ≤ o) (o1 : o ≤ 1)
    (HA : Hid (∀ W : World, Calls Try.prog 13 #[.agg #[.int .i64 a0, .int .i64 b0], .int .i64 m] W fun e w' => e = .returned (.bool false) ∧ Below W.heap.size W w'))
    (HC : Hid (∀ W : World, Calls Try.prog 13 #[.agg #[.int .i64 a1, .int .i64 b1], .int .i64 m] W fun e w' => e = .returned (.bool true) ∧ Below W.heap.size W w'))
    (HB : Hid (∀ W : World, Calls Try.prog 6 #[.agg #[.int .i64 a0, .int .i64 b0], .agg #[.int .i64 a1, .int .i64 b1]] W fun e w' => e = .returned (.tuple #[.agg #[.int .i64 bf, .int .i64 bt], .bool false]) ∧ Below W.heap.size W w'))
    (HR : Hid (∀ W : World, Calls Try.prog 11 #[.agg #[.int .i64 bf, .int .i64 bt]] W fun e w' => e = .returned (.bool false) ∧ Below W.heap.size W w'))
    (HH : Hid (∀ W : World, Calls Try.prog 8 #[.agg #[.int .i64 a0, .int .i64 b0], .agg #[.int .i64 a1, .int .i64 b1]] W fun e w' => e = .returned (.tuple #[.agg #[.int .i64 uf, .int .i64 ut], .bool false]) ∧ Below W.heap.size W w'))
    (HP : Hid (∀ W : World, Calls Try.prog 11 #[.agg #[.int .i64 a0, .int .i64 b0]] W fun e w' => e = .returned (.bool false) ∧ Below W.heap.size W w'))
    (HO : Hid (∀ W : World, Calls Try.prog 20 #[.agg #[.int .i64 a0, .int .i64 b0], .agg #[.int .i64 a1, .int .i64 b1]] W fun e w' => e = .returned (.int .i64 (-o)) ∧ Below W.heap.size W w'))
    (HQ : Hid (∀ W : World, Calls Try.prog 20 #[.agg #[.int .i64 a1, .int .i64 b1], .agg #[.int .i64 a0, .int .i64 b0]] W fun e w' => e = .returned (.int .i64 o) ∧ Below W.heap.size W w')) :
    Calls Try.prog 5 #[.agg #[.int .i64 a0, .int .i64 b0], .agg #[.int .i64 a1, .int .i64 b1], .int .i64 m] w fun e w' => e = .returned (.bool true) ∧ Below w.heap.size w w' := by
  go_enter Try.func5, Try.ntmps5
  go_wp2
  have ka0 : ((w.alloc (Obj.cells #[.int .i64 a0, .int .i64 b0] 23)).alloc (Obj.cells #[.int .i64 a1, .int .i64 b1] 23)).cell? ⟨w.heap.size, 0, none⟩ = some (.int .i64 a0) := by
    (repeat (first | assumption | (simp; done) | refine c_al _ ?_ | refine c_cl ?_ (by assumption)))
  have ka1 : ((w.alloc (Obj.cells #[.int .i64 a0, .int .i64 b0] 23)).alloc (Obj.cells #[.int .i64 a1, .int .i64 b1] 23)).cell? ⟨w.heap.size, 1, none⟩ = some (.int .i64 b0) := by
    (repeat (first | assumption | (simp; done) | refine c_al _ ?_ | refine c_cl ?_ (by assumption)))
  have ka2 : ((w.alloc (Obj.cells #[.int .i64 a0, .int .i64 b0] 23)).alloc (Obj.cells #[.int .i64 a1, .int .i64 b1] 23)).cell? ⟨w.heap.size + 1, 0, none⟩ = some (.int .i64 a1) := by
    (repeat (first | assumption | (simp; done) | refine c_al _ ?_ | refine c_cl ?_ (by assumption)))
  have ka3 : ((w.alloc (Obj.cells #[.int .i64 a0, .int .i64 b0] 23)).alloc (Obj.cells #[.int .i64 a1, .int .i64 b1] 23)).cell? ⟨w.heap.size + 1, 1, none⟩ = some (.int .i64 b1) := by
    (repeat (first | assumption | (simp; done) | refine c_al _ ?_ | refine c_cl ?_ (by assumption)))
  have kaB : Below w.heap.size w ((w.alloc (Obj.cells #[.int .i64 a0, .int .i64 b0] 23)).alloc (Obj.cells #[.int .i64 a1, .int .i64 b1] 23)) := by
    (repeat (first | exact Below.refl _ _ | (refine b_st ?_ (by first | (simp; done) | (simp; omega))) | (refine b_al ?_ (Nat.le_refl _) _) | refine b_dn ?_ | refine b_dr ?_ | (refine b_cl ?_ (Nat.le_refl _) (by assumption))))
  have kaz : w.heap.size + 1 < ((w.alloc (Obj.cells #[.int .i64 a0, .int .i64 b0] 23)).alloc (Obj.cells #[.int .i64 a1, .int .i64 b1] 23)).heap.size := by have := kaB.size; first | omega | (simp; done) | (simp; omega)
  generalize ((w.alloc (Obj.cells #[.int .i64 a0, .int .i64 b0] 23)).alloc (Obj.cells #[.int .i64 a1, .int .i64 b1] 23)) = W0 at *
  go_region_held3 (fun w' => w'.cell? ⟨w.heap.size, 0, none⟩ = some (.int .i64 a0) ∧ w'.cell? ⟨w.heap.size, 1, none⟩ = some (.int .i64 b0) ∧ w'.cell? ⟨w.heap.size + 1, 0, none⟩ = some (.int .i64 a1) ∧ w'.cell? ⟨w.heap.size + 1, 1, none⟩ = some (.int .i64 b1)) (first | exact ⟨ka0, ka1, ka2, ka3⟩ | exact keep4_2 (by assumption) (by assumption) | exact keep4_2 (by assumption) ⟨ka0, ka1, ka2, ka3⟩) (first | (go_at_call_of 13 (Value.agg #[.int .i64 a0, .int .i64 b0]); refine (HA.out _).mono ?_; rintro e w1 ⟨rfl, hb1⟩) | (go_at_call_of 13 (Value.agg #[.int .i64 a1, .int .i64 b1]); refine (HC.out _).mono ?_; rintro e w2 ⟨rfl, hb2⟩))
  obtain ⟨kc0, kc1, kc2, kc3⟩ := keep4_2 hb2 (keep4_2 hb1 ⟨ka0, ka1, ka2, ka3⟩)
  have kcB : Below w.heap.size w w2 := by
    exact (b_cl (b_cl kaB.drew (Nat.le_refl _) hb1) (Nat.le_refl _) hb2)
  have kcz : w.heap.size + 1 < w2.heap.size := c_lt kc2
  have kcy : w.heap.size < w2.heap.size := c_lt kc0
  clear ka0 ka1 ka2 ka3 kaB kaz hb1 hb2 w1 W0
  go_wp2_with (first | (go_at_call 6; refine (HB.out _).mono ?_; rintro e w3 ⟨rfl, hb3⟩; obtain ⟨hc3, hf3⟩ := bcell hb3; have hz3 := hb3.size; (try simp at hz3); have : w.heap.size < w3.heap.size := (by omega); have : w.heap.size + 1 < w3.heap.size := (by omega)) | (go_at_call_of 11 (Value.agg #[.int .i64 bf, .int .i64 bt]); refine (HR.out _).mono ?_; rintro e w5 ⟨rfl, hb5⟩; obtain ⟨hc5, hf5⟩ := bcell hb5; have hz5 := hb5.size; (try simp at hz5); have : w.heap.size < w5.heap.size := (by omega); have : w.heap.size + 1 < w5.heap.size := (by omega)) | (go_at_call 8; refine (HH.out _).mono ?_; rintro e w6 ⟨rfl, hb6⟩; obtain ⟨hc6, hf6⟩ := bcell hb6; have hz6 := hb6.size; (try simp at hz6); have : w.heap.size < w6.heap.size := (by omega); have : w.heap.size + 1 < w6.heap.size := (by omega)))

  have kd0 : (w6.alloc (Obj.cells #[.int .i64 uf, .int .i64 ut] 23)).cell? ⟨w.heap.size, 0, none⟩ = some (.int .i64 a0) := by
    (repeat (first | assumption | (simp; done) | refine c_al _ ?_ | refine c_cl ?_ (by assumption)))
  have kd1 : (w6.alloc (Obj.cells #[.int .i64 uf, .int .i64 ut] 23)).cell? ⟨w.heap.size, 1, none⟩ = some (.int .i64 b0) := by
    (repeat (first | assumption | (simp; done) | refine c_al _ ?_ | refine c_cl ?_ (by assumption)))
  have kd2 : (w6.alloc (Obj.cells #[.int .i64 uf, .int .i64 ut] 23)).cell? ⟨w.heap.size + 1, 0, none⟩ = some (.int .i64 a1) := by
    (repeat (first | assumption | (simp; done) | refine c_al _ ?_ | refine c_cl ?_ (by assumption)))
  have kd3 : (w6.alloc (Obj.cells #[.int .i64 uf, .int .i64 ut] 23)).cell? ⟨w.heap.size + 1, 1, none⟩ = some (.int .i64 b1) := by
    (repeat (first | assumption | (simp; done) | refine c_al _ ?_ | refine c_cl ?_ (by assumption)))
  have kdB : Below w.heap.size w (w6.alloc (Obj.cells #[.int .i64 uf, .int .i64 ut] 23)) := by
    (repeat (first | exact Below.refl _ _ | (refine b_st ?_ (by first | (simp; done) | (simp; omega))) | (refine b_al ?_ (Nat.le_refl _) _) | refine b_dn ?_ | refine b_dr ?_ | (refine b_cl ?_ (Nat.le_refl _) (by assumption))))
  have kdz : w.heap.size + 1 < (w6.alloc (Obj.cells #[.int .i64 uf, .int .i64 ut] 23)).heap.size := by have := kdB.size; first | omega | (simp; done) | (simp; omega)
  clear hc3 hf3 hb3 hz3 hc5 hf5 hb5 hz5 hc6 hf6 hb6 hz6
  generalize (w6.alloc (Obj.cells #[.int .i64 uf, .int .i64 ut] 23)) = w9 at *
  have hwr : IntKind.i64.wrap (-o) = -o := IntWalk.i64_in _ (by omega)
  refine wp_region_noPanic ?_
  refine wp_region_held_drew (S := fun w' => w'.cell? ⟨w.heap.size, 0, none⟩ = some (.int .i64 a0) ∧ w'.cell? ⟨w.heap.size, 1, none⟩ = some (.int .i64 b0) ∧ w'.cell? ⟨w.heap.size + 1, 0, none⟩ = some (.int .i64 a1) ∧ w'.cell? ⟨w.heap.size + 1, 1, none⟩ = some (.int .i64 b1)) (by kernel_rfl) ?_ (fun hHeld => ?_)
  · exact ⟨kd0, kd1, kd2, kd3⟩
  refine wpAnyH_take (i := 0) (oi := ⟨some 61, _, _, _, _, _⟩) (v := ?_) rfl (by kernel_rfl) (by kernel_rfl) (by kernel_rfl) (fun _ _ _ h => h) (Or.inl ⟨by rfl, ?_⟩) (by assumption) ?_
  rotate_left
  · (intro w' hSw; (try dsimp only at hSw); go_simp; try (with_reducible rfl))
  (try simp only [Act.put, List.setIfInBounds_toArray, List.set_cons_zero, List.set_cons_succ])
  refine wpAnyH_take (i := 1) (oi := ⟨some 62, _, _, _, _, _⟩) (v := ?_) rfl (by kernel_rfl) (by kernel_rfl) (by kernel_rfl) (fun _ _ _ h => h) (Or.inl ⟨by rfl, ?_⟩) (by assumption) ?_
  rotate_left
  · (intro w' hSw; (try dsimp only at hSw); go_simp; try (with_reducible rfl))
  (try simp only [Act.put, List.setIfInBounds_toArray, List.set_cons_zero, List.set_cons_succ])
  refine wpAnyH_ready (rs := [2]) (by kernel_rfl) (by simp) ?_
  refine AllReadyH.cons (o := ⟨some 63, _, _, _, _, _⟩) rfl (fun K hK => ?_) AllReadyH.nil
  go_simp
  (go_at_call_of 11 (Value.agg #[.int .i64 a0, .int .i64 b0]); refine (HP.out _).mono ?_; rintro e w12 ⟨rfl, hb12⟩)
  go_wp2_with fail
  refine hK.out _ _ (keep4_2 (by assumption) (by assumption)) (fun hHeld => ?_)
  clear hK K
  (try simp only [Act.put, List.setIfInBounds_toArray, List.set_cons_zero, List.set_cons_succ])
  refine wpAnyH_take (i := 3) (oi := ⟨some 64, _, _, _, _, _⟩) (v := ?_) rfl (by kernel_rfl) (by kernel_rfl) (by kernel_rfl) (fun _ _ _ h => h) (Or.inl ⟨by rfl, ?_⟩) (by assumption) ?_
  rotate_left
  · (intro w' hSw; (try dsimp only at hSw); go_simp; try (with_reducible rfl))
  (try simp only [Act.put, List.setIfInBounds_toArray, List.set_cons_zero, List.set_cons_succ])
  refine wpAnyH_take (i := 4) (oi := ⟨some 65, _, _, _, _, _⟩) (v := undef) rfl (by kernel_rfl) (by kernel_rfl) (by kernel_rfl) (fun _ _ _ h => h) (Or.inr ⟨by rfl, rfl⟩) (by assumption) ?_
  (try simp only [Act.put, List.setIfInBounds_toArray, List.set_cons_zero, List.set_cons_succ])
  refine wpAnyH_take (i := 5) (oi := ⟨some 66, _, _, _, _, _⟩) (v := undef) rfl (by kernel_rfl) (by kernel_rfl) (by kernel_rfl) (fun _ _ _ h => h) (Or.inr ⟨by rfl, rfl⟩) (by assumption) ?_
  (try simp only [Act.put, List.setIfInBounds_toArray, List.set_cons_zero, List.set_cons_succ])
  refine wpAnyH_take (i := 6) (oi := ⟨some 67, _, _, _, _, _⟩) (v := ?_) rfl (by kernel_rfl) (by kernel_rfl) (by kernel_rfl) (fun _ _ _ h => h) (Or.inl ⟨by rfl, ?_⟩) (by assumption) ?_
  rotate_left
  · (intro w' hSw; (try dsimp only at hSw); go_simp; try (with_reducible rfl))
  (try simp only [Act.put, List.setIfInBounds_toArray, List.set_cons_zero, List.set_cons_succ])
  refine wpAnyH_take (i := 7) (oi := ⟨some 68, _, _, _, _, _⟩) (v := ?_) rfl (by kernel_rfl) (by kernel_rfl) (by kernel_rfl) (fun _ _ _ h => h) (Or.inl ⟨by rfl, ?_⟩) (by assumption) ?_
  rotate_left
  · (intro w' hSw; (try dsimp only at hSw); go_simp; try (with_reducible rfl))
  (try simp only [Act.put, List.setIfInBounds_toArray, List.set_cons_zero, List.set_cons_succ])
  refine wpAnyH_take (i := 8) (oi := ⟨some 69, _, _, _, _, _⟩) (v := ?_) rfl (by kernel_rfl) (by kernel_rfl) (by kernel_rfl) (fun _ _ _ h => h) (Or.inl ⟨by rfl, ?_⟩) (by assumption) ?_
  rotate_left
  · (intro w' hSw; (try dsimp only at hSw); go_simp; try (with_reducible rfl))
  (try simp only [Act.put, List.setIfInBounds_toArray, List.set_cons_zero, List.set_cons_succ])
  refine wpAnyH_take (i := 9) (oi := ⟨some 70, _, _, _, _, _⟩) (v := ?_) rfl (by kernel_rfl) (by kernel_rfl) (by kernel_rfl) (fun _ _ _ h => h) (Or.inl ⟨by rfl, ?_⟩) (by assumption) ?_
  rotate_left
  · (intro w' hSw; (try dsimp only at hSw); go_simp; try (with_reducible rfl))
  (try simp only [Act.put, List.setIfInBounds_toArray, List.set_cons_zero, List.set_cons_succ])
  refine wpAnyH_take (i := 10) (oi := ⟨some 71, _, _, _, _, _⟩) (v := ?_) rfl (by kernel_rfl) (by kernel_rfl) (by kernel_rfl) (fun _ _ _ h => h) (Or.inl ⟨by rfl, ?_⟩) (by assumption) ?_
  rotate_left
  · (intro w' hSw; (try dsimp only at hSw); go_simp; try (with_reducible rfl))
  (try simp only [Act.put, List.setIfInBounds_toArray, List.set_cons_zero, List.set_cons_succ])
  refine wpAnyH_take (i := 12) (oi := ⟨some 73, _, _, _, _, _⟩) (v := ?_) rfl (by kernel_rfl) (by kernel_rfl) (by kernel_rfl) (fun _ _ _ h => h) (Or.inl ⟨by rfl, ?_⟩) (by assumption) ?_
  rotate_left
  · (intro w' hSw; (try dsimp only at hSw); go_simp; try (with_reducible rfl))
  (try simp only [Act.put, List.setIfInBounds_toArray, List.set_cons_zero, List.set_cons_succ])
  refine wpAnyH_take (i := 13) (oi := ⟨some 74, _, _, _, _, _⟩) (v := ?_) rfl (by kernel_rfl) (by kernel_rfl) (by kernel_rfl) (fun _ _ _ h => h) (Or.inl ⟨by rfl, ?_⟩) (by assumption) ?_
  rotate_left
  · (intro w' hSw; (try dsimp only at hSw); go_simp; try (with_reducible rfl))
  (try simp only [Act.put, List.setIfInBounds_toArray, List.set_cons_zero, List.set_cons_succ])
  refine wpAnyH_ready (rs := [11]) (by kernel_rfl) (by simp) ?_
  refine AllReadyH.cons (o := ⟨some 72, _, _, _, _, _⟩) rfl (fun K hK => ?_) AllReadyH.nil
  go_simp
  (go_at_call 20; (with_reducible refine (HO.out _).mono ?_); rintro e w14 ⟨rfl, hb14⟩)
  go_wp2_with fail
  refine hK.out _ _ (keep4_2 (by assumption) (by assumption)) (fun hHeld => ?_)
  clear hK K
  (try simp only [Act.put, List.setIfInBounds_toArray, List.set_cons_zero, List.set_cons_succ])
  refine wpAnyH_ready (rs := [14]) (by kernel_rfl) (by simp) ?_
  refine AllReadyH.cons (o := ⟨some 75, _, _, _, _, _⟩) rfl (fun K hK => ?_) AllReadyH.nil
  go_simp
  (go_at_call 20; (with_reducible refine (HQ.out _).mono ?_); rintro e w15 ⟨rfl, hb15⟩)
  go_wp2_with fail
  refine hK.out _ _ (keep4_2 (by assumption) (by assumption)) (fun hHeld => ?_)
  clear hK K
  (try simp only [Act.put, List.setIfInBounds_toArray, List.set_cons_zero, List.set_cons_succ])
  refine wpAnyH_take (i := 15) (oi := ⟨some 76, _, _, _, _, _⟩) (v := ?_) rfl (by kernel_rfl) (by kernel_rfl) (by kernel_rfl) (fun _ _ _ h => h) (Or.inl ⟨by rfl, ?_⟩) (by assumption) ?_
  rotate_left
  · (intro w' hSw; (try dsimp only at hSw); go_simp; try (with_reducible rfl))
  (try simp only [Act.put, List.setIfInBounds_toArray, List.set_cons_zero, List.set_cons_succ])
  refine wpAnyH_take (i := 16) (oi := ⟨some 77, _, _, _, _, _⟩) (v := ?_) rfl (by kernel_rfl) (by kernel_rfl) (by kernel_rfl) (fun _ _ _ h => h) (Or.inl ⟨by rfl, ?_⟩) (by assumption) ?_
  rotate_left
  · (intro w' hSw; (try dsimp only at hSw); go_simp; try (with_reducible rfl))
  (try simp only [Act.put, List.setIfInBounds_toArray, List.set_cons_zero, List.set_cons_succ])
  refine wpAnyH_take (i := 17) (oi := ⟨some 78, _, _, _, _, _⟩) (v := ?_) rfl (by kernel_rfl) (by kernel_rfl) (by kernel_rfl) (fun _ _ _ h => h) (Or.inl ⟨by rfl, ?_⟩) (by assumption) ?_
  rotate_left
  · (intro w' hSw; (try dsimp only at hSw); go_simp; try (with_reducible rfl))
  (try simp only [Act.put, List.setIfInBounds_toArray, List.set_cons_zero, List.set_cons_succ])
  refine wpAnyH_take (i := 18) (oi := ⟨some 79, _, _, _, _, _⟩) (v := ?_) rfl (by kernel_rfl) (by kernel_rfl) (by kernel_rfl) (fun _ _ _ h => h) (Or.inl ⟨by rfl, ?_⟩) (by assumption) ?_
  rotate_left
  · (intro w' hSw; (try dsimp only at hSw); go_simp; try (with_reducible rfl))
  (try simp only [Act.put, List.setIfInBounds_toArray, List.set_cons_zero, List.set_cons_succ])
  refine wpAnyH_ready (rs := [19]) (by kernel_rfl) (by simp) ?_
  refine AllReadyH.cons (o := ⟨some 80, _, _, _, _, _⟩) rfl (fun K hK => ?_) AllReadyH.nil
  go_simp
  (go_at_call 15; refine (alive2_any _).mono ?_; rintro e w16 ⟨rfl, hb16⟩)
  go_wp2_with fail
  refine hK.out _ _ (keep4_2 (by assumption) (by assumption)) (fun hHeld => ?_)
  clear hK K
  (try simp only [Act.put, List.setIfInBounds_toArray, List.set_cons_zero, List.set_cons_succ])
  refine wpAnyH_take (i := 20) (oi := ⟨some 81, _, _, _, _, _⟩) (v := ?_) rfl (by kernel_rfl) (by kernel_rfl) (by kernel_rfl) (fun _ _ _ h => h) (Or.inl ⟨by rfl, ?_⟩) (by assumption) ?_
  rotate_left
  · (intro w' hSw; (try dsimp only at hSw); go_simp; try (with_reducible rfl))
  (try simp only [Act.put, List.setIfInBounds_toArray, List.set_cons_zero, List.set_cons_succ])
  refine wpAnyH_take (i := 21) (oi := ⟨some 6, _, _, _, _, _⟩) (v := ?_) rfl (by kernel_rfl) (by kernel_rfl) (by kernel_rfl) (fun _ _ _ h => h) (Or.inl ⟨by rfl, ?_⟩) (by assumption) ?_
  rotate_left
  · (intro w' hSw; (try dsimp only at hSw); go_simp; try (with_reducible rfl))
  (try simp only [Act.put, List.setIfInBounds_toArray, List.set_cons_zero, List.set_cons_succ])
  refine wpAnyH_done (by kernel_rfl) ?_ _
  refine NoPanic.normal ?_
  clear hwr
  all_goals go_wp2
  go_ret
  refine ⟨rfl, ?_⟩
  (repeat (first | exact Below.refl _ _ | (refine b_st ?_ (by first | (simp; done) | (simp; omega))) | (refine b_al ?_ (Nat.le_refl _) _) | refine b_dn ?_ | refine b_dr ?_ | (refine b_cl ?_ (Nat.le_refl _) (by assumption))))

set_option maxRecDepth 100000 in
set_option maxHeartbeats 800000 in
theorem minutes_yesh_ff (a0 b0 a1 b1 m bf bt uf ut o : Int) (w : World) (o0 : -1 ≤ o) (o1 : o ≤ 1)
    (HA : Hid (∀ W : World, Calls Try.prog 13 #[.agg #[.int .i64 a0, .int .i64 b0], .int .i64 m] W fun e w' => e = .returned (.bool false) ∧ Below W.heap.size W w'))
    (HC : Hid (∀ W : World, Calls Try.prog 13 #[.agg #[.int .i64 a1, .int .i64 b1], .int .i64 m] W fun e w' => e = .returned (.bool false) ∧ Below W.heap.size W w'))
    (HB : Hid (∀ W : World, Calls Try.prog 6 #[.agg #[.int .i64 a0, .int .i64 b0], .agg #[.int .i64 a1, .int .i64 b1]] W fun e w' => e = .returned (.tuple #[.agg #[.int .i64 bf, .int .i64 bt], .bool true]) ∧ Below W.heap.size W w'))
    (HR : Hid (∀ W : World, Calls Try.prog 11 #[.agg #[.int .i64 bf, .int .i64 bt]] W fun e w' => e = .returned (.bool true) ∧ Below W.heap.size W w'))
    (HH : Hid (∀ W : World, Calls Try.prog 8 #[.agg #[.int .i64 a0, .int .i64 b0], .agg #[.int .i64 a1, .int .i64 b1]] W fun e w' => e = .returned (.tuple #[.agg #[.int .i64 uf, .int .i64 ut], .bool true]) ∧ Below W.heap.size W w'))
    (HP : Hid (∀ W : World, Calls Try.prog 11 #[.agg #[.int .i64 a0, .int .i64 b0]] W fun e w' => e = .returned (.bool true) ∧ Below W.heap.size W w'))
    (HO : Hid (∀ W : World, Calls Try.prog 20 #[.agg #[.int .i64 a0, .int .i64 b0], .agg #[.int .i64 a1, .int .i64 b1]] W fun e w' => e = .returned (.int .i64 (-o)) ∧ Below W.heap.size W w'))
    (HQ : Hid (∀ W : World, Calls Try.prog 20 #[.agg #[.int .i64 a1, .int .i64 b1], .agg #[.int .i64 a0, .int .i64 b0]] W fun e w' => e = .returned (.int .i64 o) ∧ Below W.heap.size W w'))
    (HM : Hid (∀ W : World, Calls Try.prog 13 #[.agg #[.int .i64 bf, .int .i64 bt], .int .i64 m] W fun e w' => e = .returned (.bool false) ∧ Below W.heap.size W w'))
    (HS : Hid (∀ W : World, Calls Try.prog 11 #[.agg #[.int .i64 a1, .int .i64 b1]] W fun e w' => e = .returned (.bool true) ∧ Below W.heap.size W w')) :
    Calls Try.prog 5 #[.agg #[.int .i64 a0, .int .i64 b0], .agg #[.int .i64 a1, .int .i64 b1], .int .i64 m] w fun e w' => e = .returned (.bool true) ∧ Below w.heap.size w w' := by
  go_enter Try.func5, Try.ntmps5
  go_wp2
  have ka0 : ((w.alloc (Obj.cells #[.int .i64 a0, .int .i64 b0] 23)).alloc (Obj.cells #[.int .i64 a1, .int .i64 b1] 23)).cell? ⟨w.heap.size, 0, none⟩ = some (.int .i64 a0) := by
    (repeat (first | assumption | (simp; done) | refine c_al _ ?_ | refine c_cl ?_ (by assumption)))
  have ka1 : ((w.alloc (Obj.cells #[.int .i64 a0, .int .i64 b0] 23)).alloc (Obj.cells #[.int .i64 a1, .int .i64 b1] 23)).cell? ⟨w.heap.size, 1, none⟩ = some (.int .i64 b0) := by
    (repeat (first | assumption | (simp; done) | refine c_al _ ?_ | refine c_cl ?_ (by assumption)))
  have ka2 : ((w.alloc (Obj.cells #[.int .i64 a0, .int .i64 b0] 23)).alloc (Obj.cells #[.int .i64 a1, .int .i64 b1] 23)).cell? ⟨w.heap.size + 1, 0, none⟩ = some (.int .i64 a1) := by
    (repeat (first | assumption | (simp; done) | refine c_al _ ?_ | refine c_cl ?_ (by assumption)))
  have ka3 : ((w.alloc (Obj.cells #[.int .i64 a0, .int .i64 b0] 23)).alloc (Obj.cells #[.int .i64 a1, .int .i64 b1] 23)).cell? ⟨w.heap.size + 1, 1, none⟩ = some (.int .i64 b1) := by
    (repeat (first | assumption | (simp; done) | refine c_al _ ?_ | refine c_cl ?_ (by assumption)))
  have kaB : Below w.heap.size w ((w.alloc (Obj.cells #[.int .i64 a0, .int .i64 b0] 23)).alloc (Obj.cells #[.int .i64 a1, .int .i64 b1] 23)) := by
    (repeat (first | exact Below.refl _ _ | (refine b_st ?_ (by first | (simp; done) | (simp; omega))) | (refine b_al ?_ (Nat.le_refl _) _) | refine b_dn ?_ | refine b_dr ?_ | (refine b_cl ?_ (Nat.le_refl _) (by assumption))))
  have kaz : w.heap.size + 1 < ((w.alloc (Obj.cells #[.int .i64 a0, .int .i64 b0] 23)).alloc (Obj.cells #[.int .i64 a1, .int .i64 b1] 23)).heap.size := by have := kaB.size; first | omega | (simp; done) | (simp; omega)
  generalize ((w.alloc (Obj.cells #[.int .i64 a0, .int .i64 b0] 23)).alloc (Obj.cells #[.int .i64 a1, .int .i64 b1] 23)) = W0 at *
  go_region_held3 (fun w' => w'.cell? ⟨w.heap.size, 0, none⟩ = some (.int .i64 a0) ∧ w'.cell? ⟨w.heap.size, 1, none⟩ = some (.int .i64 b0) ∧ w'.cell? ⟨w.heap.size + 1, 0, none⟩ = some (.int .i64 a1) ∧ w'.cell? ⟨w.heap.size + 1, 1, none⟩ = some (.int .i64 b1)) (first | exact ⟨ka0, ka1, ka2, ka3⟩ | exact keep4_2 (by assumption) (by assumption) | exact keep4_2 (by assumption) ⟨ka0, ka1, ka2, ka3⟩) (first | (go_at_call_of 13 (Value.agg #[.int .i64 a0, .int .i64 b0]); refine (HA.out _).mono ?_; rintro e w1 ⟨rfl, hb1⟩) | (go_at_call_of 13 (Value.agg #[.int .i64 a1, .int .i64 b1]); refine (HC.out _).mono ?_; rintro e w2 ⟨rfl, hb2⟩))
  obtain ⟨kc0, kc1, kc2, kc3⟩ := keep4_2 hb2 (keep4_2 hb1 ⟨ka0, ka1, ka2, ka3⟩)
  have kcB : Below w.heap.size w w2 := by
    exact (b_cl (b_cl kaB.drew (Nat.le_refl _) hb1) (Nat.le_refl _) hb2)
  have kcz : w.heap.size + 1 < w2.heap.size := c_lt kc2
  have kcy : w.heap.size < w2.heap.size := c_lt kc0
  clear ka0 ka1 ka2 ka3 kaB kaz hb1 hb2 w1 W0
  go_wp2_with (first | (go_at_call 6; refine (HB.out _).mono ?_; rintro e w3 ⟨rfl, hb3⟩; obtain ⟨hc3, hf3⟩ := bcell hb3; have hz3 := hb3.size; (try simp at hz3); have : w.heap.size < w3.heap.size := (by omega); have : w.heap.size + 1 < w3.heap.size := (by omega)) | (go_at_call_of 13 (Value.agg #[.int .i64 bf, .int .i64 bt]); refine (HM.out _).mono ?_; rintro e w4 ⟨rfl, hb4⟩; obtain ⟨hc4, hf4⟩ := bcell hb4; have hz4 := hb4.size; (try simp at hz4); have : w.heap.size < w4.heap.size := (by omega); have : w.heap.size + 1 < w4.heap.size := (by omega); have : w3.heap.size < w4.heap.size := (by omega)) | (go_at_call_of 11 (Value.agg #[.int .i64 bf, .int .i64 bt]); refine (HR.out _).mono ?_; rintro e w5 ⟨rfl, hb5⟩; obtain ⟨hc5, hf5⟩ := bcell hb5; have hz5 := hb5.size; (try simp at hz5); have : w.heap.size < w5.heap.size := (by omega); have : w.heap.size + 1 < w5.heap.size := (by omega)) | (go_at_call 8; refine (HH.out _).mono ?_; rintro e w6 ⟨rfl, hb6⟩; obtain ⟨hc6, hf6⟩ := bcell hb6; have hz6 := hb6.size; (try simp at hz6); have : w.heap.size < w6.heap.size := (by omega); have : w.heap.size + 1 < w6.heap.size := (by omega)))

  have kd0 : (w6.alloc (Obj.cells #[.int .i64 uf, .int .i64 ut] 23)).cell? ⟨w.heap.size, 0, none⟩ = some (.int .i64 a0) := by
    (repeat (first | assumption | (simp; done) | refine c_al _ ?_ | refine c_cl ?_ (by assumption)))
  have kd1 : (w6.alloc (Obj.cells #[.int .i64 uf, .int .i64 ut] 23)).cell? ⟨w.heap.size, 1, none⟩ = some (.int .i64 b0) := by
    (repeat (first | assumption | (simp; done) | refine c_al _ ?_ | refine c_cl ?_ (by assumption)))
  have kd2 : (w6.alloc (Obj.cells #[.int .i64 uf, .int .i64 ut] 23)).cell? ⟨w.heap.size + 1, 0, none⟩ = some (.int .i64 a1) := by
    (repeat (first | assumption | (simp; done) | refine c_al _ ?_ | refine c_cl ?_ (by assumption)))
  have kd3 : (w6.alloc (Obj.cells #[.int .i64 uf, .int .i64 ut] 23)).cell? ⟨w.heap.size + 1, 1, none⟩ = some (.int .i64 b1) := by
    (repeat (first | assumption | (simp; done) | refine c_al _ ?_ | refine c_cl ?_ (by assumption)))
  have kdB : Below w.heap.size w (w6.alloc (Obj.cells #[.int .i64 uf, .int .i64 ut] 23)) := by
    (repeat (first | exact Below.refl _ _ | (refine b_st ?_ (by first | (simp; done) | (simp; omega))) | (refine b_al ?_ (Nat.le_refl _) _) | refine b_dn ?_ | refine b_dr ?_ | (refine b_cl ?_ (Nat.le_refl _) (by assumption))))
  have kdz : w.heap.size + 1 < (w6.alloc (Obj.cells #[.int .i64 uf, .int .i64 ut] 23)).heap.size := by have := kdB.size; first | omega | (simp; done) | (simp; omega)
  clear hc3 hf3 hb3 hz3 hc4 hf4 hb4 hz4 hc5 hf5 hb5 hz5 hc6 hf6 hb6 hz6
  generalize (w6.alloc (Obj.cells #[.int .i64 uf, .int .i64 ut] 23)) = w9 at *
  have hwr : IntKind.i64.wrap (-o) = -o := IntWalk.i64_in _ (by omega)
  go_region_held3 (fun w' => w'.cell? ⟨w.heap.size, 0, none⟩ = some (.int .i64 a0) ∧ w'.cell? ⟨w.heap.size, 1, none⟩ = some (.int .i64 b0) ∧ w'.cell? ⟨w.heap.size + 1, 0, none⟩ = some (.int .i64 a1) ∧ w'.cell? ⟨w.heap.size + 1, 1, none⟩ = some (.int .i64 b1)) (first | exact ⟨kd0, kd1, kd2, kd3⟩ | exact keep4_2 (by assumption) (by assumption) | exact keep4_2 (by assumption) ⟨kd0, kd1, kd2, kd3⟩) (first | (go_at_call_of 11 (Value.agg #[.int .i64 a0, .int .i64 b0]); refine (HP.out _).mono ?_; rintro e w12 ⟨rfl, hb12⟩) | (go_at_call_of 11 (Value.agg #[.int .i64 a1, .int .i64 b1]); refine (HS.out _).mono ?_; rintro e w13 ⟨rfl, hb13⟩) | (go_at_call 20; (with_reducible refine (HO.out _).mono ?_); rintro e w14 ⟨rfl, hb14⟩) | (go_at_call 20; (with_reducible refine (HQ.out _).mono ?_); rintro e w15 ⟨rfl, hb15⟩) | (go_at_call 15; refine (alive2_any _).mono ?_; rintro e w16 ⟨rfl, hb16⟩))
  clear hwr
  all_goals go_wp2
  go_ret
  refine ⟨rfl, ?_⟩
  (repeat (first | exact Below.refl _ _ | (refine b_st ?_ (by first | (simp; done) | (simp; omega))) | (refine b_al ?_ (Nat.le_refl _) _) | refine b_dn ?_ | refine b_dr ?_ | (refine b_cl ?_ (Nat.le_refl _) (by assumption))))

end Go.Proofs.Yteijjkdfffmikaa
