/- Over answers as the document says, for any book, any meter, any kind and any number of minutes. Conditions: none. -/
import Derived.Test.YtndhagflfbblaaaRows
import Derived.Test.YtndhagflfbblaaaBase
import Derived.Test.YtndhagflfbblaaaBookRow
import Derived.Test.YtndhagflfbblaaaBookLim
import Derived.Test.YtndhagflfbblaaaBookLaws
import Derived.Test.YtndhagflfbblaaaBox
import Derived.Test.YtndhagflfbblaaaSpellMath
import Derived.Test.YtndhagflfbblaaaMeterMath
import Derived.Test.YtndhagflfbblaaaMeterChk
import Derived.Test.YtndhagflfbblaaaMeterMayR
import Derived.Test.YtndhagflfbblaaaStretchMath
import Derived.Test.YtndhagflfbblaaaStretchSt
import Derived.Test.YtndhagflfbblaaaStretchLaws
import Derived.Test.YtndhagflfbblaaaStretchFarM
import Derived.Test.YtndhagflfbblaaaStretchChk
import Derived.Test.YtndhagflfbblaaaStretchOverC
import Derived.Test.YtndhagflfbblaaaStretchLeast
import Derived.Test.YtndhagflfbblaaaStretchEq
import Derived.Test.YtndhagflfbblaaaStretchFarC
import Derived.Test.YtndhagflfbblaaaStretchStR
import Derived.Test.YtndhagflfbblaaaStretchArgs
import Derived.Test.YtndhagflfbblaaaStretchEx
import Derived.Test.YtndhagflfbblaaaStretchOverR
import Derived.WalkKit
import Derived.WalkSmall
import Derived.WalkSpells
import Derived.ProofKit
import Derived.OpenShut
import Derived.ShutString
import Derived.ChangeOld
import Derived.Below
import Derived.Lib.Hide
import Derived.OwnWalk
import Derived.BigQuiet
import Derived.Outline
import Derived.Great.BuildSlice
import Derived.Maps.RangeWalk
import Derived.OrdersHeld
namespace Go.Proofs.Ytndhagflfbblaaa.stretchOver
open Go.ChangeShapes Go.WideShapes Go.ChangeAt Go.RowKit
open Go.ChangeMaps (open_string shut_string)
set_option linter.unusedVariables false

theorem own : ownKnob Try.prog.godebug = none := by kernel_rfl
theorem laidOut : laidOutB Try.prog = true := by kernel_rfl

set_option maxRecDepth 100000 in
set_option maxHeartbeats 8000000 in
theorem walk (w : World) (x0 : Nat → Int) (m1 : Mt) (a2 b2 : Int) :
    Calls Try.prog 3 #[.agg (bk x0), .agg (mt m1), .agg #[.int .i64 a2, .int .i64 b2]] w fun e w' => e = .returned (.bool true) ∧ Below w.heap.size w w' := by
  have r0 : RdI (((w.alloc (.cells (bk x0) 23)).alloc (.cells (mt m1) 25)).alloc (.cells (#[.int .i64 a2, .int .i64 b2]) 27)) w.heap.size 0 x0 := ((RdI.new x0 23 rfl).alloc _).alloc _
  have ya0 : Bx (((w.alloc (.cells (bk x0) 23)).alloc (.cells (mt m1) 25)).alloc (.cells (#[.int .i64 a2, .int .i64 b2]) 27)) (w.heap.size + 1) 25 (mt m1) := (Bx.new (W := w.alloc (.cells (bk x0) 23)) _ _ (by simp)).alloc _
  have xa0 : Bx (((w.alloc (.cells (bk x0) 23)).alloc (.cells (mt m1) 25)).alloc (.cells (#[.int .i64 a2, .int .i64 b2]) 27)) (w.heap.size + 2) 27 (#[.int .i64 a2, .int .i64 b2]) := Bx.new (W := (w.alloc (.cells (bk x0) 23)).alloc (.cells (mt m1) 25)) _ _ (by simp)
  have B0 : Below w.heap.size w (((w.alloc (.cells (bk x0) 23)).alloc (.cells (mt m1) 25)).alloc (.cells (#[.int .i64 a2, .int .i64 b2]) 27)) := b_al (b_al (b_al (Below.refl _ _) (Nat.le_refl _) _) (Nat.le_refl _) _) (Nat.le_refl _) _
  have p0 : (((w.alloc (.cells (bk x0) 23)).alloc (.cells (mt m1) 25)).alloc (.cells (#[.int .i64 a2, .int .i64 b2]) 27)).cell? ⟨w.heap.size + 2, 0, none⟩ = some (.int .i64 a2) := xa0.cell rfl
  have q0 : (((w.alloc (.cells (bk x0) 23)).alloc (.cells (mt m1) 25)).alloc (.cells (#[.int .i64 a2, .int .i64 b2]) 27)).cell? ⟨w.heap.size + 2, 1, none⟩ = some (.int .i64 b2) := xa0.cell rfl
  have OV := fun W => over14_any x0 m1 a2 b2 W
  have OR := fun W => refover14_any x0 m1 a2 b2 W
  generalize overV x0 m1 a2 b2 = V at OV OR
  obtain ⟨M, Y, E⟩ := V
  dsimp only at OV OR
  go_enter Try.func3, Try.ntmps3
  go_wp2_with (first
    | go_skip
    | refine wpList_load_bk (by rfl) 23 _ rfl _ _ rfl x0 _ (by assumption) Try.underlying23 rfl (by kernel_rfl) ?_
    | refine wpList_load_box (by rfl) 25 _ rfl (w.heap.size + 1) rfl 25 (mt m1) _ (by assumption) Try.underlying25 rfl (by kernel_rfl) ?_
    | (go_at_call 7; (with_reducible refine (OV _).mono ?_); rintro e w1 ⟨rfl, hb1⟩; have r1 := r0.below hb1; have ya1 := ya0.below hb1; have xa1 := xa0.below hb1; have B1 := b_cl B0 (Nat.le_refl _) hb1; have p1 : w1.cell? ⟨w.heap.size + 2, 0, none⟩ = some (.int .i64 a2) := xa1.cell rfl; have q1 : w1.cell? ⟨w.heap.size + 2, 1, none⟩ = some (.int .i64 b2) := xa1.cell rfl)
    | refine wpList_store_box rfl 25 _ _ rfl w1.heap.size (mt M) rfl rfl 25 (mt .zero) ((Bx.new (W := w1) 25 (mt .zero) rfl).alloc _) (by kernel_rfl) rfl (mt_one _) (fun w2 u2 => ?_)
    | (refine wpList_store_box rfl 29 _ _ rfl (w1.heap.size + 1) (tn Y) rfl rfl 29 (tn zeroF) (u2.bx (Bx.new (W := w1.alloc _) 29 (tn zeroF) (by simp)) (by omega)) (by kernel_rfl) rfl (tn_one _) (fun w3 u3 => ?_); have r3 := RfS.rdo (RfS.rdo ((r1.alloc _).alloc _) u2 (by have := r1.1; omega)) u3 (by have := r1.1; omega); have ya3 := u3.bx (u2.bx ((ya1.alloc _).alloc _) (by have := ya1.lt; omega)) (by have := ya1.lt; omega); have xa3 := u3.bx (u2.bx ((xa1.alloc _).alloc _) (by have := xa1.lt; omega)) (by have := xa1.lt; omega); have B3 := ((b_al (b_al B1 (Nat.le_refl _) _) (Nat.le_refl _) _).trans (u2.bel _ B1.size)).trans (u3.bel _ (by have := B1.size; omega)); have ym3 := u3.bx u2.box (by omega); have yf3 := u3.box; have p3 : w3.cell? ⟨w.heap.size + 2, 0, none⟩ = some (.int .i64 a2) := xa3.cell rfl; have q3 : w3.cell? ⟨w.heap.size + 2, 1, none⟩ = some (.int .i64 b2) := xa3.cell rfl)
    | (go_at_call 8; (with_reducible refine (OR _).mono ?_); rintro e w4 ⟨rfl, hb4⟩; have r4 := r3.below hb4; have ya4 := ya3.below hb4; have xa4 := xa3.below hb4; have ym4 := ym3.below hb4; have yf4 := yf3.below hb4; have B4 := b_cl B3 (Nat.le_refl _) hb4; have p4 : w4.cell? ⟨w.heap.size + 2, 0, none⟩ = some (.int .i64 a2) := xa4.cell rfl; have q4 : w4.cell? ⟨w.heap.size + 2, 1, none⟩ = some (.int .i64 b2) := xa4.cell rfl)
    | refine wpList_store_box rfl 25 _ _ rfl w4.heap.size (mt M) rfl rfl 25 (mt .zero) ((Bx.new (W := w4) 25 (mt .zero) rfl).alloc _) (by kernel_rfl) rfl (mt_one _) (fun w5 u5 => ?_)
    | (refine wpList_store_box rfl 28 _ _ rfl (w4.heap.size + 1) (tn Y) rfl rfl 28 (tn zeroF) (u5.bx (Bx.new (W := w4.alloc _) 28 (tn zeroF) (by simp)) (by omega)) (by kernel_rfl) rfl (tn_one _) (fun w6 u6 => ?_); have r6 := RfS.rdo (RfS.rdo ((r4.alloc _).alloc _) u5 (by have := r4.1; omega)) u6 (by have := r4.1; omega); have ya6 := u6.bx (u5.bx ((ya4.alloc _).alloc _) (by have := ya4.lt; omega)) (by have := ya4.lt; omega); have xa6 := u6.bx (u5.bx ((xa4.alloc _).alloc _) (by have := xa4.lt; omega)) (by have := xa4.lt; omega); have ym6 := u6.bx (u5.bx ((ym4.alloc _).alloc _) (by have := ym4.lt; omega)) (by have := ym4.lt; omega); have yf6 := u6.bx (u5.bx ((yf4.alloc _).alloc _) (by have := yf4.lt; omega)) (by have := yf4.lt; omega); have B6 := ((b_al (b_al B4 (Nat.le_refl _) _) (Nat.le_refl _) _).trans (u5.bel _ B4.size)).trans (u6.bel _ (by have := B4.size; omega)); have yn6 := u6.bx u5.box (by omega); have yg6 := u6.box; have p6 : w6.cell? ⟨w.heap.size + 2, 0, none⟩ = some (.int .i64 a2) := xa6.cell rfl; have q6 : w6.cell? ⟨w.heap.size + 2, 1, none⟩ = some (.int .i64 b2) := xa6.cell rfl)
    | refine wpList_load_box (by rfl) 25 _ rfl (w1.heap.size) rfl 25 (mt M) _ (by assumption) Try.underlying25 rfl (by kernel_rfl) ?_
    | refine wpList_load_box (by rfl) 29 _ rfl (w1.heap.size + 1) rfl 29 (tn Y) _ (by assumption) Try.underlying29 rfl (by kernel_rfl) ?_
    | refine wpList_load_box (by rfl) 25 _ rfl (w4.heap.size) rfl 25 (mt M) _ (by assumption) Try.underlying25 rfl (by kernel_rfl) ?_
    | refine wpList_load_box (by rfl) 28 _ rfl (w4.heap.size + 1) rfl 28 (tn Y) _ (by assumption) Try.underlying28 rfl (by kernel_rfl) ?_
    | refine wpList_eql_mt (by rfl) rfl M M true rfl rfl (Mt.eqB_self _) ?_
    | refine wpList_eql_te (by rfl) rfl Y Y true rfl rfl (eqT_self _) ?_
    | refine wpList_eql_fi (by rfl) rfl Y Y true rfl rfl (eqT_self _) ?_
    | (go_at_call 9; (with_reducible refine (alive14_any _).mono ?_); rintro e w99 ⟨rfl, hb99⟩))
  go_ret
  exact ⟨rfl, b_cl (by assumption) (Nat.le_refl _) hb99⟩

set_option maxRecDepth 100000 in
theorem lifted (os : Os) (started : os.Started) (H : Type) (enc : TypeId × Value → H) :
    ReturnsInHanded {} Try.checked os 3 .any (Rows.stretchOverSpec.pre6 enc Try.prog Try.f3 Rows.stretchOverRow.domain false) (Rows.stretchOverSpec.post enc Try.prog Try.f3 false true false false) := by
  refine returnsInHanded_of_change (C := Try.checked) own started (by kernel_rfl) Try.func3
    (ChangeSpec.witness6 (enc := enc) (C := Try.checked) false ⟨#[], #[.agg #[.int .i64 0, .int .i64 0, .int .i64 0, .int .i64 0, .int .i64 0, .int .i64 0, .int .i64 0, .int .i64 0, .int .i64 0, .int .i64 0, .int .i64 0, .int .i64 0, .int .i64 0, .int .i64 0, .int .i64 0, .int .i64 0, .int .i64 0, .int .i64 0, .int .i64 0], .agg #[.int .i64 0, .int .i64 0, .bool false, .int .i64 0, .int .i64 0, .int .i64 0, .int .i64 0, .bool false, .int .i64 0, .int .i64 0, .bool false, .int .i64 0, .int .i64 0, .int .i64 0], .agg #[.int .i64 0, .int .i64 0]], []⟩ 8 (by kernel_rfl) (by kernel_rfl) (by kernel_rfl) (by kernel_rfl)) ?_
  intro W base args ds gs before hval0 hW hcnd _
  have hval : ∀ (j : Nat) t v, Try.f3.params[j]? = some t → args[j]? = some v → Value.okWide Try.prog W .any base t v := hval0
  have hW' := hW
  obtain ⟨p, q, hA0, hV, rfl, hfz, hnd⟩ := hW
  have hA : DataW.TrodAll enc Try.prog W 0 (fun _ => true) true Try.f3.params.toList args.toList ds p := hA0
  rw [Try.params3] at hA hval
  obtain ⟨v0, vs0, d0, ds0, p0, q0, hargs, rfl, rfl, h0, r0⟩ := trodAll_cons hA
  obtain ⟨v1, vs1, d1, ds1, p1, q1, rfl, rfl, rfl, h1, r1⟩ := trodAll_cons r0
  obtain ⟨v2, vs2, d2, ds2, p2, q2, rfl, rfl, rfl, h2, r2⟩ := trodAll_cons r1
  obtain ⟨rfl, rfl, rfl⟩ := trodAll_nil r2
  obtain rfl : args = #[v0, v1, v2] := by cases args; simp_all
  obtain ⟨rfl, rfl⟩ := trodVars_none hV
  have k0 := h0
  have lt0 : ∀ x ∈ p0, x.block < W.heap.size := by obtain ⟨m, hm⟩ := k0; exact DataW.trod_lt m _ _ _ hm
  obtain ⟨x0, rfl⟩ := open_book (hval 0 23 v0 rfl rfl) h0
  have k1 := h1
  have lt1 : ∀ x ∈ p1, x.block < W.heap.size := by obtain ⟨m, hm⟩ := k1; exact DataW.trod_lt m _ _ _ hm
  obtain ⟨m1, rfl⟩ := open_meter (hval 1 25 v1 rfl rfl) h1
  have k2 := h2
  have lt2 : ∀ x ∈ p2, x.block < W.heap.size := by obtain ⟨m, hm⟩ := k2; exact DataW.trod_lt m _ _ _ hm
  obtain ⟨a2, b2, rfl⟩ := open_block14 (hval 2 27 v2 rfl rfl) h2
  clear hA0 hval0
  refine (walk W x0 m1 a2 b2).mono fun e W' ⟨he, bel⟩ => ?_
  subst he
  exact ⟨_, rfl, _, _, _, [], _, [], hW', trodAll_mk1 (shut_bool Try.underlying4 _), (trodAll_cons_mk (Below.trod laidOut (by kernel_rfl) (of_decide_eq_true (by kernel_rfl)) k0 bel lt0) (trodAll_cons_mk (Below.trod laidOut (by kernel_rfl) (of_decide_eq_true (by kernel_rfl)) k1 bel lt1) (trodAll_cons_mk (Below.trod laidOut (by kernel_rfl) (of_decide_eq_true (by kernel_rfl)) k2 bel lt2) trodAll_mk0))), rfl, bel.frame _, fun h => by cases h⟩

theorem over : Rows.stretchOverRow.holds Try.pinned (OpenSpec.ofChange Rows.stretchOverSpec) :=
  OpenClaim.holds_of_wide 3 Try.f3 rfl rfl rfl rfl rfl rfl rfl ⟨rfl, rfl, rfl, rfl, rfl⟩ rfl rfl rfl rfl rfl (by kernel_rfl) Try.func3 (by kernel_rfl)
    (of_decide_eq_true (by kernel_rfl)) (by unfold Func.isWrapper; first | (rw [if_pos (by decide +kernel)]; kernel_rfl) | (rw [if_neg (by decide +kernel)]; exact ⟨rfl, rfl⟩))
    (fun os started H enc _ => lifted os started H enc)

theorem proved : Rows.StretchOverSaid := over
#print axioms proved
end Go.Proofs.Ytndhagflfbblaaa.stretchOver
