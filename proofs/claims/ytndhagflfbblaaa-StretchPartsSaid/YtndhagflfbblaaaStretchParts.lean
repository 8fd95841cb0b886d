/- Of two blocks of one kind, one behind the other, the meter and the first minutes are those of the whole. Conditions: none. -/
import Derived.Test.YtndhagflfbblaaaRows
import Derived.Test.YtndhagflfbblaaaBase
import Derived.Test.YtndhagflfbblaaaBookRow
import Derived.Test.YtndhagflfbblaaaBookLim
import Derived.Test.YtndhagflfbblaaaBookLaws
import Derived.Test.YtndhagflfbblaaaBookOpen
import Derived.Test.YtndhagflfbblaaaBox
import Derived.Test.YtndhagflfbblaaaSpellMath
import Derived.Test.YtndhagflfbblaaaMeterMath
import Derived.Test.YtndhagflfbblaaaMeterChk
import Derived.Test.YtndhagflfbblaaaMeterMayR
import Derived.Test.YtndhagflfbblaaaMeterOpen
import Derived.Test.YtndhagflfbblaaaMeterLaws
import Derived.Test.YtndhagflfbblaaaStretchMath
import Derived.Test.YtndhagflfbblaaaStretchSt
import Derived.Test.YtndhagflfbblaaaStretchLaws
import Derived.Test.YtndhagflfbblaaaStretchFarM
import Derived.Test.YtndhagflfbblaaaStretchChk
import Derived.Test.YtndhagflfbblaaaStretchOverC
import Derived.Test.YtndhagflfbblaaaStretchLeast
import Derived.Test.YtndhagflfbblaaaStretchEq
import Derived.Test.YtndhagflfbblaaaStretchFarC
import Derived.Test.YtndhagflfbblaaaStretchStR
import Derived.Test.YtndhagflfbblaaaStretchAlive
import Derived.Test.YtndhagflfbblaaaStretchOpen
import Derived.WalkKit
import Derived.WalkSmall
import Derived.WalkSpells
import Derived.ProofKit
import Derived.OpenShut
import Derived.ShutString
import Derived.ChangeOld
import Derived.Below
import Derived.Lib.Hide
import Derived.OwnWalk
import Derived.BigQuiet
import Derived.Outline
import Derived.Great.BuildSlice
import Derived.Maps.RangeWalk
import Derived.OrdersHeld
import Derived.Test.YtndhagflfbblaaaStretchPartsP0
import Derived.Test.YtndhagflfbblaaaStretchPartsP2
import Derived.Test.YtndhagflfbblaaaStretchPartsP3
namespace Go.Proofs.Ytndhagflfbblaaa.stretchParts
open Go.ChangeShapes Go.WideShapes Go.ChangeAt Go.RowKit
open Go.ChangeMaps (open_string shut_string)
set_option linter.unusedVariables false

set_option maxRecDepth 100000 in
set_option maxHeartbeats 8000000 in
theorem bad1 (w : World) (x0 : Nat → Int) (m1 : Mt) (a2 b2 c2 : Int) (er : Int) (hV : overV x0 m1 a2 b2 = (.zero, zeroF, er)) (hE : er ≠ 0) :
    Calls Try.prog 5 #[.agg (bk x0), .agg (mt m1), .agg #[.int .i64 a2, .int .i64 b2, .int .i64 c2]] w fun e w' => e = .returned (.bool true) ∧ Below w.heap.size w w' := by
  have r0 : RdI (((w.alloc (.cells (bk x0) 23)).alloc (.cells (mt m1) 25)).alloc (.cells (#[.int .i64 a2, .int .i64 b2, .int .i64 c2]) 45)) w.heap.size 0 x0 := ((RdI.new x0 23 rfl).alloc _).alloc _
  have ya0 : Bx (((w.alloc (.cells (bk x0) 23)).alloc (.cells (mt m1) 25)).alloc (.cells (#[.int .i64 a2, .int .i64 b2, .int .i64 c2]) 45)) (w.heap.size + 1) 25 (mt m1) := (Bx.new (W := w.alloc (.cells (bk x0) 23)) _ _ (by simp)).alloc _
  have xa0 : Bx (((w.alloc (.cells (bk x0) 23)).alloc (.cells (mt m1) 25)).alloc (.cells (#[.int .i64 a2, .int .i64 b2, .int .i64 c2]) 45)) (w.heap.size + 2) 45 (#[.int .i64 a2, .int .i64 b2, .int .i64 c2]) := Bx.new (W := (w.alloc (.cells (bk x0) 23)).alloc (.cells (mt m1) 25)) _ _ (by simp)
  have B0 : Below w.heap.size w (((w.alloc (.cells (bk x0) 23)).alloc (.cells (mt m1) 25)).alloc (.cells (#[.int .i64 a2, .int .i64 b2, .int .i64 c2]) 45)) := b_al (b_al (b_al (Below.refl _ _) (Nat.le_refl _) _) (Nat.le_refl _) _) (Nat.le_refl _) _
  have p0 : (((w.alloc (.cells (bk x0) 23)).alloc (.cells (mt m1) 25)).alloc (.cells (#[.int .i64 a2, .int .i64 b2, .int .i64 c2]) 45)).cell? ⟨w.heap.size + 2, 0, none⟩ = some (.int .i64 a2) := xa0.cell rfl
  have q0 : (((w.alloc (.cells (bk x0) 23)).alloc (.cells (mt m1) 25)).alloc (.cells (#[.int .i64 a2, .int .i64 b2, .int .i64 c2]) 45)).cell? ⟨w.heap.size + 2, 1, none⟩ = some (.int .i64 b2) := xa0.cell rfl
  have s0 : (((w.alloc (.cells (bk x0) 23)).alloc (.cells (mt m1) 25)).alloc (.cells (#[.int .i64 a2, .int .i64 b2, .int .i64 c2]) 45)).cell? ⟨w.heap.size + 2, 2, none⟩ = some (.int .i64 c2) := xa0.cell rfl
  have OV := fun W => over14_any x0 m1 a2 b2 W
  rw [hV] at OV
  dsimp only at OV
  have ne : (er != 0) = true := by simpa using hE
  have ne2 : (er == 0) = false := by simpa using hE
  clear hE hV
  go_enter Try.func5, Try.ntmps5
  go_upto_region 3 with (first
    | go_skip
    | refine wpList_load_bk (by rfl) 23 _ rfl _ _ rfl x0 _ (by assumption) Try.underlying23 rfl (by kernel_rfl) ?_
    | refine wpList_load_box (by rfl) 25 _ rfl (w.heap.size + 1) rfl 25 (mt m1) _ (by assumption) Try.underlying25 rfl (by kernel_rfl) ?_
    | (go_at_call 7; (with_reducible refine (OV _).mono ?_); rintro e w1 ⟨rfl, hb1⟩; have r1 := r0.below hb1; have ya1 := ya0.below hb1; have xa1 := xa0.below hb1; have B1 := b_cl B0 (Nat.le_refl _) hb1; have p1 : w1.cell? ⟨w.heap.size + 2, 0, none⟩ = some (.int .i64 a2) := xa1.cell rfl; have q1 : w1.cell? ⟨w.heap.size + 2, 1, none⟩ = some (.int .i64 b2) := xa1.cell rfl; have s1 : w1.cell? ⟨w.heap.size + 2, 2, none⟩ = some (.int .i64 c2) := xa1.cell rfl)
    | refine wpList_store_box rfl 25 _ _ rfl w1.heap.size (mt .zero) rfl rfl 25 (mt .zero) ((Bx.new (W := w1) 25 (mt .zero) rfl).alloc _) (by kernel_rfl) rfl (mt_one _) (fun w2 u2 => ?_)
    | (refine wpList_store_box rfl 29 _ _ rfl (w1.heap.size + 1) (tn zeroF) rfl rfl 29 (tn zeroF) (u2.bx (Bx.new (W := w1.alloc _) 29 (tn zeroF) (by simp)) (by omega)) (by kernel_rfl) rfl (tn_one _) (fun w3 u3 => ?_); have r3 := RfS.rdo (RfS.rdo ((r1.alloc _).alloc _) u2 (by have := r1.1; omega)) u3 (by have := r1.1; omega); have ya3 := u3.bx (u2.bx ((ya1.alloc _).alloc _) (by have := ya1.lt; omega)) (by have := ya1.lt; omega); have xa3 := u3.bx (u2.bx ((xa1.alloc _).alloc _) (by have := xa1.lt; omega)) (by have := xa1.lt; omega); have B3 := ((b_al (b_al B1 (Nat.le_refl _) _) (Nat.le_refl _) _).trans (u2.bel _ B1.size)).trans (u3.bel _ (by have := B1.size; omega)); have ym3 := u3.bx u2.box (by omega); have yf3 := u3.box; have p3 : w3.cell? ⟨w.heap.size + 2, 0, none⟩ = some (.int .i64 a2) := xa3.cell rfl; have q3 : w3.cell? ⟨w.heap.size + 2, 1, none⟩ = some (.int .i64 b2) := xa3.cell rfl; have s3 : w3.cell? ⟨w.heap.size + 2, 2, none⟩ = some (.int .i64 c2) := xa3.cell rfl))
  (try go_frame)
  clear r0 B0 ya0 xa0 p0 q0 s0 hb1 r1 B1 ya1 xa1 p1 q1 s1 u2 u3 OV
  go_wp2_with (first
    | go_skip
    | refine wpList_load_box (by rfl) 25 _ rfl (w1.heap.size) rfl 25 (mt .zero) _ (by assumption) Try.underlying25 rfl (by kernel_rfl) ?_
    | refine wpList_build_as rfl 25 _ rfl (mt .zero) (by kernel_rfl) ?_
    | refine wpList_eql_mt (by rfl) rfl .zero .zero true rfl rfl (Mt.eqB_self _) ?_
    | (go_at_call 9; (with_reducible refine (alive14_any _).mono ?_); rintro e w99 ⟨rfl, hb99⟩))
  go_ret
  exact ⟨rfl, b_cl (by assumption) (Nat.le_refl _) hb99⟩

theorem walk (w : World) (x0 : Nat → Int) (m1 : Mt) (a2 b2 c2 : Int) :
    Calls Try.prog 5 #[.agg (bk x0), .agg (mt m1), .agg #[.int .i64 a2, .int .i64 b2, .int .i64 c2]] w fun e w' => e = .returned (.bool true) ∧ Below w.heap.size w w' := by
  by_cases he : err14 x0 m1 a2 = 0
  case neg => exact bad1 w x0 m1 a2 b2 c2 _ (over_bad b2 he) he
  obtain ⟨hx, hm, hk⟩ := err14_ok.1 he
  by_cases hr : b2 < 0 ∨ 40320 - m1.now < b2
  case pos => exact bad1 w x0 m1 a2 b2 c2 4 (by unfold overV; rw [if_pos he, if_pos hr]) (by decide)
  have hnow := hm.1
  obtain ⟨b, rfl⟩ : ∃ b : Nat, b2 = (b : Int) := ⟨b2.toNat, by omega⟩
  have hV1 := over_good (k := a2) b he (by omega)
  have hw1 := walkV_may (x := x0) (k := a2) b noneF hm (by omega)
  have ho1 := walk_ones x0 a2 b noneF hm (by omega) (fun _ _ => rfl)
  have hadd := walkV_add x0 a2 b
  have he2 : err14 x0 (walkV x0 a2 b m1 noneF).1 a2 = 0 := err14_ok.2 ⟨hx, hw1.1, hk⟩
  by_cases hr2 : c2 < 0 ∨ 40320 - (walkV x0 a2 b m1 noneF).1.now < c2
  case pos => exact bad2 w x0 m1 a2 b c2 _ _ 4 hV1 (by unfold overV; rw [if_pos he2, if_pos hr2]) (by decide)
  rw [hw1.2] at hr2
  obtain ⟨c, rfl⟩ : ∃ c : Nat, c2 = (c : Int) := ⟨c2.toNat, by omega⟩
  have hV2 := over_good (k := a2) c he2 (by rw [hw1.2]; omega)
  have hV3 := over_good (k := a2) (b + c) he (by omega)
  rw [hadd c m1 noneF, walk_meter x0 a2 c _ _ noneF, Int.natCast_add] at hV3
  exact good w x0 m1 a2 b c _ _ _ _ _ (by omega) (by omega) hV1 hV2 hV3 (fun i => walk_split x0 a2 c _ hw1.1 (by rw [hw1.2]; omega) ho1 i)

set_option maxRecDepth 100000 in
theorem lifted (os : Os) (started : os.Started) (H : Type) (enc : TypeId × Value → H) :
    ReturnsInHanded {} Try.checked os 5 .any (Rows.stretchPartsSpec.pre6 enc Try.prog Try.f5 Rows.stretchPartsRow.domain false) (Rows.stretchPartsSpec.post enc Try.prog Try.f5 false true false false) := by
  refine returnsInHanded_of_change (C := Try.checked) own started (by kernel_rfl) Try.func5
    (ChangeSpec.witness6 (enc := enc) (C := Try.checked) false ⟨#[], #[.agg #[.int .i64 0, .int .i64 0, .int .i64 0, .int .i64 0, .int .i64 0, .int .i64 0, .int .i64 0, .int .i64 0, .int .i64 0, .int .i64 0, .int .i64 0, .int .i64 0, .int .i64 0, .int .i64 0, .int .i64 0, .int .i64 0, .int .i64 0, .int .i64 0, .int .i64 0], .agg #[.int .i64 0, .int .i64 0, .bool false, .int .i64 0, .int .i64 0, .int .i64 0, .int .i64 0, .bool false, .int .i64 0, .int .i64 0, .bool false, .int .i64 0, .int .i64 0, .int .i64 0], .agg #[.int .i64 0, .int .i64 0, .int .i64 0]], []⟩ 8 (by kernel_rfl) (by kernel_rfl) (by kernel_rfl) (by kernel_rfl)) ?_
  intro W base args ds gs before hval0 hW hcnd _
  have hval : ∀ (j : Nat) t v, Try.f5.params[j]? = some t → args[j]? = some v → Value.okWide Try.prog W .any base t v := hval0
  have hW' := hW
  obtain ⟨p, q, hA0, hV, rfl, hfz, hnd⟩ := hW
  have hA : DataW.TrodAll enc Try.prog W 0 (fun _ => true) true Try.f5.params.toList args.toList ds p := hA0
  rw [Try.params5] at hA hval
  obtain ⟨v0, vs0, d0, ds0, p0, q0, hargs, rfl, rfl, h0, r0⟩ := trodAll_cons hA
  obtain ⟨v1, vs1, d1, ds1, p1, q1, rfl, rfl, rfl, h1, r1⟩ := trodAll_cons r0
  obtain ⟨v2, vs2, d2, ds2, p2, q2, rfl, rfl, rfl, h2, r2⟩ := trodAll_cons r1
  obtain ⟨rfl, rfl, rfl⟩ := trodAll_nil r2
  obtain rfl : args = #[v0, v1, v2] := by cases args; simp_all
  obtain ⟨rfl, rfl⟩ := trodVars_none hV
  have k0 := h0
  have lt0 : ∀ x ∈ p0, x.block < W.heap.size := by obtain ⟨m, hm⟩ := k0; exact DataW.trod_lt m _ _ _ hm
  obtain ⟨x0, rfl⟩ := open_book (hval 0 23 v0 rfl rfl) h0
  have k1 := h1
  have lt1 : ∀ x ∈ p1, x.block < W.heap.size := by obtain ⟨m, hm⟩ := k1; exact DataW.trod_lt m _ _ _ hm
  obtain ⟨m1, rfl⟩ := open_meter (hval 1 25 v1 rfl rfl) h1
  have k2 := h2
  have lt2 : ∀ x ∈ p2, x.block < W.heap.size := by obtain ⟨m, hm⟩ := k2; exact DataW.trod_lt m _ _ _ hm
  obtain ⟨a2, b2, c2, rfl⟩ := open_two14 (hval 2 45 v2 rfl rfl) h2
  clear hA0 hval0
  refine (walk W x0 m1 a2 b2 c2).mono fun e W' ⟨he, bel⟩ => ?_
  subst he
  exact ⟨_, rfl, _, _, _, [], _, [], hW', trodAll_mk1 (shut_bool Try.underlying4 _), (trodAll_cons_mk (Below.trod laidOut (by kernel_rfl) (of_decide_eq_true (by kernel_rfl)) k0 bel lt0) (trodAll_cons_mk (Below.trod laidOut (by kernel_rfl) (of_decide_eq_true (by kernel_rfl)) k1 bel lt1) (trodAll_cons_mk (Below.trod laidOut (by kernel_rfl) (of_decide_eq_true (by kernel_rfl)) k2 bel lt2) trodAll_mk0))), rfl, bel.frame _, fun h => by cases h⟩

theorem over : Rows.stretchPartsRow.holds Try.pinned (OpenSpec.ofChange Rows.stretchPartsSpec) :=
  OpenClaim.holds_of_wide 5 Try.f5 rfl rfl rfl rfl rfl rfl rfl ⟨rfl, rfl, rfl, rfl, rfl⟩ rfl rfl rfl rfl rfl (by kernel_rfl) Try.func5 (by kernel_rfl)
    (of_decide_eq_true (by kernel_rfl)) (by unfold Func.isWrapper; first | (rw [if_pos (by decide +kernel)]; kernel_rfl) | (rw [if_neg (by decide +kernel)]; exact ⟨rfl, rfl⟩))
    (fun os started H enc _ => lifted os started H enc)

theorem proved : Rows.StretchPartsSaid := over
#print axioms proved
end Go.Proofs.Ytndhagflfbblaaa.stretchParts
