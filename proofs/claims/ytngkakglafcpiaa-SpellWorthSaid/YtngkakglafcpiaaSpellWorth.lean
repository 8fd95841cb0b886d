/- What Of tells is as the document says, or the error; for any book and any spell. Conditions: none. -/
import Derived.Test.YtngkakglafcpiaaRows
import Derived.Test.YtngkakglafcpiaaBase
import Derived.Test.YtngkakglafcpiaaBookRow
import Derived.Test.YtngkakglafcpiaaBookLeaf
import Derived.Test.YtngkakglafcpiaaBookNum
import Derived.Test.YtngkakglafcpiaaBookBel
import Derived.Test.YtngkakglafcpiaaBookOrd
import Derived.Test.YtngkakglafcpiaaBookLim
import Derived.Test.YtngkakglafcpiaaBookMayR
import Derived.Test.YtngkakglafcpiaaBookLaws
import Derived.Test.YtngkakglafcpiaaBookOpen
import Derived.Test.YtngkakglafcpiaaBookAlive
import Derived.Test.YtngkakglafcpiaaIvalLeaf
import Derived.Test.YtngkakglafcpiaaBox
import Derived.Test.YtngkakglafcpiaaSpellMath
import Derived.Test.YtngkakglafcpiaaSpellLeaf
import Derived.Test.YtngkakglafcpiaaSpellSt
import Derived.Test.YtngkakglafcpiaaSpellOf
import Derived.Test.YtngkakglafcpiaaSpellOfR
import Derived.Test.YtngkakglafcpiaaSpellAlive
import Derived.Test.YtngkakglafcpiaaSpellLaws
import Derived.Test.YtngkakglafcpiaaSpellOpen
import Derived.WalkKit
import Derived.WalkSmall
import Derived.WalkSpells
import Derived.ProofKit
import Derived.OpenShut
import Derived.ShutString
import Derived.ChangeOld
import Derived.Below
import Derived.Lib.Hide
import Derived.OwnWalk
import Derived.BigQuiet
import Derived.Outline
import Derived.Deep.DeepCutAuto
import Derived.Deep.RegionHeld3
import Derived.Maps.RangeWalk
namespace Go.Proofs.Ytngkakglafcpiaa.spellWorth
open Go.ChangeShapes Go.WideShapes Go.ChangeAt Go.RowKit
open Go.ChangeMaps (open_string shut_string)
set_option linter.unusedVariables false

theorem own : ownKnob Try.prog.godebug = none := by kernel_rfl
theorem laidOut : laidOutB Try.prog = true := by kernel_rfl

set_option maxRecDepth 100000 in
set_option maxHeartbeats 8000000 in
open Classical in
theorem walk (w : World) (x0 : Nat → Int) (a1 b1 c1 : Int) (d1 e1 : Bool) (y1 : (Lit.int .i64 b1).wf = true) :
    Calls Try.prog 3 #[.agg (bk x0), .agg #[.int .i64 a1, .int .i64 b1, .int .i64 c1, .bool d1, .bool e1]] w fun e w' => e = .returned (.bool true) ∧ Below w.heap.size w w' := by
  have r0 : RdI ((w.alloc (.cells (bk x0) 23)).alloc (.cells #[.int .i64 a1, .int .i64 b1, .int .i64 c1, .bool d1, .bool e1] 27)) w.heap.size 0 x0 := (RdI.new x0 23 rfl).alloc _
  have s0 : Bx ((w.alloc (.cells (bk x0) 23)).alloc (.cells #[.int .i64 a1, .int .i64 b1, .int .i64 c1, .bool d1, .bool e1] 27)) (w.heap.size + 1) 27 #[.int .i64 a1, .int .i64 b1, .int .i64 c1, .bool d1, .bool e1] := Bx.new (W := w.alloc (.cells (bk x0) 23)) 27 _ (by simp)
  have B0 : Below w.heap.size w ((w.alloc (.cells (bk x0) 23)).alloc (.cells #[.int .i64 a1, .int .i64 b1, .int .i64 c1, .bool d1, .bool e1] 27)) := b_al (b_al (Below.refl _ _) (Nat.le_refl _) _) (Nat.le_refl _) _
  have CK := fun W => refscheck_any x0 a1 b1 c1 W
  by_cases he : spellErr x0 a1 b1 c1 = 0
  case neg =>
    have CO := fun W => of_bad x0 a1 b1 c1 d1 e1 W he
    generalize spellErr x0 a1 b1 c1 = er at CK CO he
    have h1 : (er != 0) = true := by simpa using he
    have h2 : (er == 0) = false := by simpa using he
    clear he
    go_enter Try.func3, Try.ntmps3
    go_wp2_with (first | refine wpList_load_bk (by rfl) 23 _ rfl _ _ rfl x0 _ (by assumption) Try.underlying23 rfl (by kernel_rfl) ?_ | (go_at_call 7; (with_reducible refine (CO _).mono ?_); rintro e w1 ⟨rfl, hb1⟩; have r1 := r0.below hb1; have s1 := s0.below hb1; have B1 := b_cl B0 (Nat.le_refl _) hb1; have p0_1 := s1.cell (k := 0) rfl; have p1_1 := s1.cell (k := 1) rfl; have p2_1 := s1.cell (k := 2) rfl; have p3_1 := s1.cell (k := 3) rfl; have p4_1 := s1.cell (k := 4) rfl) | (refine wpList_store_box rfl 29 _ _ rfl (w1.heap.size) (wo .zero) rfl rfl 29 (wo .zero) (Bx.new (W := w1) 29 (wo .zero) rfl) (by kernel_rfl) rfl (wo_one _) (fun w2 u2 => ?_); have r2 := (r1.alloc _).upd u2 (Nat.ne_of_lt r1.1); have s2 := u2.bx (s1.alloc _) (Nat.ne_of_lt s1.lt); have B2 := (b_al B1 (Nat.le_refl _) _).trans (u2.bel _ B1.size); have p0_2 := s2.cell (k := 0) rfl; have p1_2 := s2.cell (k := 1) rfl; have p2_2 := s2.cell (k := 2) rfl; have p3_2 := s2.cell (k := 3) rfl; have p4_2 := s2.cell (k := 4) rfl) | (go_at_call 8; (with_reducible refine (CK _).mono ?_); rintro e w3 ⟨rfl, hb3⟩; have r3 := r2.below hb3; have s3 := s2.below hb3; have B3 := b_cl B2 (Nat.le_refl _) hb3; have p0_3 := s3.cell (k := 0) rfl; have p1_3 := s3.cell (k := 1) rfl; have p2_3 := s3.cell (k := 2) rfl; have p3_3 := s3.cell (k := 3) rfl; have p4_3 := s3.cell (k := 4) rfl; have b3 := u2.box.below hb3) | refine wpList_load_box (by rfl) 29 _ rfl (w1.heap.size) rfl 29 (wo .zero) _ b3 Try.underlying29 rfl (by kernel_rfl) ?_ | refine wpList_build_as rfl 29 _ rfl (wo .zero) (by kernel_rfl) ?_ | refine wpList_eql_wop (by rfl) rfl .zero .zero true rfl rfl (Wo.eqB_self _) ?_ | (go_at_call 9; (with_reducible refine (alive12_any _).mono ?_); rintro e w9 ⟨rfl, hb9⟩))
    go_ret
    exact ⟨rfl, b_cl (by assumption) (Nat.le_refl _) hb9⟩
  obtain ⟨hm, k1, k2, k3, k4, k5⟩ := spellErr_ok.1 he
  have CO := fun W => of_good x0 a1 b1 c1 d1 e1 W hm k1 k2 k3 k4 k5
  have CR := fun W => refof12_any x0 a1 b1 c1 d1 e1 W hm k1 k2 k3 k4 k5
  rw [he] at CK
  generalize ofV x0 a1 b1 c1 d1 e1 = V at CO CR
  clear he hm
  go_enter Try.func3, Try.ntmps3
  go_wp2_with (first | refine wpList_load_bk (by rfl) 23 _ rfl _ _ rfl x0 _ (by assumption) Try.underlying23 rfl (by kernel_rfl) ?_ | (go_at_call 7; (with_reducible refine (CO _).mono ?_); rintro e w1 ⟨rfl, hb1⟩; have r1 := r0.below hb1; have s1 := s0.below hb1; have B1 := b_cl B0 (Nat.le_refl _) hb1; have p0_1 := s1.cell (k := 0) rfl; have p1_1 := s1.cell (k := 1) rfl; have p2_1 := s1.cell (k := 2) rfl; have p3_1 := s1.cell (k := 3) rfl; have p4_1 := s1.cell (k := 4) rfl) | (refine wpList_store_box rfl 29 _ _ rfl (w1.heap.size) (wo V) rfl rfl 29 (wo .zero) (Bx.new (W := w1) 29 (wo .zero) rfl) (by kernel_rfl) rfl (wo_one _) (fun w2 u2 => ?_); have r2 := (r1.alloc _).upd u2 (Nat.ne_of_lt r1.1); have s2 := u2.bx (s1.alloc _) (Nat.ne_of_lt s1.lt); have B2 := (b_al B1 (Nat.le_refl _) _).trans (u2.bel _ B1.size); have p0_2 := s2.cell (k := 0) rfl; have p1_2 := s2.cell (k := 1) rfl; have p2_2 := s2.cell (k := 2) rfl; have p3_2 := s2.cell (k := 3) rfl; have p4_2 := s2.cell (k := 4) rfl) | (go_at_call 8; (with_reducible refine (CK _).mono ?_); rintro e w3 ⟨rfl, hb3⟩; have r3 := r2.below hb3; have s3 := s2.below hb3; have B3 := b_cl B2 (Nat.le_refl _) hb3; have p0_3 := s3.cell (k := 0) rfl; have p1_3 := s3.cell (k := 1) rfl; have p2_3 := s3.cell (k := 2) rfl; have p3_3 := s3.cell (k := 3) rfl; have p4_3 := s3.cell (k := 4) rfl; have b3 := u2.box.below hb3))
  refine wp_region_noPanic ?_
  refine wp_region_held_drew (S := fun w' => Below w3.heap.size w3 w') (by kernel_rfl) ?_ (fun hHeld => ?_)
  · exact b_dr (Below.refl _ _)
  refine wpAnyH_take (i := 0) (oi := ⟨some 40, _, _, _, _, _⟩) (v := ?_) rfl (by kernel_rfl) (by kernel_rfl) (by kernel_rfl) (fun _ _ _ h => h) (Or.inl ⟨by rfl, ?_⟩) (by assumption) ?_
  rotate_left
  · (intro w' hSw; clear hSw; go_simp; try (with_reducible rfl))
  (try simp only [Act.put, List.setIfInBounds_toArray, List.set_cons_zero, List.set_cons_succ])
  refine wpAnyH_take (i := 1) (oi := ⟨some 41, _, _, _, _, _⟩) (v := ?_) rfl (by kernel_rfl) (by kernel_rfl) (by kernel_rfl) (fun _ _ _ h => h) (Or.inl ⟨by rfl, ?_⟩) (by assumption) ?_
  rotate_left
  · (intro w' hSw; clear hSw; go_simp; try (with_reducible rfl))
  (try simp only [Act.put, List.setIfInBounds_toArray, List.set_cons_zero, List.set_cons_succ])
  refine wpAnyH_take (i := 2) (oi := ⟨some 42, _, _, _, _, _⟩) (v := ?_) rfl (by kernel_rfl) (by kernel_rfl) (by kernel_rfl) (fun _ _ _ h => h) (Or.inl ⟨by rfl, ?_⟩) (by assumption) ?_
  rotate_left
  · (intro w' hSw; clear hSw; go_simp; try (with_reducible rfl))
  (try simp only [Act.put, List.setIfInBounds_toArray, List.set_cons_zero, List.set_cons_succ])
  refine wpAnyH_take (i := 3) (oi := ⟨some 43, _, _, _, _, _⟩) (v := .agg (wo V)) rfl (by kernel_rfl) (by kernel_rfl) (by kernel_rfl) (fun _ _ _ h => h) (Or.inl ⟨by rfl, fun w' hSw => exec_load_box w1.heap.size 29 (wo V) _ w' rfl rfl (b3.keep hSw b3.lt) Try.underlying29 rfl (by kernel_rfl)⟩) (by assumption) ?_
  (try simp only [Act.put, List.setIfInBounds_toArray, List.set_cons_zero, List.set_cons_succ])
  refine wpAnyH_take (i := 4) (oi := ⟨some 44, _, _, _, _, _⟩) (v := .agg (bk x0)) rfl (by kernel_rfl) (by kernel_rfl) (by kernel_rfl) (fun _ _ _ h => h) (Or.inl ⟨by rfl, fun w' hSw => exec_load w.heap.size 0 x0 _ w' rfl rfl (r3.below hSw) Try.underlying23 rfl (by kernel_rfl)⟩) (by assumption) ?_
  (try simp only [Act.put, List.setIfInBounds_toArray, List.set_cons_zero, List.set_cons_succ])
  refine wpAnyH_take (i := 5) (oi := ⟨some 45, _, _, _, _, _⟩) (v := ?_) rfl (by kernel_rfl) (by kernel_rfl) (by kernel_rfl) (fun _ _ _ h => h) (Or.inl ⟨by rfl, ?_⟩) (by assumption) ?_
  rotate_left
  · (intro w' hSw; clear hSw; go_simp; try (with_reducible rfl))
  (try simp only [Act.put, List.setIfInBounds_toArray, List.set_cons_zero, List.set_cons_succ])
  refine wpAnyH_take (i := 6) (oi := ⟨some 46, _, _, _, _, _⟩) (v := .agg #[.int .i64 a1, .int .i64 b1]) rfl (by kernel_rfl) (by kernel_rfl) (by kernel_rfl) (fun _ _ _ h => h) (yieldsIf_load_mid (by rfl) 25 _ rfl (w.heap.size + 1) 0 rfl [.int .i64 a1, .int .i64 b1] _ (fun w' hSw => (s3.keep hSw s3.lt).range2 rfl rfl) Try.underlying25 rfl (by kernel_rfl)) (by assumption) ?_
  (try simp only [Act.put, List.setIfInBounds_toArray, List.set_cons_zero, List.set_cons_succ])
  refine wpAnyH_take (i := 7) (oi := ⟨some 47, _, _, _, _, _⟩) (v := ?_) rfl (by kernel_rfl) (by kernel_rfl) (by kernel_rfl) (fun _ _ _ h => h) (Or.inl ⟨by rfl, ?_⟩) (by assumption) ?_
  rotate_left
  · (intro w' hSw; clear hSw; go_simp; try (with_reducible rfl))
  (try simp only [Act.put, List.setIfInBounds_toArray, List.set_cons_zero, List.set_cons_succ])
  refine wpAnyH_take (i := 8) (oi := ⟨some 48, _, _, _, _, _⟩) (v := ?_) rfl (by kernel_rfl) (by kernel_rfl) (by kernel_rfl) (fun _ _ _ h => h) (Or.inl ⟨by rfl, ?_⟩) (by assumption) ?_
  rotate_left
  · (intro w' hSw; have q := (s3.keep hSw s3.lt).cell (k := 2) rfl; clear hSw; go_simp; try (with_reducible rfl))
  (try simp only [Act.put, List.setIfInBounds_toArray, List.set_cons_zero, List.set_cons_succ])
  refine wpAnyH_take (i := 9) (oi := ⟨some 49, _, _, _, _, _⟩) (v := ?_) rfl (by kernel_rfl) (by kernel_rfl) (by kernel_rfl) (fun _ _ _ h => h) (Or.inl ⟨by rfl, ?_⟩) (by assumption) ?_
  rotate_left
  · (intro w' hSw; clear hSw; go_simp; try (with_reducible rfl))
  (try simp only [Act.put, List.setIfInBounds_toArray, List.set_cons_zero, List.set_cons_succ])
  refine wpAnyH_take (i := 10) (oi := ⟨some 50, _, _, _, _, _⟩) (v := ?_) rfl (by kernel_rfl) (by kernel_rfl) (by kernel_rfl) (fun _ _ _ h => h) (Or.inl ⟨by rfl, ?_⟩) (by assumption) ?_
  rotate_left
  · (intro w' hSw; have q := (s3.keep hSw s3.lt).cell (k := 3) rfl; clear hSw; go_simp; try (with_reducible rfl))
  (try simp only [Act.put, List.setIfInBounds_toArray, List.set_cons_zero, List.set_cons_succ])
  refine wpAnyH_take (i := 11) (oi := ⟨some 51, _, _, _, _, _⟩) (v := ?_) rfl (by kernel_rfl) (by kernel_rfl) (by kernel_rfl) (fun _ _ _ h => h) (Or.inl ⟨by rfl, ?_⟩) (by assumption) ?_
  rotate_left
  · (intro w' hSw; clear hSw; go_simp; try (with_reducible rfl))
  (try simp only [Act.put, List.setIfInBounds_toArray, List.set_cons_zero, List.set_cons_succ])
  refine wpAnyH_take (i := 12) (oi := ⟨some 52, _, _, _, _, _⟩) (v := ?_) rfl (by kernel_rfl) (by kernel_rfl) (by kernel_rfl) (fun _ _ _ h => h) (Or.inl ⟨by rfl, ?_⟩) (by assumption) ?_
  rotate_left
  · (intro w' hSw; have q := (s3.keep hSw s3.lt).cell (k := 4) rfl; clear hSw; go_simp; try (with_reducible rfl))
  (try simp only [Act.put, List.setIfInBounds_toArray, List.set_cons_zero, List.set_cons_succ])
  refine wpAnyH_ready (rs := [13]) (by kernel_rfl) (by simp) ?_
  refine AllReadyH.cons (o := ⟨some 53, _, _, _, _, _⟩) rfl (fun K hK => ?_) AllReadyH.nil
  go_simp
  (go_at_call 10; (with_reducible refine (CR _).mono ?_); rintro e w4 ⟨rfl, hb4⟩)
  go_wp2_with fail
  refine hK.out _ _ (b_cl hHeld (Nat.le_refl _) (by assumption)) (fun hHeld => ?_)
  clear hK K
  (try simp only [Act.put, List.setIfInBounds_toArray, List.set_cons_zero, List.set_cons_succ])
  refine wpAnyH_take (i := 14) (oi := ⟨some 54, _, _, _, _, _⟩) (v := .bool true) rfl (by kernel_rfl) (by kernel_rfl) (by kernel_rfl) (fun _ _ _ h => h) (Or.inl ⟨by rfl, fun w' hSw => by rw [← Wo.eqB_self V]; exact exec_eql_wor V V w' rfl rfl rfl⟩) (by assumption) ?_
  (try simp only [Act.put, List.setIfInBounds_toArray, List.set_cons_zero, List.set_cons_succ])
  refine wpAnyH_take (i := 15) (oi := ⟨some 55, _, _, _, _, _⟩) (v := ?_) rfl (by kernel_rfl) (by kernel_rfl) (by kernel_rfl) (fun _ _ _ h => h) (Or.inl ⟨by rfl, ?_⟩) (by assumption) ?_
  rotate_left
  · (intro w' hSw; clear hSw; go_simp; try (with_reducible rfl))
  (try simp only [Act.put, List.setIfInBounds_toArray, List.set_cons_zero, List.set_cons_succ])
  refine wpAnyH_take (i := 16) (oi := ⟨some 56, _, _, _, _, _⟩) (v := ?_) rfl (by kernel_rfl) (by kernel_rfl) (by kernel_rfl) (fun _ _ _ h => h) (Or.inl ⟨by rfl, ?_⟩) (by assumption) ?_
  rotate_left
  · (intro w' hSw; clear hSw; go_simp; try (with_reducible rfl))
  (try simp only [Act.put, List.setIfInBounds_toArray, List.set_cons_zero, List.set_cons_succ])
  refine wpAnyH_ready (rs := [17]) (by kernel_rfl) (by simp) ?_
  refine AllReadyH.cons (o := ⟨some 57, _, _, _, _, _⟩) rfl (fun K hK => ?_) AllReadyH.nil
  go_simp
  (go_at_call 9; (with_reducible refine (alive12_any _).mono ?_); rintro e w9 ⟨rfl, hb9⟩)
  go_wp2_with fail
  refine hK.out _ _ (b_cl hHeld (Nat.le_refl _) (by assumption)) (fun hHeld => ?_)
  clear hK K
  (try simp only [Act.put, List.setIfInBounds_toArray, List.set_cons_zero, List.set_cons_succ])
  refine wpAnyH_take (i := 18) (oi := ⟨some 58, _, _, _, _, _⟩) (v := ?_) rfl (by kernel_rfl) (by kernel_rfl) (by kernel_rfl) (fun _ _ _ h => h) (Or.inl ⟨by rfl, ?_⟩) (by assumption) ?_
  rotate_left
  · (intro w' hSw; clear hSw; go_simp; try (with_reducible rfl))
  (try simp only [Act.put, List.setIfInBounds_toArray, List.set_cons_zero, List.set_cons_succ])
  refine wpAnyH_take (i := 19) (oi := ⟨some 4, _, _, _, _, _⟩) (v := ?_) rfl (by kernel_rfl) (by kernel_rfl) (by kernel_rfl) (fun _ _ _ h => h) (Or.inl ⟨by rfl, ?_⟩) (by assumption) ?_
  rotate_left
  · (intro w' hSw; clear hSw; go_simp; try (with_reducible rfl))
  (try simp only [Act.put, List.setIfInBounds_toArray, List.set_cons_zero, List.set_cons_succ])
  refine wpAnyH_done (by kernel_rfl) ?_ _
  refine NoPanic.normal ?_
  go_wp2
  go_ret
  exact ⟨rfl, b_cl B3 (Nat.le_refl _) hHeld⟩

set_option maxRecDepth 100000 in
theorem lifted (os : Os) (started : os.Started) (H : Type) (enc : TypeId × Value → H) :
    ReturnsInHanded {} Try.checked os 3 .any (Rows.spellWorthSpec.pre6 enc Try.prog Try.f3 Rows.spellWorthRow.domain false) (Rows.spellWorthSpec.post enc Try.prog Try.f3 false true false false) := by
  refine returnsInHanded_of_change (C := Try.checked) own started (by kernel_rfl) Try.func3
    (ChangeSpec.witness6 (enc := enc) (C := Try.checked) false ⟨#[], #[.agg #[.int .i64 0, .int .i64 0, .int .i64 0, .int .i64 0, .int .i64 0, .int .i64 0, .int .i64 0, .int .i64 0, .int .i64 0, .int .i64 0, .int .i64 0, .int .i64 0, .int .i64 0, .int .i64 0, .int .i64 0, .int .i64 0, .int .i64 0, .int .i64 0, .int .i64 0], .agg #[.int .i64 0, .int .i64 0, .int .i64 0, .bool false, .bool false]], []⟩ 8 (by kernel_rfl) (by kernel_rfl) (by kernel_rfl) (by kernel_rfl)) ?_
  intro W base args ds gs before hval0 hW hcnd _
  have hval : ∀ (j : Nat) t v, Try.f3.params[j]? = some t → args[j]? = some v → Value.okWide Try.prog W .any base t v := hval0
  have hW' := hW
  obtain ⟨p, q, hA0, hV, rfl, hfz, hnd⟩ := hW
  have hA : DataW.TrodAll enc Try.prog W 0 (fun _ => true) true Try.f3.params.toList args.toList ds p := hA0
  rw [Try.params3] at hA hval
  obtain ⟨v0, vs0, d0, ds0, p0, q0, hargs, rfl, rfl, h0, r0⟩ := trodAll_cons hA
  obtain ⟨v1, vs1, d1, ds1, p1, q1, rfl, rfl, rfl, h1, r1⟩ := trodAll_cons r0
  obtain ⟨rfl, rfl, rfl⟩ := trodAll_nil r1
  obtain rfl : args = #[v0, v1] := by cases args; simp_all
  obtain ⟨rfl, rfl⟩ := trodVars_none hV
  have k0 := h0
  have lt0 : ∀ x ∈ p0, x.block < W.heap.size := by obtain ⟨m, hm⟩ := k0; exact DataW.trod_lt m _ _ _ hm
  obtain ⟨x0, rfl⟩ := open_book (hval 0 23 v0 rfl rfl) h0
  have k1 := h1
  have lt1 : ∀ x ∈ p1, x.block < W.heap.size := by obtain ⟨m, hm⟩ := k1; exact DataW.trod_lt m _ _ _ hm
  obtain ⟨a1, b1, c1, d1, e1, rfl, y1⟩ := open_rested (hval 1 27 v1 rfl rfl) h1
  clear hA0 hval0
  refine (walk W x0 a1 b1 c1 d1 e1 y1).mono fun e W' ⟨he, bel⟩ => ?_
  subst he
  exact ⟨_, rfl, _, _, _, [], _, [], hW', trodAll_mk1 (shut_bool Try.underlying4 _), (trodAll_cons_mk (Below.trod laidOut (by kernel_rfl) (of_decide_eq_true (by kernel_rfl)) k0 bel lt0) (trodAll_cons_mk (Below.trod laidOut (by kernel_rfl) (of_decide_eq_true (by kernel_rfl)) k1 bel lt1) trodAll_mk0)), rfl, bel.frame _, fun h => by cases h⟩

theorem over : Rows.spellWorthRow.holds Try.pinned (OpenSpec.ofChange Rows.spellWorthSpec) :=
  OpenClaim.holds_of_wide 3 Try.f3 rfl rfl rfl rfl rfl rfl rfl ⟨rfl, rfl, rfl, rfl, rfl⟩ rfl rfl rfl rfl rfl (by kernel_rfl) Try.func3 (by kernel_rfl)
    (of_decide_eq_true (by kernel_rfl)) (by unfold Func.isWrapper; first | (rw [if_pos (by decide +kernel)]; kernel_rfl) | (rw [if_neg (by decide +kernel)]; exact ⟨rfl, rfl⟩))
    (fun os started H enc _ => lifted os started H enc)

theorem proved : Rows.SpellWorthSaid := over
#print axioms proved
end Go.Proofs.Ytngkakglafcpiaa.spellWorth
