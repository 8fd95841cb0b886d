/- From answers as the document says, whatever numbers it is handed. Conditions: none (of more than one hundred numbers the law asks the examples alone). -/
import Derived.Test.YtomodamdlnkcmaaRows
import Derived.Test.YtomodamdlnkcmaaBase
import Derived.Test.YtomodamdlnkcmaaBookRow
import Derived.Test.YtomodamdlnkcmaaBookLeaf
import Derived.Test.YtomodamdlnkcmaaBookNum
import Derived.Test.YtomodamdlnkcmaaBookBel
import Derived.Test.YtomodamdlnkcmaaBookOrd
import Derived.Test.YtomodamdlnkcmaaBookLim
import Derived.Test.YtomodamdlnkcmaaBookLaws
import Derived.Test.YtomodamdlnkcmaaBookMayR
import Derived.Test.YtomodamdlnkcmaaBookFromC
import Derived.Test.YtomodamdlnkcmaaBookOpen
import Derived.Test.YtomodamdlnkcmaaBookAlive
import Derived.WalkKit
import Derived.WalkSmall
import Derived.WalkSpells
import Derived.ProofKit
import Derived.OpenShut
import Derived.ShutString
import Derived.ChangeOld
import Derived.Below
import Derived.Lib.Hide
import Derived.OwnWalk
import Derived.Outline
import Derived.BigQuiet
import Derived.Deep.QuietTactic
import Derived.Deep.RegionHeld3
namespace Go.Proofs.Ytomodamdlnkcmaa.bookFrom
open Go.ChangeShapes Go.WideShapes Go.ChangeAt Go.RowKit
open Go.ChangeMaps (open_string shut_string)
set_option linter.unusedVariables false

theorem own : ownKnob Try.prog.godebug = none := by kernel_rfl
theorem laidOut : laidOutB Try.prog = true := by kernel_rfl

set_option maxRecDepth 20000 in
set_option maxHeartbeats 4000000 in
open Classical in
theorem walk (w : World) (A0 : Option Addr) (n0 c0 : Nat) (r0 : n0 = 19 → ∃ b off x, A0 = some ⟨b, off, none⟩ ∧ RdI w b off x) :
    Calls Try.prog 4 #[.slice A0 n0 c0] w fun e w' => e = .returned (.bool true) ∧ Below w.heap.size w w' := by
  by_cases hlen : 100 < n0
  · have hlen' : (100 : Int) < (n0 : Int) := by omega
    clear r0
    go_enter Try.func4, Try.ntmps4
    go_wp2_with (go_at_call 13; (with_reducible refine (alive7_any _).mono ?_); rintro e w1 ⟨rfl, hb1⟩)
    go_ret
    exact ⟨rfl, hb1⟩
  have hlen' : (n0 : Int) ≤ 100 := by omega
  by_cases h19 : n0 = 19
  case neg =>
    have hn' : ((n0 : Int) == 19) = false := by simp; omega
    have C1 := fun W => from_bad A0 n0 c0 W h19
    clear r0 hlen h19
    go_enter Try.func4, Try.ntmps4
    go_wp2_with (first
      | (go_at_call 14; (with_reducible refine (C1 _).mono ?_); rintro e w1 ⟨rfl, hb1⟩)
      | refine wpList_store_new rfl 23 _ _ rfl _ (bk noV) rfl rfl (by first | rfl | (simp; done)) (by kernel_rfl) rfl (bk_one noV) ?_
      | refine wpList_load_bk (by rfl) 23 _ rfl _ _ rfl noV _ (RdI.new noV _ (by first | rfl | (simp; done))) Try.underlying23 rfl (by kernel_rfl) ?_
      | refine wpList_build_as rfl 23 _ rfl (bk noV) (by kernel_rfl) ?_
      | refine wpList_eql_bk (by rfl) rfl noV noV true rfl rfl (eqB_self _) ?_
      | (go_at_call 13; (with_reducible refine (alive7_any _).mono ?_); rintro e w2 ⟨rfl, hb2⟩))
    go_ret
    refine ⟨rfl, ?_⟩
    (repeat (first | exact Below.refl _ _ | (refine b_st ?_ (by first | (simp; done) | (simp; omega))) | (refine b_al ?_ (Nat.le_refl _) _) | refine b_dn ?_ | refine b_dr ?_ | (refine b_cl ?_ (Nat.le_refl _) (by assumption))))
  obtain ⟨b, off, x, rfl, h⟩ := r0 h19
  subst h19
  clear hlen hlen'
  have C1 := fun W (h : RdI W b off x) => from_any b off c0 x W h
  have C2 := fun W => refmay_any x W
  by_cases hm : May x
  · simp only [if_pos hm] at C1 C2
    clear hm
    go_enter Try.func4, Try.ntmps4
    go_wp2_with (first
      | (go_at_call 14; (with_reducible refine (C1 _ h).mono ?_); rintro e w1 ⟨rfl, hb1⟩; have r1 := h.below hb1; have r2 := r1.alloc (.cells (bk x) 23); have r3 := RdI.new x 23 (rfl : w1.heap.size = _))
      | refine wpList_store_new rfl 23 _ _ rfl _ (bk x) rfl rfl (by first | rfl | (simp; done)) (by kernel_rfl) rfl (bk_one x) ?_
      | (go_at_call 15; (with_reducible refine (refof_any b off _ x _ r2).mono ?_); rintro e w2 ⟨rfl, hb2⟩; have r4 := r3.below hb2; have r5 := r2.below hb2)
      | (go_at_call 6; (with_reducible refine (C2 _).mono ?_); rintro e w3 ⟨rfl, hb3⟩; have r6 := r4.below hb3; have r7 := r5.below hb3))
    refine wp_region_noPanic ?_
    refine wp_region_held_drew (S := fun w' => RdI w' w1.heap.size 0 x ∧ RdI w' b off x) (by kernel_rfl) ?_ (fun hHeld => ?_)
    · exact ⟨r6.below (b_dr (Below.refl _ _)), r7.below (b_dr (Below.refl _ _))⟩
    refine wpAnyH_take (i := 0) (oi := ⟨some 41, _, _, _, _, _⟩) (v := .agg (bk x)) rfl (by kernel_rfl) (by kernel_rfl) (by kernel_rfl) (fun _ _ _ h => h) (yieldsIf_exec (by rfl) (fun w' hSw => exec_load w1.heap.size 0 x _ w' rfl rfl (hSw.1) Try.underlying23 rfl (by kernel_rfl))) (by assumption) ?_
    (try simp only [Act.put, List.setIfInBounds_toArray, List.set_cons_zero, List.set_cons_succ])
    refine wpAnyH_take (i := 1) (oi := ⟨some 42, _, _, _, _, _⟩) (v := ?_) rfl (by kernel_rfl) (by kernel_rfl) (by kernel_rfl) (fun _ _ _ h => h) (yieldsIf_exec (by rfl) ?_) (by assumption) ?_
    rotate_left
    · (intro w' hSw; clear hSw; go_simp; try (with_reducible rfl))
    (try simp only [Act.put, List.setIfInBounds_toArray, List.set_cons_zero, List.set_cons_succ])
    refine wpAnyH_ready (rs := [2]) (by kernel_rfl) (by simp) ?_
    refine AllReadyH.cons (o := ⟨some 43, _, _, _, _, _⟩) rfl (fun K hK => ?_) AllReadyH.nil
    go_simp
    (go_at_call 15; (with_reducible refine (refof_any b off _ x _ hHeld.2).mono ?_); rintro e w5 ⟨rfl, hb5⟩)
    go_wp2_with fail
    refine hK.out _ _ (⟨hHeld.1.below hb5, hHeld.2.below hb5⟩) (fun hHeld => ?_)
    clear hK K
    (try simp only [Act.put, List.setIfInBounds_toArray, List.set_cons_zero, List.set_cons_succ])
    refine wpAnyH_take (i := 3) (oi := ⟨some 44, _, _, _, _, _⟩) (v := .bool true) rfl (by kernel_rfl) (by kernel_rfl) (by kernel_rfl) (fun _ _ _ h => h) (yieldsIf_exec (by rfl) (fun w' hSw => (by rw [← eqB_self x]; exact exec_eql x x w' rfl rfl rfl))) (by assumption) ?_
    (try simp only [Act.put, List.setIfInBounds_toArray, List.set_cons_zero, List.set_cons_succ])
    refine wpAnyH_take (i := 4) (oi := ⟨some 45, _, _, _, _, _⟩) (v := ?_) rfl (by kernel_rfl) (by kernel_rfl) (by kernel_rfl) (fun _ _ _ h => h) (yieldsIf_exec (by rfl) ?_) (by assumption) ?_
    rotate_left
    · (intro w' hSw; clear hSw; go_simp; try (with_reducible rfl))
    (try simp only [Act.put, List.setIfInBounds_toArray, List.set_cons_zero, List.set_cons_succ])
    refine wpAnyH_take (i := 5) (oi := ⟨some 46, _, _, _, _, _⟩) (v := ?_) rfl (by kernel_rfl) (by kernel_rfl) (by kernel_rfl) (fun _ _ _ h => h) (yieldsIf_exec (by rfl) ?_) (by assumption) ?_
    rotate_left
    · (intro w' hSw; clear hSw; go_simp; try (with_reducible rfl))
    (try simp only [Act.put, List.setIfInBounds_toArray, List.set_cons_zero, List.set_cons_succ])
    refine wpAnyH_take (i := 6) (oi := ⟨some 47, _, _, _, _, _⟩) (v := ?_) rfl (by kernel_rfl) (by kernel_rfl) (by kernel_rfl) (fun _ _ _ h => h) (yieldsIf_exec (by rfl) ?_) (by assumption) ?_
    rotate_left
    · (intro w' hSw; clear hSw; go_simp; try (with_reducible rfl))
    (try simp only [Act.put, List.setIfInBounds_toArray, List.set_cons_zero, List.set_cons_succ])
    refine wpAnyH_take (i := 7) (oi := ⟨some 48, _, _, _, _, _⟩) (v := ?_) rfl (by kernel_rfl) (by kernel_rfl) (by kernel_rfl) (fun _ _ _ h => h) (yieldsIf_exec (by rfl) ?_) (by assumption) ?_
    rotate_left
    · (intro w' hSw; clear hSw; go_simp; try (with_reducible rfl))
    (try simp only [Act.put, List.setIfInBounds_toArray, List.set_cons_zero, List.set_cons_succ])
    refine wpAnyH_take (i := 8) (oi := ⟨some 49, _, _, _, _, _⟩) (v := ?_) rfl (by kernel_rfl) (by kernel_rfl) (by kernel_rfl) (fun _ _ _ h => h) (yieldsIf_exec (by rfl) ?_) (by assumption) ?_
    rotate_left
    · (intro w' hSw; clear hSw; go_simp; try (with_reducible rfl))
    (try simp only [Act.put, List.setIfInBounds_toArray, List.set_cons_zero, List.set_cons_succ])
    refine wpAnyH_ready (rs := [9]) (by kernel_rfl) (by simp) ?_
    refine AllReadyH.cons (o := ⟨some 50, _, _, _, _, _⟩) rfl (fun K hK => ?_) AllReadyH.nil
    go_simp
    (go_at_call 13; (with_reducible refine (alive7_any _).mono ?_); rintro e w6 ⟨rfl, hb6⟩)
    go_wp2_with fail
    refine hK.out _ _ (⟨hHeld.1.below hb6, hHeld.2.below hb6⟩) (fun hHeld => ?_)
    clear hK K
    (try simp only [Act.put, List.setIfInBounds_toArray, List.set_cons_zero, List.set_cons_succ])
    refine wpAnyH_take (i := 10) (oi := ⟨some 51, _, _, _, _, _⟩) (v := ?_) rfl (by kernel_rfl) (by kernel_rfl) (by kernel_rfl) (fun _ _ _ h => h) (yieldsIf_exec (by rfl) ?_) (by assumption) ?_
    rotate_left
    · (intro w' hSw; clear hSw; go_simp; try (with_reducible rfl))
    (try simp only [Act.put, List.setIfInBounds_toArray, List.set_cons_zero, List.set_cons_succ])
    refine wpAnyH_take (i := 11) (oi := ⟨some 2, _, _, _, _, _⟩) (v := ?_) rfl (by kernel_rfl) (by kernel_rfl) (by kernel_rfl) (fun _ _ _ h => h) (yieldsIf_exec (by rfl) ?_) (by assumption) ?_
    rotate_left
    · (intro w' hSw; clear hSw; go_simp; try (with_reducible rfl))
    (try simp only [Act.put, List.setIfInBounds_toArray, List.set_cons_zero, List.set_cons_succ])
    refine wpAnyH_done (by kernel_rfl) ?_ _
    refine NoPanic.normal ?_
    go_wp2
    go_ret
    refine ⟨rfl, ?_⟩
    refine b_cl ?_ (Nat.le_refl _) hb6
    refine b_cl ?_ (Nat.le_refl _) hb5
    (repeat (first | exact Below.refl _ _ | (refine b_st ?_ (by first | (simp; done) | (simp; omega))) | (refine b_al ?_ (Nat.le_refl _) _) | refine b_dn ?_ | refine b_dr ?_ | (refine b_cl ?_ (Nat.le_refl _) (by assumption))))
  · simp only [if_neg hm] at C1 C2
    clear hm
    go_enter Try.func4, Try.ntmps4
    go_wp2_with (first
      | (go_at_call 14; (with_reducible refine (C1 _ h).mono ?_); rintro e w1 ⟨rfl, hb1⟩; have r1 := h.below hb1; have r2 := r1.alloc (.cells (bk noV) 23); have r3 := RdI.new noV 23 (rfl : w1.heap.size = _))
      | refine wpList_store_new rfl 23 _ _ rfl _ (bk noV) rfl rfl (by first | rfl | (simp; done)) (by kernel_rfl) rfl (bk_one noV) ?_
      | (go_at_call 15; (with_reducible refine (refof_any b off _ x _ r2).mono ?_); rintro e w2 ⟨rfl, hb2⟩; have r4 := r3.below hb2; have r5 := r2.below hb2)
      | (go_at_call 6; (with_reducible refine (C2 _).mono ?_); rintro e w3 ⟨rfl, hb3⟩; have r6 := r4.below hb3; have r7 := r5.below hb3)
      | refine wpList_load_bk (by rfl) 23 _ rfl _ _ rfl noV _ (r6) Try.underlying23 rfl (by kernel_rfl) ?_
      | refine wpList_build_as rfl 23 _ rfl (bk noV) (by kernel_rfl) ?_
      | refine wpList_eql_bk (by rfl) rfl noV noV true rfl rfl (eqB_self _) ?_
      | (go_at_call 13; (with_reducible refine (alive7_any _).mono ?_); rintro e w5 ⟨rfl, hb5⟩))
    go_ret
    refine ⟨rfl, ?_⟩
    (repeat (first | exact Below.refl _ _ | (refine b_st ?_ (by first | (simp; done) | (simp; omega))) | (refine b_al ?_ (Nat.le_refl _) _) | refine b_dn ?_ | refine b_dr ?_ | (refine b_cl ?_ (Nat.le_refl _) (by assumption))))

set_option maxRecDepth 100000 in
theorem lifted (os : Os) (started : os.Started) (H : Type) (enc : TypeId × Value → H) :
    ReturnsInHanded {} Try.checked os 4 .any (Rows.bookFromSpec.pre6 enc Try.prog Try.f4 Rows.bookFromRow.domain false) (Rows.bookFromSpec.post enc Try.prog Try.f4 false true false false) := by
  refine returnsInHanded_of_change (C := Try.checked) own started (by kernel_rfl) Try.func4
    (ChangeSpec.witness6 (enc := enc) (C := Try.checked) false ⟨#[], #[.slice none 0 0], []⟩ 8 (by kernel_rfl) (by kernel_rfl) (by kernel_rfl) (by kernel_rfl)) ?_
  intro W base args ds gs before hval0 hW hcnd _
  have hval : ∀ (j : Nat) t v, Try.f4.params[j]? = some t → args[j]? = some v → Value.okWide Try.prog W .any base t v := hval0
  have hW' := hW
  obtain ⟨p, q, hA0, hV, rfl, hfz, hnd⟩ := hW
  have hA : DataW.TrodAll enc Try.prog W 0 (fun _ => true) true Try.f4.params.toList args.toList ds p := hA0
  rw [Try.params4] at hA hval
  obtain ⟨v0, vs0, d0, ds0, p0, q0, hargs, rfl, rfl, h0, r0⟩ := trodAll_cons hA
  obtain ⟨rfl, rfl, rfl⟩ := trodAll_nil r0
  obtain rfl : args = #[v0] := by cases args; simp_all
  obtain ⟨rfl, rfl⟩ := trodVars_none hV
  have k0 := h0
  have lt0 : ∀ x ∈ p0, x.block < W.heap.size := by obtain ⟨m, hm⟩ := k0; exact DataW.trod_lt m _ _ _ hm
  obtain ⟨A0, n0, c0, rfl, rd0⟩ := open_ints7 (hval 0 28 v0 rfl rfl) h0
  clear hA0 hval0
  refine (walk W A0 n0 c0 rd0).mono fun e W' ⟨he, bel⟩ => ?_
  subst he
  exact ⟨_, rfl, _, _, _, [], _, [], hW', trodAll_mk1 (shut_bool Try.underlying4 _), (trodAll_cons_mk (Below.trod laidOut (by kernel_rfl) (of_decide_eq_true (by kernel_rfl)) k0 bel lt0) trodAll_mk0), rfl, bel.frame _, fun h => by cases h⟩

theorem over : Rows.bookFromRow.holds Try.pinned (OpenSpec.ofChange Rows.bookFromSpec) :=
  OpenClaim.holds_of_wide 4 Try.f4 rfl rfl rfl rfl rfl rfl rfl ⟨rfl, rfl, rfl, rfl, rfl⟩ rfl rfl rfl rfl rfl (by kernel_rfl) Try.func4 (by kernel_rfl)
    (of_decide_eq_true (by kernel_rfl)) (by unfold Func.isWrapper; first | (rw [if_pos (by decide +kernel)]; kernel_rfl) | (rw [if_neg (by decide +kernel)]; exact ⟨rfl, rfl⟩))
    (fun os started H enc _ => lifted os started H enc)

theorem proved : Rows.BookFromSaid := over
#print axioms proved
end Go.Proofs.Ytomodamdlnkcmaa.bookFrom
