/- ClauseSorts of layer 15 answers true at every input: any findings, sorted, are as the document says, and sorted again they are the same. Conditions: none beyond the row's own. -/
import Derived.Test.YtdepglceffpfhaaDoorRows
import Derived.Test.YtdepglceffpfhaaDoorTie
import Derived.Test.YtdepglceffpfhaaDoorCards
import Derived.Test.YtdepglceffpfhaaDoorWordRow
import Derived.Test.YtdepglceffpfhaaDoorClauseRow
import Derived.Test.YtdepglceffpfhaaDoorClauseAlive
import Derived.Test.YtdepglceffpfhaaDoorSortC
import Derived.Test.YtdepglceffpfhaaDoorSortR
import Derived.Test.YtdepglceffpfhaaDoorFindSame
import Derived.Test.YtdepglceffpfhaaDoorFindArg
import Derived.WalkKit
import Derived.WalkSmall
import Derived.WalkSpells
import Derived.ProofKit
import Derived.OpenShut
import Derived.ShutString
import Derived.ChangeOld
import Derived.Below
import Derived.Lib.Hide
import Derived.OwnWalk
import Derived.BigQuiet
import Derived.LaidMore
import Derived.Stop.Joined
import Derived.SevenTiedAt
namespace Go.Proofs.YtdepglceffpfhaaDoor.clauseSorts
open Go.ChangeShapes Go.WideShapes Go.ChangeAt Go.RowKit
open Go.ChangeMaps (open_string shut_string)
set_option linter.unusedVariables false

theorem own : ownKnob Tryd.prog.godebug = none := by kernel_rfl
theorem laidOut : laidOutB Tryd.prog = true := by kernel_rfl
/-- The heap that the door's own run leaves meets the condition. -/
theorem door_met (os : Os) (args : Array Value) : laidMetH Tryd.prog Rows.clauseSortsRow.laid ((World.doorLaid Tryd.prog 400 os).forCall (fun _ _ => 0) ⟨#[], args, []⟩).memory :=
  laidMetH_of_parts3 (fuel := 8) (laidMet_of_run' 8 (by kernel_rfl) (by kernel_rfl)) (by kernel_rfl) (by kernel_rfl)

theorem walk (w : World) (hl : Laid15 w) (A0 : Option Addr) (c0 : Nat) (l0 : List Rc) (r0 : RdF w A0 l0) (z0 : A0 = none → c0 = 0) :
    Calls Tryd.prog 4 #[.slice A0 l0.length c0] w fun e w' => e = .returned (.bool true) ∧ Below w.heap.size w w' := by
  have HL := Lib.hid hl
  by_cases hz : 60 < l0.length
  · have hz1 : (60 : Int) < (l0.length : Int) := by omega
    clear hl r0 z0
    go_enter Tryd.func4, Tryd.ntmps4
    go_wp2_with (go_at_call 6; (with_reducible refine (alive15_any _ (HL.out.below (by (repeat (first | assumption | exact Below.refl _ _ | (refine b_al ?_ (Nat.le_refl _) _) | refine b_dn ?_ | refine b_dr ?_ | (refine b_cl ?_ (Nat.le_refl _) (by assumption))))))).mono ?_); rintro e wz ⟨rfl, hbz⟩)
    go_ret
    exact ⟨rfl, hbz⟩
  · obtain ⟨n, hn⟩ : ∃ n, l0.length = n := ⟨_, rfl⟩
    have HN := Lib.hid hn
    rw [hn] at hz ⊢
    have hz1 : ¬ (60 : Int) < (n : Int) := by omega
    have HR := Lib.hid r0
    have HZ := Lib.hid z0
    clear hl r0 z0 hn
    go_enter Tryd.func4, Tryd.ntmps4
    go_wp2_with (first
      | (go_at_call 17; (with_reducible refine (sort15_any A0 c0 n l0 _ HN.out HR.out HZ.out (by omega)).mono ?_); rintro e w1 ⟨A1, m1, c1, r1, rfl, hm1, hs1, hr1, hz1', hb1⟩; have HM1 := Lib.hid hm1; have HS1 := Lib.hid hs1; have HR1 := Lib.hid hr1; have HZ1 := Lib.hid hz1'; clear hm1 hs1 hr1 hz1'; have hle : m1 ≤ n := (by rw [← HM1.out, ← HN.out]; exact nodup_len (pair_nodup HS1.out.1) (fun x hx => (HS1.out.2 x).1 hx)))
      | (go_at_call 19; (with_reducible refine (refsort15_any A0 c0 n l0 _ HN.out (HR.out.below hb1) (by omega)).mono ?_); rintro e w2 ⟨v2, r2, rfl, ho2, hs2, hb2⟩; obtain rfl := setF_unique hs2 HS1.out; obtain ⟨A2, c2, rfl, hr2, _⟩ := ho2.read; have HR2 := Lib.hid hr2; have HR12 := Lib.hid (HR1.out.below hb2); clear ho2 hs2 hr2; rw [HM1.out])
      | (go_at_call 18; (with_reducible refine (sameF_any A1 A2 c1 c2 _ _ r2 r2 _ HM1 HM1 HR12.out HR2.out (by omega)).mono ?_); rintro e w3 ⟨rfl, hb3⟩; rw [decide_eq_true (rfl : r2 = r2)]; have HR13 := Lib.hid (HR12.out.below hb3))
      | (go_at_call 17; (with_reducible refine (sort15_any A1 c1 m1 r2 _ HM1.out HR13.out HZ1.out (by omega)).mono ?_); rintro e w4 ⟨A4, m4, c4, r4, rfl, hm4, hs4, hr4, _, hb4⟩; obtain rfl := setF_again HS1.out hs4; have HM4 := Lib.hid hm4; have HR4 := Lib.hid hr4; have HR14 := Lib.hid (HR13.out.below hb4); clear hm4 hs4 hr4)
      | (go_at_call 18; (with_reducible refine (sameF_any A4 A1 c4 c1 _ _ r4 r4 _ HM4 HM1 HR4.out HR14.out (by have := HM4.out; have := HM1.out; omega)).mono ?_); rintro e w5 ⟨rfl, hb5⟩; rw [decide_eq_true (rfl : r4 = r4)])
      | (go_at_call 6; (with_reducible refine (alive15_any _ (HL.out.below (by (repeat (first | assumption | exact Below.refl _ _ | (refine b_al ?_ (Nat.le_refl _) _) | refine b_dn ?_ | refine b_dr ?_ | (refine b_cl ?_ (Nat.le_refl _) (by assumption))))))).mono ?_); rintro e wz ⟨rfl, hbz⟩))
    go_ret
    refine ⟨rfl, ?_⟩
    (repeat (first | assumption | exact Below.refl _ _ | (refine b_st ?_ (by first | (simp; done) | (simp; omega))) | (refine b_al ?_ (Nat.le_refl _) _) | refine b_dn ?_ | refine b_dr ?_ | (refine b_cl ?_ (Nat.le_refl _) (by assumption))))

set_option maxRecDepth 100000 in
theorem lifted (os : Os) (started : os.Started) (H : Type) (enc : TypeId × Value → H) :
    ReturnsInHanded {} Tryd.checked os 4 .any (fun w args => (Rows.clauseSortsSpec.pre enc Tryd.prog Tryd.f4 [] false w args ∧ laidMetH Tryd.prog Rows.clauseSortsRow.laid w) ∧ sizedMet enc Tryd.prog Tryd.f4 (OpenSpec.ofChange Rows.clauseSortsSpec) false w args)
      (Rows.clauseSortsSpec.post enc Tryd.prog Tryd.f4 false true false false) := by
  refine returns_laid (C := Tryd.checked) (X := fun w _ => laidMetH Tryd.prog Rows.clauseSortsRow.laid w) (fun _ _ _ hh h => h.of_heap hh) own started (by kernel_rfl) Tryd.func4
    (ChangeSpec.witness_shaped (enc := enc) (C := Tryd.checked) (os := os) (X := fun w _ => laidMetH Tryd.prog Rows.clauseSortsRow.laid w) false (World.doorLaid Tryd.prog 400 os) #[.slice none 0 0] 8 rfl (World.shaped_of_RefB (by kernel_rfl) (by kernel_rfl)) (by kernel_rfl) (by kernel_rfl) (by kernel_rfl) (door_met os _)) ?_
  intro W base args ds gs before hsh hval0 hW hL
  have hval : ∀ (j : Nat) t v, Tryd.f4.params[j]? = some t → args[j]? = some v → Value.okWide Tryd.prog W .any base t v := hval0
  have hW' := hW
  obtain ⟨p, q, hA0, hV, rfl, hfz, hnd⟩ := hW
  have hA : DataW.TrodAll enc Tryd.prog W 0 (fun _ => true) true Tryd.f4.params.toList args.toList ds p := hA0
  rw [Tryd.params4] at hA hval
  obtain ⟨v0, vs0, d0, ds0, p0, q0, hargs, rfl, rfl, h0, r0⟩ := trodAll_cons hA
  obtain ⟨rfl, rfl, rfl⟩ := trodAll_nil r0
  obtain rfl : args = #[v0] := by cases args; simp_all
  obtain ⟨rfl, rfl⟩ := trodVars_none hV
  have k0 := h0
  have lt0 : ∀ x ∈ p0, x.block < W.heap.size := by obtain ⟨m, hm⟩ := k0; exact DataW.trod_lt m _ _ _ hm
  obtain ⟨A0, n0, c0, l0, rfl, rfl, rd0, zz0⟩ := open_finds (hval 0 35 v0 rfl rfl) h0
  clear hA0 hval0
  simp only [List.append_nil] at hW'
  refine (walk W (laid15_of hL (by kernel_rfl) (by simp [Rows.clauseSortsRow]) (by simp [Rows.clauseSortsRow])) A0 c0 l0 rd0 zz0).mono fun e W' ⟨he, bel⟩ => ?_
  subst he
  exact ⟨_, rfl, _, _, _, [], _, [], hW', trodAll_mk1 (shut_bool Tryd.underlying4 _), (trodAll_cons_mk (Below.trod laidOut (by kernel_rfl) (of_decide_eq_true (by kernel_rfl)) k0 bel lt0) trodAll_mk0), rfl, bel.frame _, fun h => by cases h⟩

theorem over : Rows.ClauseSortsSaid :=
  OpenClaim.holds_of_wide 4 Tryd.f4 rfl rfl rfl rfl rfl rfl rfl ⟨rfl, rfl, rfl, rfl, rfl⟩ rfl rfl rfl rfl rfl (by kernel_rfl) Tryd.func4 (by kernel_rfl)
    (of_decide_eq_true (by kernel_rfl)) (by unfold Func.isWrapper; first | (rw [if_pos (by decide +kernel)]; kernel_rfl) | (rw [if_neg (by decide +kernel)]; exact ⟨rfl, rfl⟩))
    (fun os started H enc _ => lifted os started H enc)

theorem proved : Rows.ClauseSortsCardSaid :=
  Claim7.holds_tied_plain_at .later [] _ true _ _ over (fun _ h => by cases h) (by kernel_rfl) (fun _ h => by cases h) clauseSorts_row_tie rfl ⟨rfl, rfl⟩ (by kernel_rfl) rfl
    (fun f fn hf hfn => by
      obtain rfl : f = 4 := Option.some.inj ((show Tryd.prog.funcNamed "haulier/haulierlaw15.ClauseSorts" = some 4 by kernel_rfl).symm.trans hf) |>.symm
      obtain rfl : fn = Tryd.f4 := (Option.some.inj (Tryd.func4.symm.trans hfn)).symm
      exact ⟨by kernel_rfl, fun j t ht => by
        rw [Tryd.params4] at ht
        have hm : t ∈ [35] := by simpa using Array.mem_of_getElem? ht
        have hall : ([35].all fun u => !Tryd.prog.wantsStandIn u) = true := by kernel_rfl
        exact (show Tryd.prog.wantsStandIn t = false by simpa using List.all_eq_true.1 hall t hm)⟩)
    (by kernel_rfl)
#print axioms proved
end Go.Proofs.YtdepglceffpfhaaDoor.clauseSorts
