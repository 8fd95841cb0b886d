/- Name and Parse answer as the document says, and a name is parsed as its minute. Conditions: none (of a text of more than forty bytes the law asks the example alone; the listed tables read as the program lays them, which the card ties to its text). -/
import Derived.Test.YtbldkhlkejoklaaDoorRows
import Derived.Test.YtbldkhlkejoklaaDoorTie
import Derived.Test.YtbldkhlkejoklaaDoorCards
import Derived.Test.YtbldkhlkejoklaaDoorMath
import Derived.Test.YtbldkhlkejoklaaDoorBase
import Derived.Test.YtbldkhlkejoklaaDoorWeekName2
import Derived.Test.YtbldkhlkejoklaaDoorWeekLaid
import Derived.Test.YtbldkhlkejoklaaDoorWeekParse2
import Derived.Test.YtbldkhlkejoklaaDoorWeekRef4
import Derived.WalkKit
import Derived.WalkSmall
import Derived.WalkSpells
import Derived.ProofKit
import Derived.OpenShut
import Derived.ShutString
import Derived.ChangeOld
import Derived.Below
import Derived.Lib.Hide
import Derived.OwnWalk
import Derived.LaidMore
import Derived.Stop.Joined
import Derived.SevenTiedAt
namespace Go.Proofs.YtbldkhlkejoklaaDoor.weekNames
open Go.ChangeShapes Go.WideShapes Go.ChangeAt Go.RowKit
open Go.ChangeMaps (open_string shut_string)
set_option linter.unusedVariables false

theorem own : ownKnob Tryd.prog.godebug = none := by kernel_rfl
theorem laidOut : laidOutB Tryd.prog = true := by kernel_rfl
/-- The heap that the door's own run leaves meets the condition. -/
theorem door_met (os : Os) (args : Array Value) : laidMetH Tryd.prog Rows.weekNamesRow.laid ((World.doorLaid Tryd.prog 400 os).forCall (fun _ _ => 0) ⟨#[], args, []⟩).memory :=
  laidMetH_of_parts3 (fuel := 8) (laidMet_of_run' 8 (by kernel_rfl) (by kernel_rfl)) (by kernel_rfl) (by kernel_rfl)

theorem walk (w : World) (hd : Days w) (a0 : Int) (w0 : (Lit.int .i64 a0).wf = true) (s1 : ByteArray) (w1 : s1.size ≤ maxLen) :
    Calls Tryd.prog 5 #[.int .i64 a0, .string s1] w fun e w' => e = .returned (.bool true) ∧ Below w.heap.size w w' := by
  have wm := wf_bd w0
  by_cases hl : 40 < s1.size
  · have hl' : (40 : Int) < (s1.size : Int) := by omega
    clear w0 w1 wm
    go_enter Tryd.func5, Tryd.ntmps5
    go_wp2_with (go_at_call 10; refine (alive4_any _ hd).mono ?_; rintro e w5 ⟨rfl, hb5⟩)
    go_ret
    exact ⟨rfl, hb5⟩
  · have hl' : (s1.size : Int) ≤ 40 := by omega
    have C3 := fun W h => parse_any s1 W h
    have C4 := fun W => refparse_any s1 W
    generalize (parseV s1).1 = x at C3 C4
    generalize (parseV s1).2 = g at C3 C4
    by_cases hr : 0 ≤ a0 ∧ a0 ≤ 40320
    · have C1 := fun W h => name_any a0 W h
      have C2 := fun W => refname_any a0 W
      have C5 := fun W h => parse_any (nameB a0) W h
      rw [(nm_in hr.1 hr.2).1, (nm_in hr.1 hr.2).2] at C1 C2
      rw [parse_yes hr.1 hr.2 rfl] at C5
      generalize nameB a0 = nb at C1 C2 C5
      clear w0 w1 wm hl hr
      go_enter Tryd.func5, Tryd.ntmps5
      go_wp2_with (first
        | (go_at_call 14; (with_reducible refine (C1 _ hd).mono ?_); rintro e w1 ⟨rfl, hb1⟩; have hd1 := hd.below hb1)
        | (go_at_call 15; (with_reducible refine (C2 _).mono ?_); rintro e w2 ⟨rfl, hb2⟩; have hd2 := hd1.below hb2)
        | (go_at_call 16; (with_reducible refine (C3 _ hd2).mono ?_); rintro e w3 ⟨rfl, hb3⟩; have hd3 := hd2.below hb3)
        | (go_at_call 17; (with_reducible refine (C4 _).mono ?_); rintro e w4 ⟨rfl, hb4⟩; have hd4 := hd3.below hb4)
        | (go_at_call 16; (with_reducible refine (C5 _ hd4).mono ?_); rintro e w5 ⟨rfl, hb5⟩; have hd5 := hd4.below hb5)
        | (go_at_call 10; refine (alive4_any _ hd5).mono ?_; rintro e w6 ⟨rfl, hb6⟩))
      go_ret
      exact ⟨rfl, b_cl (b_cl (b_cl (b_cl (b_cl hb1 (Nat.le_refl _) hb2) (Nat.le_refl _) hb3) (Nat.le_refl _) hb4) (Nat.le_refl _) hb5) (Nat.le_refl _) hb6⟩
    · have C1 := fun W h => name_any a0 W h
      have C2 := fun W => refname_any a0 W
      rw [(nm_out hr).1, (nm_out hr).2] at C1 C2
      clear w0 w1 wm hl hr
      go_enter Tryd.func5, Tryd.ntmps5
      go_wp2_with (first
        | (go_at_call 14; (with_reducible refine (C1 _ hd).mono ?_); rintro e w1 ⟨rfl, hb1⟩; have hd1 := hd.below hb1)
        | (go_at_call 15; (with_reducible refine (C2 _).mono ?_); rintro e w2 ⟨rfl, hb2⟩; have hd2 := hd1.below hb2)
        | (go_at_call 16; (with_reducible refine (C3 _ hd2).mono ?_); rintro e w3 ⟨rfl, hb3⟩; have hd3 := hd2.below hb3)
        | (go_at_call 17; (with_reducible refine (C4 _).mono ?_); rintro e w4 ⟨rfl, hb4⟩; have hd4 := hd3.below hb4)
        | (go_at_call 10; refine (alive4_any _ hd4).mono ?_; rintro e w5 ⟨rfl, hb5⟩))
      go_ret
      exact ⟨rfl, b_cl (b_cl (b_cl (b_cl hb1 (Nat.le_refl _) hb2) (Nat.le_refl _) hb3) (Nat.le_refl _) hb4) (Nat.le_refl _) hb5⟩

set_option maxRecDepth 100000 in
theorem lifted (os : Os) (started : os.Started) (H : Type) (enc : TypeId × Value → H) :
    ReturnsInHanded {} Tryd.checked os 5 .any (fun w args => (Rows.weekNamesSpec.pre enc Tryd.prog Tryd.f5 [] false w args ∧ laidMetH Tryd.prog Rows.weekNamesRow.laid w) ∧ sizedMet enc Tryd.prog Tryd.f5 (OpenSpec.ofChange Rows.weekNamesSpec) false w args)
      (Rows.weekNamesSpec.post enc Tryd.prog Tryd.f5 false true false false) := by
  refine returnsInHanded_of_change_and (C := Tryd.checked) (X := fun w _ => laidMetH Tryd.prog Rows.weekNamesRow.laid w) (fun _ _ _ hh h => h.of_heap hh) own started (by kernel_rfl) Tryd.func5
    (ChangeSpec.witness_shaped (enc := enc) (C := Tryd.checked) (os := os) (X := fun w _ => laidMetH Tryd.prog Rows.weekNamesRow.laid w) false (World.doorLaid Tryd.prog 400 os) #[.int .i64 0, .string ⟨#[]⟩] 8 rfl (World.shaped_of_RefB (by kernel_rfl) (by kernel_rfl)) (by kernel_rfl) (by kernel_rfl) (by kernel_rfl) (door_met os _)) ?_
  intro W base args ds gs before hval0 hW _ _ hL _
  have hval : ∀ (j : Nat) t v, Tryd.f5.params[j]? = some t → args[j]? = some v → Value.okWide Tryd.prog W .any base t v := hval0
  have hW' := hW
  obtain ⟨p, q, hA0, hV, rfl, hfz, hnd⟩ := hW
  have hA : DataW.TrodAll enc Tryd.prog W 0 (fun _ => true) true Tryd.f5.params.toList args.toList ds p := hA0
  rw [Tryd.params5] at hA hval
  obtain ⟨v0, vs0, d0, ds0, p0, q0, hargs, rfl, rfl, h0, r0⟩ := trodAll_cons hA
  obtain ⟨v1, vs1, d1, ds1, p1, q1, rfl, rfl, rfl, h1, r1⟩ := trodAll_cons r0
  obtain ⟨rfl, rfl, rfl⟩ := trodAll_nil r1
  obtain rfl : args = #[v0, v1] := by cases args; simp_all
  obtain ⟨rfl, rfl⟩ := trodVars_none hV
  obtain ⟨a0, rfl, rfl, rfl, w0⟩ := open_int Tryd.underlying3 (hval 0 3 v0 rfl rfl) h0
  obtain ⟨s1, rfl, rfl, rfl, w1⟩ := open_string Tryd.underlying9 (hval 1 9 v1 rfl rfl) h1
  clear hA0 hval0
  simp only [List.append_nil] at hW'
  refine (walk W (days_of_laid hL (by kernel_rfl) (by simp [Rows.weekNamesRow])) a0 w0 s1 w1).mono fun e W' ⟨he, bel⟩ => ?_
  subst he
  exact ⟨_, rfl, _, _, _, [], [], [], hW', trodAll_mk1 (shut_bool Tryd.underlying4 _), (trodAll_cons_mk (shut_int Tryd.underlying3 w0) (trodAll_cons_mk (shut_string Tryd.underlying9 w1) trodAll_mk0)), rfl, bel.frame _, fun h => by cases h⟩

theorem over : Rows.WeekNamesSaid :=
  OpenClaim.holds_of_wide 5 Tryd.f5 rfl rfl rfl rfl rfl rfl rfl ⟨rfl, rfl, rfl, rfl, rfl⟩ rfl rfl rfl rfl rfl (by kernel_rfl) Tryd.func5 (by kernel_rfl)
    (of_decide_eq_true (by kernel_rfl)) (by unfold Func.isWrapper; first | (rw [if_pos (by decide +kernel)]; kernel_rfl) | (rw [if_neg (by decide +kernel)]; exact ⟨rfl, rfl⟩))
    (fun os started H enc _ => lifted os started H enc)

theorem proved : Rows.WeekNamesCardSaid :=
  Claim7.holds_tied_plain_at .later [] _ true _ _ over (fun _ h => by cases h) (by kernel_rfl) (fun _ h => by cases h) weekNames_row_tie rfl ⟨rfl, rfl⟩ (by kernel_rfl) rfl
    (fun f fn hf hfn => by
      obtain rfl : f = 5 := Option.some.inj ((show Tryd.prog.funcNamed "haulier/haulierlaw04.WeekNames" = some 5 by kernel_rfl).symm.trans hf) |>.symm
      obtain rfl : fn = Tryd.f5 := (Option.some.inj (Tryd.func5.symm.trans hfn)).symm
      exact ⟨by kernel_rfl, fun j t ht => by
        rw [Tryd.params5] at ht
        have hm : t ∈ [3, 9] := by simpa using Array.mem_of_getElem? ht
        have hall : ([3, 9].all fun u => !Tryd.prog.wantsStandIn u) = true := by kernel_rfl
        exact (show Tryd.prog.wantsStandIn t = false by simpa using List.all_eq_true.1 hall t hm)⟩)
    (by kernel_rfl)
#print axioms proved
end Go.Proofs.YtbldkhlkejoklaaDoor.weekNames
