/- Cut answers as the document says; each piece lies in one week, and each begins where the one ahead ends. Conditions: none (the listed tables read as the program lays them, which the card ties to its text). -/
import Derived.Test.YtbldkhlkejoklaaDoorRows
import Derived.Test.YtbldkhlkejoklaaDoorTie
import Derived.Test.YtbldkhlkejoklaaDoorCards
import Derived.Test.YtbldkhlkejoklaaDoorMath
import Derived.Test.YtbldkhlkejoklaaDoorBase
import Derived.Test.YtbldkhlkejoklaaDoorSpan
import Derived.Test.YtbldkhlkejoklaaDoorIvalsWords
import Derived.Test.YtbldkhlkejoklaaDoorIvalsOwn
import Derived.Test.YtbldkhlkejoklaaDoorIvalsSame
import Derived.Test.YtbldkhlkejoklaaDoorWeekOfC
import Derived.Test.YtbldkhlkejoklaaDoorWeekName2
import Derived.Test.YtbldkhlkejoklaaDoorWeekLaid
import Derived.Test.YtbldkhlkejoklaaDoorWeekParse
import Derived.Test.YtbldkhlkejoklaaDoorWeekCutC
import Derived.Test.YtbldkhlkejoklaaDoorWeekCutR
import Derived.WalkKit
import Derived.WalkSmall
import Derived.WalkSpells
import Derived.ProofKit
import Derived.OpenShut
import Derived.ShutString
import Derived.ChangeOld
import Derived.Below
import Derived.Lib.Hide
import Derived.OwnWalk
import Derived.LaidMore
import Derived.Stop.Joined
import Derived.SevenTiedAt
import Derived.BigQuiet
import Derived.Deep.QuietTactic
import Derived.Outline
namespace Go.Proofs.YtbldkhlkejoklaaDoor.weekCuts
open Go.ChangeShapes Go.WideShapes Go.ChangeAt Go.RowKit
open Go.ChangeMaps (open_string shut_string)
set_option linter.unusedVariables false

theorem own : ownKnob Tryd.prog.godebug = none := by kernel_rfl
theorem laidOut : laidOutB Tryd.prog = true := by kernel_rfl
/-- The heap that the door's own run leaves meets the condition. -/
theorem door_met (os : Os) (args : Array Value) : laidMetH Tryd.prog Rows.weekCutsRow.laid ((World.doorLaid Tryd.prog 400 os).forCall (fun _ _ => 0) ⟨#[], args, []⟩).memory :=
  laidMetH_of_parts3 (fuel := 8) (laidMet_of_run' 8 (by kernel_rfl) (by kernel_rfl)) (by kernel_rfl) (by kernel_rfl)

theorem same_nil (w : World) : Calls Tryd.prog 13 #[.slice none 0 0, .slice none 0 0] w fun e w' => e = .returned (.bool true) ∧ Below w.heap.size w w' :=
  same_any none none 0 0 [] [] w (RdS.nil _ _) (RdS.nil _ _) (by simp)

theorem same_yes (A B : Option Addr) (c d : Nat) (l : List Sp) (n : Nat) (w : World) (hn : l.length = n) (ha : RdS w A l) (hb : RdS w B l) (hl : n ≤ 40320) :
    Calls Tryd.prog 13 #[.slice A n c, .slice B n d] w fun e w' => e = .returned (.bool true) ∧ Below w.heap.size w w' := by
  subst hn
  have h := same_any A B c d l l w ha hb (by omega)
  rwa [decide_eq_true rfl] at h

set_option maxHeartbeats 1000000 in
theorem none (a b l e : Int) (w : World) (hd : Days w)
    (C1 : ∀ W, Calls Tryd.prog 11 #[.agg #[.int .i64 a, .int .i64 b], .int .i64 l] W fun r w' => r = .returned (.tuple #[.slice none 0 0, .int .i64 e]) ∧ Below W.heap.size W w')
    (C2 : ∀ W, Calls Tryd.prog 12 #[.agg #[.int .i64 a, .int .i64 b], .int .i64 l] W fun r w' => r = .returned (.tuple #[.slice none 0 0, .int .i64 e]) ∧ Below W.heap.size W w') :
    Calls Tryd.prog 4 #[.agg #[.int .i64 a, .int .i64 b], .int .i64 l] w fun r w' => r = .returned (.bool true) ∧ Below w.heap.size w w' := by
  have hda := hd.below ((Below.refl _ _).alloc (Nat.le_refl _) (.cells #[.int .i64 a, .int .i64 b] 28))
  go_enter Tryd.func4, Tryd.ntmps4
  go_wp2_with (first
    | (go_at_call 11; (with_reducible refine (C1 _).mono ?_); rintro e w1 ⟨rfl, hb1⟩; obtain ⟨hc1, hf1⟩ := bcell hb1; have hz1 := hb1.size; (try simp at hz1); have hx1 : w.heap.size < w1.heap.size := (by omega))
    | (go_at_call 12; (with_reducible refine (C2 _).mono ?_); rintro e w2 ⟨rfl, hb2⟩)
    | (go_at_call 13; (with_reducible refine (same_nil _).mono ?_); rintro e w3 ⟨rfl, hb3⟩))
  have hd3 := ((hda.below hb1).below hb2).below hb3
  have hbs : Below w.heap.size w w3 := by (repeat (first | exact Below.refl _ _ | (refine b_st ?_ (by first | (simp; done) | (simp; omega))) | (refine b_al ?_ (Nat.le_refl _) _) | refine b_dn ?_ | refine b_dr ?_ | (refine b_cl ?_ (Nat.le_refl _) (by assumption))))
  clear hc1 hf1 hz1 hx1 hb1 hb2 hb3
  go_loopw [9] (fun i wr => i = .int .i64 0 ∧ wr = w3) (fun _ _ => 0)
  case atStart => exact ⟨rfl, rfl⟩
  case round =>
    obtain ⟨rfl, rfl⟩ := hrel
    go_wp2_with (go_at_call 10; refine (alive4_any _ hd3).mono ?_; rintro e w5 ⟨rfl, hb5⟩)
    go_ret
    exact ⟨rfl, b_cl hbs (Nat.le_refl _) hb5⟩

set_option maxHeartbeats 2000000 in
theorem some_ (a b l : Int) (w : World) (hd : Days w) (h : 1 ≤ l) (hl : l ≤ 9223372036854775807) (hab : a < b) (ha : 0 ≤ a) (hb : b ≤ 40320) :
    Calls Tryd.prog 4 #[.agg #[.int .i64 a, .int .i64 b], .int .i64 l] w fun r w' => r = .returned (.bool true) ∧ Below w.heap.size w w' := by
  have hda := hd.below ((Below.refl _ _).alloc (Nat.le_refl _) (.cells #[.int .i64 a, .int .i64 b] 28))
  have C1 := fun W => cut_walk a b l _ _ W h hl hab ha hb rfl rfl
  have C2 := fun W => refcut_walk a b l W h hl hab ha hb
  have GD := Lib.hid (cut_good (a := a) h (b - a).toNat).1
  have LN : (cutN l a (b - a).toNat).length ≤ 40320 := Nat.le_trans (cut_len l a _) (by omega)
  have hab' := Lib.hid (show a + ((b - a).toNat : Int) = b by omega)
  rw [hab'.out] at GD
  generalize cutN l a (b - a).toNat = t at C1 C2 GD LN
  obtain ⟨n, hn⟩ : ∃ n, t.length = n := ⟨_, rfl⟩
  rw [hn] at LN
  have HN := Lib.hid hn
  have C1' : ∀ W, Calls Tryd.prog 11 #[.agg #[.int .i64 a, .int .i64 b], .int .i64 l] W fun r w' => ∃ A c, r = .returned (.tuple #[.slice A n c, .int .i64 0]) ∧ RdS w' A t ∧ Below W.heap.size W w' := fun W =>
    (C1 W).mono fun r w' ⟨v, he, ho, hb⟩ => by
      obtain ⟨A, c, rfl, hr, _, _⟩ := ho.form
      exact ⟨A, c, by rw [he, hn], hr, hb⟩
  have C2' : ∀ W, Calls Tryd.prog 12 #[.agg #[.int .i64 a, .int .i64 b], .int .i64 l] W fun r w' => ∃ A c, r = .returned (.tuple #[.slice A n c, .int .i64 0]) ∧ RdS w' A t ∧ Below W.heap.size W w' := fun W =>
    (C2 W).mono fun r w' ⟨v, he, ho, hb⟩ => by
      obtain ⟨A, c, rfl, hr, _, _⟩ := ho.form
      exact ⟨A, c, by rw [he, hn], hr, hb⟩
  clear C1 C2 hn
  go_enter Tryd.func4, Tryd.ntmps4
  go_wp2_with (first
    | (go_at_call 11; (with_reducible refine (C1' _).mono ?_); rintro e w1 ⟨A1, c1, rfl, hr1, hb1⟩; obtain ⟨hc1, hf1⟩ := bcell hb1; have hz1 := hb1.size; (try simp at hz1); have hx1 : w.heap.size < w1.heap.size := (by omega))
    | (go_at_call 12; (with_reducible refine (C2' _).mono ?_); rintro e w2 ⟨A2, c2, rfl, hr2, hb2⟩)
    | (go_at_call 13; (with_reducible refine (same_yes _ _ _ _ t n _ HN.out (hr1.below hb2) hr2 LN).mono ?_); rintro e w3 ⟨rfl, hb3⟩))
  have hd3 := ((hda.below hb1).below hb2).below hb3
  have hr3 := Lib.hid ((hr1.below hb2).below hb3)
  have hbs : Below w.heap.size w w3 := by (repeat (first | exact Below.refl _ _ | (refine b_st ?_ (by first | (simp; done) | (simp; omega))) | (refine b_al ?_ (Nat.le_refl _) _) | refine b_dn ?_ | refine b_dr ?_ | (refine b_cl ?_ (Nat.le_refl _) (by assumption))))
  clear hc1 hf1 hz1 hx1 hb1 hb2 hb3 hr1 hr2 C1' C2' hda hd
  go_loopw [9] (fun i wr => ∃ k : Nat, k ≤ n ∧ i = .int .i64 k ∧ Below w3.heap.size w3 wr) (fun i _ => n - (intOf i).toNat)
  case atStart => exact ⟨0, Nat.zero_le _, rfl, Below.refl _ _⟩
  case round =>
    obtain ⟨k, hk, rfl, hbl⟩ := hrel
    obtain ⟨w4, rfl⟩ : ∃ w4 : World, w4 = wr := ⟨_, rfl⟩
    by_cases hlt : k < n
    · obtain ⟨bo, oo, x, y, rfl, hbb, hc1, hc2, hs⟩ := hr3.out.at_ (k := k) (by rw [HN.out]; exact hlt)
      have hbb4 : bo < w4.heap.size := by have := hbl.size; omega
      have e1 := c_cl hc1 hbl
      have e2 := c_cl hc2 hbl
      have g1 := GD.out.one k (by rw [HN.out]; exact hlt)
      rw [hs.out] at g1
      obtain ⟨p1, p2, p3, p4⟩ := g1
      simp only [] at p1 p2 p3 p4
      have O1 := fun W => of_c x l W h hl (by omega) (by omega)
      have O2 := fun W => of_c (y - 1) l W h hl (by omega) (by omega)
      rw [← p4] at O2
      generalize x / l = q at O1 O2
      clear p4
      have P1 := Lib.hid hc1
      clear hc1 hc2
      by_cases hk0 : k = 0
      · have hg : decide ((0 : Int) < (k : Int)) = false := decide_eq_false (by omega)
        have hg2 : decide (0 < k) = false := decide_eq_false (by omega)
        have HK0 := Lib.hid hk0
        clear hk0
        go_wp2_with (first
          | (go_at_call 6; (with_reducible refine (O1 _).mono ?_); rintro e w5 ⟨rfl, hb5⟩; have e5 := c_cl e1 hb5; have e6 := c_cl e2 hb5)
          | (go_at_call 6; (with_reducible refine (O2 _).mono ?_); rintro e w6 ⟨rfl, hb6⟩; have e7 := c_cl e5 hb6))
        go_quiet (fail)
        go_wp2
        go_roundw
        case rel => exact ⟨k + 1, by omega, by go_num, b_dn (b_cl (b_cl hbl (Nat.le_refl _) hb5) (Nat.le_refl _) hb6)⟩
        case measure => simp [intOf]; omega
      · obtain ⟨j, hj⟩ : ∃ j, k = j + 1 := ⟨k - 1, by omega⟩
        have hjk : (k : Int) - 1 = (j : Int) := by omega
        have hjn : j < n := by omega
        have wj : IntKind.i64.wrap ((k : Int) - 1) = (j : Int) := by rw [hjk]; exact wrap_in (by omega) (by omega)
        have j0 : (0 : Int) ≤ (j : Int) := by omega
        have jn : (j : Int) < (n : Int) := by omega
        have k0 : (0 : Int) ≤ (k : Int) := by omega
        have kn : (k : Int) < (n : Int) := by omega
        have hg : decide ((0 : Int) < (k : Int)) = true := decide_eq_true (by omega)
        have hg2 : decide (0 < k) = true := decide_eq_true (by omega)
        obtain ⟨bo2, oo2, x2, y2, he, _, hd1, hd2, hs2⟩ := hr3.out.at_ (k := j) (by rw [HN.out]; exact hjn)
        injection he with he
        injection he with he1 he2
        subst he1 he2
        have hxy : x = y2 := by
          have := GD.out.next j (by rw [HN.out]; omega)
          rw [← hj, hs.out, hs2.out] at this
          exact this
        subst hxy
        have e3 := c_cl hd2 hbl
        clear hj hd1 hd2 hk0
        go_wp2_with (first
          | (go_at_call 6; (with_reducible refine (O1 _).mono ?_); rintro e w5 ⟨rfl, hb5⟩; have e5 := c_cl e1 hb5; have e6 := c_cl e2 hb5; have f5 := c_cl e3 hb5)
          | (go_at_call 6; (with_reducible refine (O2 _).mono ?_); rintro e w6 ⟨rfl, hb6⟩; have e7 := c_cl e5 hb6; have f7 := c_cl f5 hb6))
        go_quiet (fail)
        go_wp2
        go_roundw
        case rel => exact ⟨k + 1, by omega, by go_num, b_dn (b_cl (b_cl hbl (Nat.le_refl _) hb5) (Nat.le_refl _) hb6)⟩
        case measure => simp [intOf]; omega
    · have hkn : k = n := by omega
      subst hkn
      go_wp2_with (go_at_call 10; refine (alive4_any _ (hd3.below hbl)).mono ?_; rintro e w8 ⟨rfl, hb8⟩)
      go_ret
      exact ⟨rfl, b_cl (b_cl hbs (Nat.le_refl _) hbl) (Nat.le_refl _) hb8⟩

theorem walk (w : World) (hd : Days w) (a0 b0 : Int) (w0 : (Lit.int .i64 a0).wf = true) (u0 : (Lit.int .i64 b0).wf = true) (a1 : Int) (w1 : (Lit.int .i64 a1).wf = true) :
    Calls Tryd.prog 4 #[.agg #[.int .i64 a0, .int .i64 b0], .int .i64 a1] w fun e w' => e = .returned (.bool true) ∧ Below w.heap.size w w' := by
  have wa := wf_bd w0
  have wb := wf_bd u0
  have wl := wf_bd w1
  by_cases h1 : a1 < 1
  · exact none a0 b0 a1 1 w hd (fun W => cut_short a0 b0 a1 W h1) (fun W => refcut_short a0 b0 a1 W h1)
  · by_cases h2 : a0 < b0
    · by_cases h3 : 0 ≤ a0 ∧ b0 ≤ 40320
      · exact some_ a0 b0 a1 w hd (by omega) wl.2 h2 h3.1 h3.2
      · exact none a0 b0 a1 4 w hd (fun W => cut_far a0 b0 a1 W (by omega) h2 h3) (fun W => refcut_far a0 b0 a1 W (by omega) h2 h3)
    · exact none a0 b0 a1 3 w hd (fun W => cut_wrong a0 b0 a1 W (by omega) h2) (fun W => refcut_wrong a0 b0 a1 W (by omega) h2)

set_option maxRecDepth 100000 in
theorem lifted (os : Os) (started : os.Started) (H : Type) (enc : TypeId × Value → H) :
    ReturnsInHanded {} Tryd.checked os 4 .any (fun w args => (Rows.weekCutsSpec.pre enc Tryd.prog Tryd.f4 [] false w args ∧ laidMetH Tryd.prog Rows.weekCutsRow.laid w) ∧ sizedMet enc Tryd.prog Tryd.f4 (OpenSpec.ofChange Rows.weekCutsSpec) false w args)
      (Rows.weekCutsSpec.post enc Tryd.prog Tryd.f4 false true false false) := by
  refine returnsInHanded_of_change_and (C := Tryd.checked) (X := fun w _ => laidMetH Tryd.prog Rows.weekCutsRow.laid w) (fun _ _ _ hh h => h.of_heap hh) own started (by kernel_rfl) Tryd.func4
    (ChangeSpec.witness_shaped (enc := enc) (C := Tryd.checked) (os := os) (X := fun w _ => laidMetH Tryd.prog Rows.weekCutsRow.laid w) false (World.doorLaid Tryd.prog 400 os) #[.agg #[.int .i64 0, .int .i64 0], .int .i64 0] 8 rfl (World.shaped_of_RefB (by kernel_rfl) (by kernel_rfl)) (by kernel_rfl) (by kernel_rfl) (by kernel_rfl) (door_met os _)) ?_
  intro W base args ds gs before hval0 hW _ _ hL _
  have hval : ∀ (j : Nat) t v, Tryd.f4.params[j]? = some t → args[j]? = some v → Value.okWide Tryd.prog W .any base t v := hval0
  have hW' := hW
  obtain ⟨p, q, hA0, hV, rfl, hfz, hnd⟩ := hW
  have hA : DataW.TrodAll enc Tryd.prog W 0 (fun _ => true) true Tryd.f4.params.toList args.toList ds p := hA0
  rw [Tryd.params4] at hA hval
  obtain ⟨v0, vs0, d0, ds0, p0, q0, hargs, rfl, rfl, h0, r0⟩ := trodAll_cons hA
  obtain ⟨v1, vs1, d1, ds1, p1, q1, rfl, rfl, rfl, h1, r1⟩ := trodAll_cons r0
  obtain ⟨rfl, rfl, rfl⟩ := trodAll_nil r1
  obtain rfl : args = #[v0, v1] := by cases args; simp_all
  obtain ⟨rfl, rfl⟩ := trodVars_none hV
  obtain ⟨a0, b0, rfl, rfl, rfl, w0, u0⟩ := open_span (hval 0 28 v0 rfl rfl) h0
  obtain ⟨a1, rfl, rfl, rfl, w1⟩ := open_int Tryd.underlying3 (hval 1 3 v1 rfl rfl) h1
  clear hA0 hval0
  simp only [List.append_nil] at hW'
  refine (walk W (days_of_laid hL (by kernel_rfl) (by simp [Rows.weekCutsRow])) a0 b0 w0 u0 a1 w1).mono fun e W' ⟨he, bel⟩ => ?_
  subst he
  exact ⟨_, rfl, _, _, _, [], [], [], hW', trodAll_mk1 (shut_bool Tryd.underlying4 _), (trodAll_cons_mk (shut_span w0 u0) (trodAll_cons_mk (shut_int Tryd.underlying3 w1) trodAll_mk0)), rfl, bel.frame _, fun h => by cases h⟩

theorem over : Rows.WeekCutsSaid :=
  OpenClaim.holds_of_wide 4 Tryd.f4 rfl rfl rfl rfl rfl rfl rfl ⟨rfl, rfl, rfl, rfl, rfl⟩ rfl rfl rfl rfl rfl (by kernel_rfl) Tryd.func4 (by kernel_rfl)
    (of_decide_eq_true (by kernel_rfl)) (by unfold Func.isWrapper; first | (rw [if_pos (by decide +kernel)]; kernel_rfl) | (rw [if_neg (by decide +kernel)]; exact ⟨rfl, rfl⟩))
    (fun os started H enc _ => lifted os started H enc)

theorem proved : Rows.WeekCutsCardSaid :=
  Claim7.holds_tied_plain_at .later [] _ true _ _ over (fun _ h => by cases h) (by kernel_rfl) (fun _ h => by cases h) weekCuts_row_tie rfl ⟨rfl, rfl⟩ (by kernel_rfl) rfl
    (fun f fn hf hfn => by
      obtain rfl : f = 4 := Option.some.inj ((show Tryd.prog.funcNamed "haulier/haulierlaw04.WeekCuts" = some 4 by kernel_rfl).symm.trans hf) |>.symm
      obtain rfl : fn = Tryd.f4 := (Option.some.inj (Tryd.func4.symm.trans hfn)).symm
      exact ⟨by kernel_rfl, fun j t ht => by
        rw [Tryd.params4] at ht
        have hm : t ∈ [28, 3] := by simpa using Array.mem_of_getElem? ht
        have hall : ([28, 3].all fun u => !Tryd.prog.wantsStandIn u) = true := by kernel_rfl
        exact (show Tryd.prog.wantsStandIn t = false by simpa using List.all_eq_true.1 hall t hm)⟩)
    (by kernel_rfl)
#print axioms proved
end Go.Proofs.YtbldkhlkejoklaaDoor.weekCuts
