/- What Check, May and Next of windows return, for any slice of spans that can be read. Conditions: as each theorem says. -/
import Derived.Test.YtolbihfnogbjaaaRows
import Derived.Test.YtolbihfnogbjaaaBase
import Derived.Test.YtolbihfnogbjaaaZ2
import Derived.Test.YtolbihfnogbjaaaZ1
import Derived.Test.YtolbihfnogbjaaaIvalLeaf
import Derived.Test.YtolbihfnogbjaaaIvalsHasC
import Derived.Test.YtolbihfnogbjaaaZ5
import Derived.Test.YtolbihfnogbjaaaIvalsNextC
import Derived.Test.YtolbihfnogbjaaaZ3
import Derived.Test.YtolbihfnogbjaaaShelf
import Derived.WalkKit
import Derived.WalkSpells
import Derived.WalkSmall
import Derived.Below
import Derived.Lib.Hide
import Derived.Outline
namespace Go.Proofs.Ytolbihfnogbjaaa
open Go.RowKit

theorem pred_wrong (w : World) : PredBelow Try.prog 69 #[] (fun s => .agg (encS s).toArray) wrongS w := fun W s hb => by
  obtain ⟨x, y⟩ := s
  show Calls Try.prog 69 #[.agg #[.int .i64 x, .int .i64 y]] W _
  have h1 := hb.alloc hb.size (.cells #[.int .i64 x, .int .i64 y] 102)
  have hh := fun W => right_any x y W
  obtain ⟨g, hg⟩ : ∃ g, decide (x < y) = g := ⟨_, rfl⟩
  rw [hg] at hh
  have HG := Lib.hid hg
  clear hg
  go_enter Try.func69, Try.ntmps69
  go_wp2_with (go_at_call 70; refine (hh _).mono ?_; rintro e w1 ⟨rfl, hb1⟩)
  go_ret
  exact ⟨by show _ = Ending.returned (.bool (wrongS (x, y))); unfold wrongS; rw [HG.out]; rfl, h1.trans (hb1.mono h1.size)⟩

theorem pred_range (w : World) : PredBelow Try.prog 71 #[] (fun s => .agg (encS s).toArray) rangeS w := fun W s hb => by
  obtain ⟨x, y⟩ := s
  show Calls Try.prog 71 #[.agg #[.int .i64 x, .int .i64 y]] W _
  have h1 := hb.alloc hb.size (.cells #[.int .i64 x, .int .i64 y] 102)
  by_cases hx : x < 0
  · have hd : decide (x < 0) = true := decide_eq_true hx
    have HW := Lib.hid (show rangeS (x, y) = true by unfold rangeS; simp [hx])
    go_enter Try.func71, Try.ntmps71
    go_wp2
    go_ret
    exact ⟨by show _ = Ending.returned (.bool (rangeS (x, y))); rw [HW.out]; rfl, h1⟩
  · have hd : decide (x < 0) = false := decide_eq_false hx
    by_cases hy : 40320 < y
    · have hd2 : decide (40320 < y) = true := decide_eq_true hy
      have HW := Lib.hid (show rangeS (x, y) = true by unfold rangeS; simp [hy])
      go_enter Try.func71, Try.ntmps71
      go_wp2
      go_ret
      exact ⟨by show _ = Ending.returned (.bool (rangeS (x, y))); rw [HW.out]; rfl, h1⟩
    · have hd2 : decide (40320 < y) = false := decide_eq_false hy
      have HW := Lib.hid (show rangeS (x, y) = false by unfold rangeS; simp; omega)
      go_enter Try.func71, Try.ntmps71
      go_wp2
      go_ret
      exact ⟨by show _ = Ending.returned (.bool (rangeS (x, y))); rw [HW.out]; rfl, h1⟩

theorem containsf_of (g : Nat) (cap : Array Value) (p : Sp → Bool) (eg : ∀ args w, (callFunc g args).run Try.prog w = .ok (.enter g args) w) (A : Option Addr) (c : Nat) (l : List Sp) (w : World) (h : RdS w A l) (hl : l.length ≤ 4611686018427387904)
    (hp : PredBelow Try.prog g cap (fun s => .agg (encS s).toArray) p w) :
    Calls Try.prog 68 #[.slice A l.length c, .func (.func g) #[] cap] w fun e w' => e = .returned (.bool (l.any p)) ∧ Below w.heap.size w w' := by
  by_cases hne : l = []
  · subst hne
    exact containsf_empty A c _ w
  · obtain ⟨b, off, rfl, hb, hc⟩ := h hne
    have hcon := AnyQ.slices_ContainsFunc hasFL 2 Try.isAgg102 Try.sizeOf102 encS (fun _ => rfl) p g cap eg b off l.length c l w
      hp (Nat.le_refl _) (by omega) hb (fun j hj i v hi => by
        have h1 := hc j hj
        have e : l[j]! = l.getD j (0, 0) := by simp [List.getD, hj]
        rw [e] at hi
        generalize l.getD j (0, 0) = y at hi h1
        match i, hi with
        | 0, hi => simp [encS] at hi; rw [← hi]; exact h1.1
        | 1, hi => simp [encS] at hi; rw [← hi]; exact h1.2
        | i + 2, hi => simp [encS] at hi)
    rw [List.take_of_length_le (Nat.le_refl _)] at hcon
    exact hcon

/-- The closure that asks all windows. -/
theorem some18_any (g : Nat) (p : Sp → Bool) (eg : ∀ args w, (callFunc g args).run Try.prog w = .ok (.enter g args) w) (A : Option Addr) (c n : Nat) (l : List Sp) (B : Nat) (w : World) (hn : l.length = n) (h : RdS w A l) (hl : n ≤ 4611686018427387904)
    (hc : w.cell? ⟨B, 0, none⟩ = some (.slice A n c)) (hp : ∀ W, PredBelow Try.prog g #[] (fun s => .agg (encS s).toArray) p W) :
    Calls Try.prog 67 #[.func (.func g) #[] #[], .pointer (some ⟨B, 0, none⟩)] w fun e w' => e = .returned (.bool (l.any p)) ∧ Below w.heap.size w w' := by
  have hcon := fun W (h : RdS W A l) => containsf_of g #[] p eg A c l W h (by omega) (hp W)
  rw [hn] at hcon
  have HR := Lib.hid h
  clear hp h eg
  generalize l.any p = v at hcon
  go_enter Try.func67, Try.ntmps67
  go_wp2_with (go_at_call 68; refine (hcon _ HR.out).mono ?_; rintro e w1 ⟨rfl, hb1⟩)
  go_ret
  exact ⟨rfl, hb1⟩

theorem may18_any (A : Option Addr) (c : Nat) (l : List Sp) (m : Int) (w : World) (h : RdS w A l) (hl : l.length ≤ 4611686018427387904) :
    Calls Try.prog 66 #[.slice A l.length c, .int .i64 m] w fun e w' => e = .returned (.bool (hasL l m)) ∧ Below w.heap.size w w' := by
  have hcon := hasl_any A c l m w h hl
  generalize hasL l m = g at hcon
  go_enter Try.func66, Try.ntmps66
  go_wp2_with (go_at_call 74; refine hcon.mono ?_; rintro e w1 ⟨rfl, hb1⟩)
  go_ret
  exact ⟨rfl, hb1⟩

set_option maxHeartbeats 1600000 in
theorem check18_any (A : Option Addr) (c : Nat) (l : List Sp) (w : World) (h : RdS w A l) (hl : l.length ≤ 4611686018427387904) :
    Calls Try.prog 62 #[.slice A l.length c] w fun e w' => e = .returned (.int .i64 (checkW l)) ∧ Below w.heap.size w w' := by
  have hB0 := (Below.refl w.heap.size w).alloc (Nat.le_refl _) (.cells #[.slice A l.length c] 57)
  by_cases h0 : l.length = 0
  · have h0' : ((l.length : Int) == 0) = true := by simp [h0]
    have HC := Lib.hid (check_none h0)
    go_enter Try.func62, Try.ntmps62
    go_wp2
    go_ret
    refine ⟨?_, by ((repeat (first | exact Below.refl _ _ | (refine b_st ?_ (by first | (simp; done) | (simp; omega))) | (refine b_al ?_ (Nat.le_refl _) _) | refine b_dn ?_ | refine b_dr ?_ | (refine b_cl ?_ (Nat.le_refl _) (by assumption)))))⟩
    rw [HC.out]; rfl
  · have h0' : ((l.length : Int) == 0) = false := by simp [h0]
    by_cases h8 : 8 < l.length
    · have h8' : (8 : Int) < (l.length : Int) := by omega
      have HC := Lib.hid (check_many h8)
      go_enter Try.func62, Try.ntmps62
      go_wp2
      go_ret
      refine ⟨?_, by ((repeat (first | exact Below.refl _ _ | (refine b_st ?_ (by first | (simp; done) | (simp; omega))) | (refine b_al ?_ (Nat.le_refl _) _) | refine b_dn ?_ | refine b_dr ?_ | (refine b_cl ?_ (Nat.le_refl _) (by assumption)))))⟩
      rw [HC.out]; rfl
    · have h8' : ¬ (8 : Int) < (l.length : Int) := by omega
      have CW := fun W (hr : RdS W A l) hc => some18_any 69 wrongS (enters_of Try.func69 (by kernel_rfl) rfl) A c l.length l w.heap.size W rfl hr hl hc pred_wrong
      have CR := fun W (hr : RdS W A l) hc => some18_any 71 rangeS (enters_of Try.func71 (by kernel_rfl) rfl) A c l.length l w.heap.size W rfl hr hl hc pred_range
      have CS := fun W (hr : RdS W A l) => rightl_any A c l W hr hl
      have HR := Lib.hid h
      have tok1 : True := trivial
      clear h
      obtain ⟨g1, hg1⟩ : ∃ g, l.any wrongS = g := ⟨_, rfl⟩
      obtain ⟨g2, hg2⟩ : ∃ g, l.any rangeS = g := ⟨_, rfl⟩
      obtain ⟨g3, hg3⟩ : ∃ g, rightB l = g := ⟨_, rfl⟩
      rw [hg1] at CW
      rw [hg2] at CR
      rw [hg3] at CS
      have HG1 := Lib.hid hg1
      have HG2 := Lib.hid hg2
      have HG3 := Lib.hid hg3
      clear hg1 hg2 hg3
      cases g1 with
      | true =>
        have HC := Lib.hid (check_wrong h0 h8 HG1.out)
        go_enter Try.func62, Try.ntmps62
        go_wp2_with (go_at_call 67; have _t := tok1; refine (CW _ (HR.out.below hB0) (by simp)).mono ?_; rintro e w1 ⟨rfl, hb1⟩; clear tok1; obtain ⟨hc1, hf1⟩ := bcell hb1; have hz1 := hb1.size; (try simp at hz1); have : w.heap.size < w1.heap.size := (by omega))
        go_ret
        refine ⟨?_, hB0.trans (hb1.mono hB0.size)⟩
        rw [HC.out]; rfl
      | false =>
        cases g2 with
        | true =>
          have HC := Lib.hid (check_range h0 h8 HG1.out HG2.out)
          go_enter Try.func62, Try.ntmps62
          go_wp2_with (first | (go_at_call 67; have _t := tok1; refine (CW _ (HR.out.below hB0) (by simp)).mono ?_; rintro e w1 ⟨rfl, hb1⟩; clear tok1; obtain ⟨hc1, hf1⟩ := bcell hb1; have hz1 := hb1.size; (try simp at hz1); have : w.heap.size < w1.heap.size := (by omega)) | (go_at_call 67; refine (CR _ (HR.out.below (hB0.trans (hb1.mono hB0.size))) (c_cl (by simp) hb1)).mono ?_; rintro e w2 ⟨rfl, hb2⟩; obtain ⟨hc2, hf2⟩ := bcell hb2; have hz2 := hb2.size; (try simp at hz2); have : w.heap.size < w2.heap.size := (by omega)))
          go_ret
          refine ⟨?_, (hB0.trans (hb1.mono hB0.size)).trans (hb2.mono (Nat.le_trans hB0.size hb1.size))⟩
          rw [HC.out]; rfl
        | false =>
          cases g3 with
          | true =>
            have HC := Lib.hid (check_right h0 h8 HG1.out HG2.out HG3.out)
            go_enter Try.func62, Try.ntmps62
            go_wp2_with (first | (go_at_call 67; have _t := tok1; refine (CW _ (HR.out.below hB0) (by simp)).mono ?_; rintro e w1 ⟨rfl, hb1⟩; clear tok1; obtain ⟨hc1, hf1⟩ := bcell hb1; have hz1 := hb1.size; (try simp at hz1); have : w.heap.size < w1.heap.size := (by omega)) | (go_at_call 67; refine (CR _ (HR.out.below (hB0.trans (hb1.mono hB0.size))) (c_cl (by simp) hb1)).mono ?_; rintro e w2 ⟨rfl, hb2⟩; obtain ⟨hc2, hf2⟩ := bcell hb2; have hz2 := hb2.size; (try simp at hz2); have : w.heap.size < w2.heap.size := (by omega)) | (go_at_call 72; refine (CS _ (HR.out.below ((hB0.trans (hb1.mono hB0.size)).trans (hb2.mono (Nat.le_trans hB0.size hb1.size))))).mono ?_; rintro e w3 ⟨rfl, hb3⟩))
            go_ret
            refine ⟨?_, ((hB0.trans (hb1.mono hB0.size)).trans (hb2.mono (Nat.le_trans hB0.size hb1.size))).trans (hb3.mono (Nat.le_trans (Nat.le_trans hB0.size hb1.size) hb2.size))⟩
            rw [HC.out]; rfl
          | false =>
            have HC := Lib.hid (check_over h0 h8 HG1.out HG2.out HG3.out)
            go_enter Try.func62, Try.ntmps62
            go_wp2_with (first | (go_at_call 67; have _t := tok1; refine (CW _ (HR.out.below hB0) (by simp)).mono ?_; rintro e w1 ⟨rfl, hb1⟩; clear tok1; obtain ⟨hc1, hf1⟩ := bcell hb1; have hz1 := hb1.size; (try simp at hz1); have : w.heap.size < w1.heap.size := (by omega)) | (go_at_call 67; refine (CR _ (HR.out.below (hB0.trans (hb1.mono hB0.size))) (c_cl (by simp) hb1)).mono ?_; rintro e w2 ⟨rfl, hb2⟩; obtain ⟨hc2, hf2⟩ := bcell hb2; have hz2 := hb2.size; (try simp at hz2); have : w.heap.size < w2.heap.size := (by omega)) | (go_at_call 72; refine (CS _ (HR.out.below ((hB0.trans (hb1.mono hB0.size)).trans (hb2.mono (Nat.le_trans hB0.size hb1.size))))).mono ?_; rintro e w3 ⟨rfl, hb3⟩))
            go_ret
            refine ⟨?_, ((hB0.trans (hb1.mono hB0.size)).trans (hb2.mono (Nat.le_trans hB0.size hb1.size))).trans (hb3.mono (Nat.le_trans (Nat.le_trans hB0.size hb1.size) hb2.size))⟩
            rw [HC.out]; rfl

end Go.Proofs.Ytolbihfnogbjaaa
