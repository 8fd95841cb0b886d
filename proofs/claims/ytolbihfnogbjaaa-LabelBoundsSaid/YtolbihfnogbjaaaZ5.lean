/- Plain facts, several texts in one: IvalsHas, IvalsRight, IvalsRightC, SpellLeaf, SpellSt, WindowRef. Conditions: none beyond each lemma's own premises. -/
import Derived.Test.YtolbihfnogbjaaaRows
import Derived.Test.YtolbihfnogbjaaaBase
import Derived.Test.YtolbihfnogbjaaaZ2
import Derived.Test.YtolbihfnogbjaaaIvalLeaf
import Derived.WalkKit
import Derived.WalkSpells
import Derived.WalkSmall
import Derived.Below
import Derived.Outline
import Derived.Lib.Hide
import Derived.BigQuiet
import Derived.Deep.QuietTactic
import Derived.Test.YtolbihfnogbjaaaBookNum
import Derived.Test.YtolbihfnogbjaaaBookOrd
import Derived.Test.YtolbihfnogbjaaaBookLim
import Derived.Test.YtolbihfnogbjaaaBookMayR
import Derived.Test.YtolbihfnogbjaaaZ4
import Derived.OwnWalk
import Derived.Shelf.Abstract
import Derived.Deep.DeepCutAuto
import Derived.Test.YtolbihfnogbjaaaZ1
import Derived.Test.YtolbihfnogbjaaaZ3

/- What the reference's Has and Right of layer 3 return, for any slice of spans that can be read. Conditions: as each theorem says. -/
namespace Go.Proofs.Ytolbihfnogbjaaa
open Go.RowKit

set_option maxHeartbeats 400000 in
theorem refhasl_any (A : Option Addr) (c : Nat) (l : List Sp) (m : Int) (w : World) (h : RdS w A l) (hl : l.length ≤ 4611686018427387904) :
    Calls Try.prog 38 #[.slice A l.length c, .int .i64 m] w fun e w' => e = .returned (.bool (hasL l m)) ∧ Below w.heap.size w w' := by
  go_enter Try.func38, Try.ntmps38
  go_wp2
  go_loopw [5] (fun i wr => ∃ k : Nat, k ≤ l.length ∧ i = .int .i64 k ∧ Below w.heap.size w wr ∧ Hid (∀ s ∈ l.take k, ¬ (s.1 ≤ m ∧ m < s.2))) (fun i _ => l.length - (intOf i).toNat)
  case atStart => exact ⟨0, Nat.zero_le _, rfl, Below.refl _ _, Lib.hid (by simp)⟩
  case round =>
    obtain ⟨k, hk, rfl, hb, hn⟩ := hrel
    by_cases hlt : k < l.length
    · obtain ⟨b, off, x, y, rfl, hbb, hc1, hc2, hs⟩ := h.at_ hlt
      rw [← hb.cell (p := ⟨b, _, none⟩) hbb] at hc1 hc2
      have hsz := hb.size
      by_cases hxy : x ≤ m ∧ m < y
      · go_wp2_with (go_at_call 47; refine (refhas_yes _ _ _ _ hxy).mono ?_; rintro e w1 ⟨rfl, hb1⟩)
        go_ret
        refine ⟨?_, hb.trans (hb1.mono hsz)⟩
        rw [hasL_of l m k hlt (by rw [hs.out]; exact hxy)]; rfl
      · go_wp2_with (go_at_call 47; refine (refhas_no _ _ _ _ hxy).mono ?_; rintro e w1 ⟨rfl, hb1⟩)
        go_roundw
        case rel => exact ⟨k + 1, by omega, by go_num, hb.trans (hb1.mono hsz), Lib.hid (hasL_not l m k hlt (by rw [hs.out]; exact hxy) hn.out)⟩
        case measure => simp [intOf]; omega
    · go_wp2
      go_ret
      refine ⟨?_, hb⟩
      rw [hasL_no.2 (by have := hn.out; rwa [List.take_of_length_le (by omega)] at this)]; rfl

end Go.Proofs.Ytolbihfnogbjaaa

/- What the reference's Right of layer 3 returns, for any slice of spans that can be read. Conditions: as each theorem says. -/
namespace Go.Proofs.Ytolbihfnogbjaaa
open Go.RowKit

set_option maxHeartbeats 400000 in
theorem refrightl_any (A : Option Addr) (c : Nat) (l : List Sp) (w : World) (h : RdS w A l) (hl : l.length ≤ 4611686018427387904) :
    Calls Try.prog 45 #[.slice A l.length c] w fun e w' => e = .returned (.bool (rightB l)) ∧ Below w.heap.size w w' := by
  go_enter Try.func45, Try.ntmps45
  go_wp2
  go_loopw [3] (fun i wr => ∃ k : Nat, k ≤ l.length ∧ i = .int .i64 k ∧ Below w.heap.size w wr ∧ Hid (∀ j, j < k → okAt l j = true)) (fun i _ => l.length - (intOf i).toNat)
  case atStart => exact ⟨0, Nat.zero_le _, rfl, Below.refl _ _, Lib.hid (by omega)⟩
  case round =>
    obtain ⟨k, hk, rfl, hb, hn⟩ := hrel
    have hsz := hb.size
    by_cases hlt : k < l.length
    · obtain ⟨b, off, x, y, rfl, hbb, hc1, hc2, hs⟩ := h.at_ hlt
      rw [← hb.cell (p := ⟨b, _, none⟩) hbb] at hc1 hc2
      have q1 : ∀ p : BelowOf wr, p.world.cell? ⟨b, off + k * 2, none⟩ = some (.int .i64 x) := fun p => p.cell hc1
      have q2 : ∀ p : BelowOf wr, p.world.cell? ⟨b, off + k * 2 + 1, none⟩ = some (.int .i64 y) := fun p => p.cell hc2
      by_cases hxy : x < y
      · by_cases h0 : k = 0
        · subst h0
          have hg : decide ((0 : Int) < 0) = false := by decide
          simp only [Nat.zero_mul, Nat.add_zero] at q1 q2
          go_wp2
          refine wp_region_bel (by kernel_rfl) (by kernel_rfl) ?_
          repeat (go_big_quiet_step (first | (go_at_call 44; exact Calls.bel_of (refright_yes _ _ _ hxy))))
          refine wpQuiet_nil ?_
          rintro _ ⟨⟨wq, hbq⟩, rfl⟩
          clear q1 q2
          go_wp2
          go_roundw
          case rel => exact ⟨0 + 1, by omega, by go_num, hb.trans (hbq.mono hsz), Lib.hid (fun j hj => by
            have : j = 0 := by omega
            subst this
            unfold okAt; rw [hs.out]; simp [hxy])⟩
          case measure => simp [intOf]; omega
        · obtain ⟨j, rfl⟩ : ∃ j, k = j + 1 := ⟨k - 1, by omega⟩
          obtain ⟨b', off', x', y', hA, hbb', hc1', hc2', hs'⟩ := h.at_ (show j < l.length by omega)
          obtain ⟨rfl, rfl⟩ : b = b' ∧ off = off' := by simpa using hA
          clear hA
          rw [← hb.cell (p := ⟨b, _, none⟩) hbb'] at hc1' hc2'
          have q3 : ∀ p : BelowOf wr, p.world.cell? ⟨b, off + j * 2 + 1, none⟩ = some (.int .i64 y') := fun p => p.cell hc2'
          have hg : decide ((0 : Int) < (j : Int) + 1) = true := decide_eq_true (by omega)
          have ok : okAt l (j + 1) = decide (y' < x) := by
            unfold okAt; rw [hs.out, show j + 1 - 1 = j from rfl, hs'.out]; simp [hxy]
          have OK := Lib.hid ok
          clear ok
          by_cases hp : x ≤ y'
          · go_wp2
            refine wp_region_bel (by kernel_rfl) (by kernel_rfl) ?_
            repeat (go_big_quiet_step (first | (go_at_call 44; exact Calls.bel_of (refright_yes _ _ _ hxy))))
            refine wpQuiet_nil ?_
            rintro _ ⟨⟨wq, hbq⟩, rfl⟩
            clear q1 q2 q3
            go_wp2
            go_ret
            refine ⟨?_, hb.trans (hbq.mono hsz)⟩
            rw [rightB_no hlt (by rw [OK.out]; simp; omega)]; rfl
          · have hp' : y' < x := by omega
            go_wp2
            refine wp_region_bel (by kernel_rfl) (by kernel_rfl) ?_
            repeat (go_big_quiet_step (first | (go_at_call 44; exact Calls.bel_of (refright_yes _ _ _ hxy))))
            refine wpQuiet_nil ?_
            rintro _ ⟨⟨wq, hbq⟩, rfl⟩
            clear q1 q2 q3
            go_wp2
            go_roundw
            case rel => exact ⟨j + 1 + 1, by omega, by go_num, hb.trans (hbq.mono hsz), Lib.hid (fun i hi => by
              by_cases e : i = j + 1
              · subst e; rw [OK.out]; simpa using hp'
              · exact hn.out i (by omega))⟩
            case measure => simp [intOf]; omega
      · go_wp2
        refine wp_region_bel (by kernel_rfl) (by kernel_rfl) ?_
        repeat (go_big_quiet_step (first | (go_at_call 44; exact Calls.bel_of (refright_no _ _ _ (by omega)))))
        refine wpQuiet_nil ?_
        rintro _ ⟨⟨wq, hbq⟩, rfl⟩
        clear q1 q2
        go_wp2
        go_ret
        refine ⟨?_, hb.trans (hbq.mono hsz)⟩
        rw [rightB_no hlt (by unfold okAt; rw [hs.out]; simp; omega)]; rfl
    · go_wp2
      go_ret
      refine ⟨?_, hb⟩
      rw [rightB_yes fun j hj => hn.out j (by omega)]; rfl

end Go.Proofs.Ytolbihfnogbjaaa

/- What Right of layer 3 returns, for any slice of spans that can be read. Conditions: as each theorem says. -/
namespace Go.Proofs.Ytolbihfnogbjaaa
open Go.RowKit

set_option maxHeartbeats 800000 in
theorem rightl_any (A : Option Addr) (c : Nat) (l : List Sp) (w : World) (h : RdS w A l) (hl : l.length ≤ 4611686018427387904) :
    Calls Try.prog 72 #[.slice A l.length c] w fun e w' => e = .returned (.bool (rightB l)) ∧ Below w.heap.size w w' := by
  go_enter Try.func72, Try.ntmps72
  go_wp2
  go_loopw [7] (fun i wr => ∃ k : Nat, k ≤ l.length ∧ i = .int .i64 k ∧ Below w.heap.size w wr ∧ Hid (∀ j, j < k → okAt l j = true)) (fun i _ => l.length - (intOf i).toNat)
  case atStart => exact ⟨0, Nat.zero_le _, rfl, Below.refl _ _, Lib.hid (by omega)⟩
  case round =>
    obtain ⟨k, hk, rfl, hb, hn⟩ := hrel
    have hsz := hb.size
    by_cases hlt : k < l.length
    · obtain ⟨b, off, x, y, rfl, hbb, hc1, hc2, hs⟩ := h.at_ hlt
      rw [← hb.cell (p := ⟨b, _, none⟩) hbb] at hc1 hc2
      have hbr : b < wr.heap.size := by omega
      have q1 : ∀ p : BelowOf (wr.alloc (.cells #[.int .i64 x, .int .i64 y] 102)), p.world.cell? ⟨wr.heap.size, 0, none⟩ = some (.int .i64 x) := fun p => p.cell (by simp)
      have q2 : ∀ p : BelowOf (wr.alloc (.cells #[.int .i64 x, .int .i64 y] 102)), p.world.cell? ⟨wr.heap.size, 1, none⟩ = some (.int .i64 y) := fun p => p.cell (by simp)
      by_cases hxy : x < y
      · by_cases h0 : k = 0
        · subst h0
          have hg : decide ((0 : Int) < 0) = false := by decide
          simp only [Nat.zero_mul, Nat.add_zero] at hc1 hc2
          go_wp2
          refine wp_region_bel (by kernel_rfl) (by kernel_rfl) ?_
          repeat (go_big_quiet_step (first | (go_at_call 70; exact Calls.bel_of (right_yes _ _ _ hxy))))
          refine wpQuiet_nil ?_
          refine bel_all fun wq hbq => ?_
          have hbw := (hb.alloc hsz (.cells #[.int .i64 x, .int .i64 y] 102)).trans (hbq.mono (by simp; omega))
          clear q1 q2
          go_wp2
          go_roundw
          case rel => exact ⟨0 + 1, by omega, by go_num, hbw, Lib.hid (fun j hj => by
            have : j = 0 := by omega
            subst this
            unfold okAt; rw [hs.out]; simp [hxy])⟩
          case measure => simp [intOf]; omega
        · obtain ⟨j, hj⟩ : ∃ j, k = j + 1 := ⟨k - 1, by omega⟩
          have HJ := Lib.hid hj
          have hkj : (k : Int) - 1 = (j : Int) := by omega
          have hjl : j < l.length := by omega
          clear hj
          obtain ⟨b', off', x', y', hA, hbb', hc1', hc2', hs'⟩ := h.at_ hjl
          obtain ⟨rfl, rfl⟩ : b = b' ∧ off = off' := by simpa using hA
          clear hA
          rw [← hb.cell (p := ⟨b, _, none⟩) hbb'] at hc1' hc2'
          have q3 : ∀ p : BelowOf (wr.alloc (.cells #[.int .i64 x, .int .i64 y] 102)), p.world.cell? ⟨b, off + j * 2 + 1, none⟩ = some (.int .i64 y') := fun p => p.cell (c_al _ hc2')
          have hg : decide (0 < k) = true := decide_eq_true (by have := HJ.out; omega)
          have OK := Lib.hid (show okAt l k = decide (y' < x) by
            unfold okAt; rw [hs.out, HJ.out, show j + 1 - 1 = j from rfl, hs'.out]; simp [hxy])
          by_cases hp : x ≤ y'
          · go_wp2
            refine wp_region_bel (by kernel_rfl) (by kernel_rfl) ?_
            repeat (go_big_quiet_step (first | (go_at_call 70; exact Calls.bel_of (right_yes _ _ _ hxy))))
            refine wpQuiet_nil ?_
            refine bel_all fun wq hbq => ?_
            have hbw := (hb.alloc hsz (.cells #[.int .i64 x, .int .i64 y] 102)).trans (hbq.mono (by simp; omega))
            clear q1 q2 q3
            go_wp2
            go_ret
            refine ⟨?_, hbw⟩
            rw [rightB_no hlt (by rw [OK.out]; simp; omega)]; rfl
          · have hp' : y' < x := by omega
            have HP := Lib.hid hp'
            go_wp2
            refine wp_region_bel (by kernel_rfl) (by kernel_rfl) ?_
            repeat (go_big_quiet_step (first | (go_at_call 70; exact Calls.bel_of (right_yes _ _ _ hxy))))
            refine wpQuiet_nil ?_
            refine bel_all fun wq hbq => ?_
            have hbw := (hb.alloc hsz (.cells #[.int .i64 x, .int .i64 y] 102)).trans (hbq.mono (by simp; omega))
            clear q1 q2 q3
            go_wp2
            go_roundw
            case rel => exact ⟨k + 1, by omega, by go_num, hbw, Lib.hid (fun i hi => by
              by_cases e : i = k
              · subst e; rw [OK.out]; exact decide_eq_true HP.out
              · exact hn.out i (by omega))⟩
            case measure => simp [intOf]; omega
      · have hyx : y ≤ x := by omega
        clear hxy
        go_wp2
        refine wp_region_bel (by kernel_rfl) (by kernel_rfl) ?_
        repeat (go_big_quiet_step (first | (go_at_call 70; exact Calls.bel_of (right_no _ _ _ (by omega)))))
        refine wpQuiet_nil ?_
        refine bel_all fun wq hbq => ?_
        have hbw := (hb.alloc hsz (.cells #[.int .i64 x, .int .i64 y] 102)).trans (hbq.mono (by simp; omega))
        clear q1 q2
        go_wp2
        go_ret
        refine ⟨?_, hbw⟩
        rw [rightB_no hlt (by unfold okAt; rw [hs.out]; simp; omega)]; rfl
    · go_wp2
      go_ret
      refine ⟨?_, hb⟩
      rw [rightB_yes fun j hj => hn.out j (by omega)]; rfl

end Go.Proofs.Ytolbihfnogbjaaa

/- What the closure of Of, check, Latest, Regular of layer 12 and the document's Check return. Conditions: none beyond each lemma's own premises. -/
namespace Go.Proofs.Ytolbihfnogbjaaa
open Go.RowKit

/-- The closure: does the spell last n? -/
theorem lasts_any (g : Nat) (f t n : Int) (w : World) (h0 : w.cell? ⟨g, 0, none⟩ = some (.int .i64 f)) (h1 : w.cell? ⟨g, 1, none⟩ = some (.int .i64 t)) (b0 : 0 ≤ f) (b1 : f ≤ t) (b2 : t ≤ 40320) :
    Calls Try.prog 77 #[.int .i64 n, .pointer (some ⟨g, 0, none⟩)] w fun e w' => e = .returned (.bool (lastB (t - f) n)) ∧ w = w' := by
  have hd : decide (n ≤ t - f) = lastB (t - f) n := rfl
  generalize lastB (t - f) n = v at hd
  go_enter Try.func77, Try.ntmps77
  go_wp2
  go_ret
  exact ⟨rfl, rfl⟩

set_option maxRecDepth 20000 in
set_option maxHeartbeats 1600000 in
open Classical in
theorem scheck_any (x : Nat → Int) (f t dawn : Int) (w : World) :
    Calls Try.prog 76 #[.agg (bk x), .agg #[.int .i64 f, .int .i64 t], .int .i64 dawn] w fun e w' => e = .returned (.int .i64 (spellErr x f t dawn)) ∧ Below w.heap.size w w' := by
  have C1 := fun W => check7_any x W
  have RB : RdI ((w.alloc (.cells (bk x) 23)).alloc (.cells #[.int .i64 f, .int .i64 t] 102)) w.heap.size 0 x := (RdI.new x 23 rfl).alloc _
  by_cases hm : May x
  case neg =>
    rw [spellErr_no f t dawn hm]
    simp only [if_neg hm] at C1
    clear hm
    go_enter Try.func76, Try.ntmps76
    go_wp2_with (first | refine wpList_load_bk (by rfl) 23 _ rfl _ _ rfl x _ (RB) Try.underlying23 rfl (by kernel_rfl) ?_ | (go_at_call 23; (with_reducible refine (C1 _).mono ?_); rintro e w1 ⟨rfl, hb1⟩; obtain ⟨hc1, hf1⟩ := bcell hb1; have hz1 := hb1.size; (try simp at hz1); have hl1 : w.heap.size + 1 < w1.heap.size := (by omega)))
    go_ret
    refine ⟨rfl, ?_⟩
    (repeat (first | exact Below.refl _ _ | (refine b_st ?_ (by first | (simp; done) | (simp; omega))) | (refine b_al ?_ (Nat.le_refl _) _) | refine b_dn ?_ | refine b_dr ?_ | (refine b_cl ?_ (Nat.le_refl _) (by assumption))))
  rw [spellErr_yes f t dawn hm]
  simp only [if_pos hm] at C1
  clear hm
  by_cases c0 : t ≤ f
  case pos =>
    rw [show (if t ≤ f then (3 : Int) else if f < 0 ∨ 40320 < t then 4 else if dawn < 0 ∨ f < dawn then 1 else 0) = 3 by split <;> first | rfl | omega | (split <;> first | rfl | omega | (split <;> first | rfl | omega))]
    have d0 : decide (t ≤ f) = true := decide_eq_true c0
    have e0 : decide (f < t) = false := decide_eq_false (by omega)
    go_enter Try.func76, Try.ntmps76
    go_wp2_with (first | refine wpList_load_bk (by rfl) 23 _ rfl _ _ rfl x _ (RB) Try.underlying23 rfl (by kernel_rfl) ?_ | (go_at_call 23; (with_reducible refine (C1 _).mono ?_); rintro e w1 ⟨rfl, hb1⟩; obtain ⟨hc1, hf1⟩ := bcell hb1; have hz1 := hb1.size; (try simp at hz1); have hl1 : w.heap.size + 1 < w1.heap.size := (by omega)))
    go_ret
    refine ⟨rfl, ?_⟩
    (repeat (first | exact Below.refl _ _ | (refine b_st ?_ (by first | (simp; done) | (simp; omega))) | (refine b_al ?_ (Nat.le_refl _) _) | refine b_dn ?_ | refine b_dr ?_ | (refine b_cl ?_ (Nat.le_refl _) (by assumption))))
  have n0 : f < t := by omega
  have d0 : decide (t ≤ f) = false := decide_eq_false c0
  have e0 : decide (f < t) = true := decide_eq_true (by omega)
  clear c0
  by_cases c1 : f < 0
  case pos =>
    rw [show (if t ≤ f then (3 : Int) else if f < 0 ∨ 40320 < t then 4 else if dawn < 0 ∨ f < dawn then 1 else 0) = 4 by split <;> first | rfl | omega | (split <;> first | rfl | omega | (split <;> first | rfl | omega))]
    have d1 : decide (f < 0) = true := decide_eq_true c1
    skip
    go_enter Try.func76, Try.ntmps76
    go_wp2_with (first | refine wpList_load_bk (by rfl) 23 _ rfl _ _ rfl x _ (RB) Try.underlying23 rfl (by kernel_rfl) ?_ | (go_at_call 23; (with_reducible refine (C1 _).mono ?_); rintro e w1 ⟨rfl, hb1⟩; obtain ⟨hc1, hf1⟩ := bcell hb1; have hz1 := hb1.size; (try simp at hz1); have hl1 : w.heap.size + 1 < w1.heap.size := (by omega)))
    go_ret
    refine ⟨rfl, ?_⟩
    (repeat (first | exact Below.refl _ _ | (refine b_st ?_ (by first | (simp; done) | (simp; omega))) | (refine b_al ?_ (Nat.le_refl _) _) | refine b_dn ?_ | refine b_dr ?_ | (refine b_cl ?_ (Nat.le_refl _) (by assumption))))
  have n1 : 0 ≤ f := by omega
  have d1 : decide (f < 0) = false := decide_eq_false c1
  skip
  clear c1
  by_cases c2 : 40320 < t
  case pos =>
    rw [show (if t ≤ f then (3 : Int) else if f < 0 ∨ 40320 < t then 4 else if dawn < 0 ∨ f < dawn then 1 else 0) = 4 by split <;> first | rfl | omega | (split <;> first | rfl | omega | (split <;> first | rfl | omega))]
    have d2 : decide (40320 < t) = true := decide_eq_true c2
    skip
    go_enter Try.func76, Try.ntmps76
    go_wp2_with (first | refine wpList_load_bk (by rfl) 23 _ rfl _ _ rfl x _ (RB) Try.underlying23 rfl (by kernel_rfl) ?_ | (go_at_call 23; (with_reducible refine (C1 _).mono ?_); rintro e w1 ⟨rfl, hb1⟩; obtain ⟨hc1, hf1⟩ := bcell hb1; have hz1 := hb1.size; (try simp at hz1); have hl1 : w.heap.size + 1 < w1.heap.size := (by omega)))
    go_ret
    refine ⟨rfl, ?_⟩
    (repeat (first | exact Below.refl _ _ | (refine b_st ?_ (by first | (simp; done) | (simp; omega))) | (refine b_al ?_ (Nat.le_refl _) _) | refine b_dn ?_ | refine b_dr ?_ | (refine b_cl ?_ (Nat.le_refl _) (by assumption))))
  have n2 : t ≤ 40320 := by omega
  have d2 : decide (40320 < t) = false := decide_eq_false c2
  skip
  clear c2
  by_cases c3 : dawn < 0
  case pos =>
    rw [show (if t ≤ f then (3 : Int) else if f < 0 ∨ 40320 < t then 4 else if dawn < 0 ∨ f < dawn then 1 else 0) = 1 by split <;> first | rfl | omega | (split <;> first | rfl | omega | (split <;> first | rfl | omega))]
    have d3 : decide (dawn < 0) = true := decide_eq_true c3
    skip
    go_enter Try.func76, Try.ntmps76
    go_wp2_with (first | refine wpList_load_bk (by rfl) 23 _ rfl _ _ rfl x _ (RB) Try.underlying23 rfl (by kernel_rfl) ?_ | (go_at_call 23; (with_reducible refine (C1 _).mono ?_); rintro e w1 ⟨rfl, hb1⟩; obtain ⟨hc1, hf1⟩ := bcell hb1; have hz1 := hb1.size; (try simp at hz1); have hl1 : w.heap.size + 1 < w1.heap.size := (by omega)))
    go_ret
    refine ⟨rfl, ?_⟩
    (repeat (first | exact Below.refl _ _ | (refine b_st ?_ (by first | (simp; done) | (simp; omega))) | (refine b_al ?_ (Nat.le_refl _) _) | refine b_dn ?_ | refine b_dr ?_ | (refine b_cl ?_ (Nat.le_refl _) (by assumption))))
  have n3 : 0 ≤ dawn := by omega
  have d3 : decide (dawn < 0) = false := decide_eq_false c3
  skip
  clear c3
  by_cases c4 : f < dawn
  case pos =>
    rw [show (if t ≤ f then (3 : Int) else if f < 0 ∨ 40320 < t then 4 else if dawn < 0 ∨ f < dawn then 1 else 0) = 1 by split <;> first | rfl | omega | (split <;> first | rfl | omega | (split <;> first | rfl | omega))]
    have d4 : decide (f < dawn) = true := decide_eq_true c4
    skip
    go_enter Try.func76, Try.ntmps76
    go_wp2_with (first | refine wpList_load_bk (by rfl) 23 _ rfl _ _ rfl x _ (RB) Try.underlying23 rfl (by kernel_rfl) ?_ | (go_at_call 23; (with_reducible refine (C1 _).mono ?_); rintro e w1 ⟨rfl, hb1⟩; obtain ⟨hc1, hf1⟩ := bcell hb1; have hz1 := hb1.size; (try simp at hz1); have hl1 : w.heap.size + 1 < w1.heap.size := (by omega)))
    go_ret
    refine ⟨rfl, ?_⟩
    (repeat (first | exact Below.refl _ _ | (refine b_st ?_ (by first | (simp; done) | (simp; omega))) | (refine b_al ?_ (Nat.le_refl _) _) | refine b_dn ?_ | refine b_dr ?_ | (refine b_cl ?_ (Nat.le_refl _) (by assumption))))
  have n4 : dawn ≤ f := by omega
  have d4 : decide (f < dawn) = false := decide_eq_false c4
  skip
  clear c4
  rw [show (if t ≤ f then (3 : Int) else if f < 0 ∨ 40320 < t then 4 else if dawn < 0 ∨ f < dawn then 1 else 0) = 0 by rw [if_neg (by omega), if_neg (by omega), if_neg (by omega)]]
  go_enter Try.func76, Try.ntmps76
  go_wp2_with (first | refine wpList_load_bk (by rfl) 23 _ rfl _ _ rfl x _ (RB) Try.underlying23 rfl (by kernel_rfl) ?_ | (go_at_call 23; (with_reducible refine (C1 _).mono ?_); rintro e w1 ⟨rfl, hb1⟩; obtain ⟨hc1, hf1⟩ := bcell hb1; have hz1 := hb1.size; (try simp at hz1); have hl1 : w.heap.size + 1 < w1.heap.size := (by omega)))
  go_ret
  refine ⟨rfl, ?_⟩
  (repeat (first | exact Below.refl _ _ | (refine b_st ?_ (by first | (simp; done) | (simp; omega))) | (refine b_al ?_ (Nat.le_refl _) _) | refine b_dn ?_ | refine b_dr ?_ | (refine b_cl ?_ (Nat.le_refl _) (by assumption))))

/-- The last minute with which a rest of n minutes can begin. -/
def lastV (x : Nat → Int) (dawn n : Int) : Int := max 0 (dawn + x 11 - n)
open Classical in
noncomputable def lastErr (x : Nat → Int) (dawn : Int) : Int := if May x then (if dawn < 0 ∨ 40320 < dawn then 1 else 0) else 14
theorem lastErr_no {x : Nat → Int} (dawn : Int) (h : ¬ May x) : lastErr x dawn = 14 := by unfold lastErr; rw [if_neg h]
theorem lastErr_yes {x : Nat → Int} (dawn : Int) (h : May x) : lastErr x dawn = if dawn < 0 ∨ 40320 < dawn then 1 else 0 := by unfold lastErr; rw [if_pos h]
theorem lastErr_ok {x : Nat → Int} {dawn : Int} : lastErr x dawn = 0 ↔ May x ∧ 0 ≤ dawn ∧ dawn ≤ 40320 := by
  by_cases h : May x
  · rw [lastErr_yes dawn h]
    constructor
    · intro e
      split at e
      · omega
      · exact ⟨h, by omega⟩
    · intro ⟨_, h⟩
      rw [if_neg (by omega)]
  · rw [lastErr_no dawn h]
    simp [h]
/-- What last hands back: the minute, or 0 and the error. -/
noncomputable def lastR (x : Nat → Int) (dawn n : Int) : Int := if lastErr x dawn = 0 then lastV x dawn n else 0

end Go.Proofs.Ytolbihfnogbjaaa

/- How Of of layer 12, and the document's, stand in the midst: the boxes, and what has been worked out so far. Conditions: none beyond each lemma's own premises. -/
namespace Go.Proofs.Ytolbihfnogbjaaa
open Go.RowKit

/-- The book lies in block g, the span in h, the result's variable in r, what is being worked out in c. -/
structure SpW (w : World) (g h r c : Nat) (T : TypeId) (x : Nat → Int) (f t : Int) (s : Wo) (W : World) : Prop where
  bel : Below w.heap.size w W
  lt : g < c ∧ h < c ∧ r < c ∧ w.heap.size ≤ c ∧ w.heap.size ≤ r
  bk : RdI W g 0 x
  sp0 : W.cell? ⟨h, 0, none⟩ = some (.int .i64 f)
  sp1 : W.cell? ⟨h, 1, none⟩ = some (.int .i64 t)
  res : Bx W r T (wo .zero)
  cur : Bx W c T (wo s)

theorem SpW.put {w : World} {g h r c : Nat} {T : TypeId} {x : Nat → Int} {f t : Int} {s : Wo} {W W' : World} (S : SpW w g h r c T x f t s W) {k : Nat} {b : Bool} (hk : k < 7) (u : Upd W c T ((wo s).setIfInBounds k (.bool b)) W') :
    SpW w g h r c T x f t (s.set k b) W' := by
  obtain ⟨l1, l2, l3, l4, l5⟩ := S.lt
  refine ⟨S.bel.trans (u.bel _ l4), S.lt, ⟨by rw [u.size]; exact S.bk.1, fun i hi => ?_⟩, ?_, ?_, u.bx S.res (by omega), ?_⟩
  · exact (u.cell (p := ⟨g, 0 + i, none⟩) (Nat.ne_of_lt l1)).trans (S.bk.2 i hi)
  · exact (u.cell (p := ⟨h, 0, none⟩) (Nat.ne_of_lt l2)).trans S.sp0
  · exact (u.cell (p := ⟨h, 1, none⟩) (Nat.ne_of_lt l2)).trans S.sp1
  · rw [← wo_set s k b hk]; exact u.box

theorem SpW.cast {w : World} {g h r c : Nat} {T : TypeId} {x : Nat → Int} {f t : Int} {s s' : Wo} {W : World} (S : SpW w g h r c T x f t s W) (e : s = s') : SpW w g h r c T x f t s' W := e ▸ S

theorem SpW.facts {w : World} {g h r c : Nat} {T : TypeId} {x : Nat → Int} {f t : Int} {a0 a1 a2 a3 a4 a5 a6 : Bool} {W : World} (S : SpW w g h r c T x f t ⟨a0, a1, a2, a3, a4, a5, a6⟩ W) :
    W.cell? ⟨g, 1, none⟩ = some (.int .i64 (x 1)) ∧ W.cell? ⟨g, 2, none⟩ = some (.int .i64 (x 2)) ∧ W.cell? ⟨g, 3, none⟩ = some (.int .i64 (x 3)) ∧ W.cell? ⟨g, 7, none⟩ = some (.int .i64 (x 7)) ∧ W.cell? ⟨g, 8, none⟩ = some (.int .i64 (x 8)) ∧ W.cell? ⟨g, 10, none⟩ = some (.int .i64 (x 10)) ∧ W.cell? ⟨g, 11, none⟩ = some (.int .i64 (x 11)) ∧ W.cell? ⟨g, 12, none⟩ = some (.int .i64 (x 12)) ∧ W.cell? ⟨g, 13, none⟩ = some (.int .i64 (x 13)) ∧ W.cell? ⟨c, 0, none⟩ = some (.bool a0) ∧ W.cell? ⟨c, 1, none⟩ = some (.bool a1) ∧ W.cell? ⟨c, 2, none⟩ = some (.bool a2) ∧ W.cell? ⟨c, 3, none⟩ = some (.bool a3) ∧ W.cell? ⟨c, 4, none⟩ = some (.bool a4) ∧ W.cell? ⟨c, 5, none⟩ = some (.bool a5) ∧ W.cell? ⟨c, 6, none⟩ = some (.bool a6) := by
  have hb : ∀ i, i < 19 → W.cell? ⟨g, i, none⟩ = some (.int .i64 (x i)) := fun i hi => by have := S.bk.2 i hi; rwa [Nat.zero_add] at this
  exact ⟨hb 1 (by omega), hb 2 (by omega), hb 3 (by omega), hb 7 (by omega), hb 8 (by omega), hb 10 (by omega), hb 11 (by omega), hb 12 (by omega), hb 13 (by omega), S.cur.cell rfl, S.cur.cell rfl, S.cur.cell rfl, S.cur.cell rfl, S.cur.cell rfl, S.cur.cell rfl, S.cur.cell rfl⟩

theorem SpW.put0 {w : World} {g h r c : Nat} {T : TypeId} {x : Nat → Int} {f t : Int} {a0 a1 a2 a3 a4 a5 a6 b : Bool} {W W' : World} (S : SpW w g h r c T x f t ⟨a0, a1, a2, a3, a4, a5, a6⟩ W) (u : Upd W c T ((wo ⟨a0, a1, a2, a3, a4, a5, a6⟩).setIfInBounds 0 (.bool b)) W') :
    SpW w g h r c T x f t ⟨b, a1, a2, a3, a4, a5, a6⟩ W' := S.put (k := 0) (by omega) u

theorem SpW.put1 {w : World} {g h r c : Nat} {T : TypeId} {x : Nat → Int} {f t : Int} {a0 a1 a2 a3 a4 a5 a6 b : Bool} {W W' : World} (S : SpW w g h r c T x f t ⟨a0, a1, a2, a3, a4, a5, a6⟩ W) (u : Upd W c T ((wo ⟨a0, a1, a2, a3, a4, a5, a6⟩).setIfInBounds 1 (.bool b)) W') :
    SpW w g h r c T x f t ⟨a0, b, a2, a3, a4, a5, a6⟩ W' := S.put (k := 1) (by omega) u

theorem SpW.put2 {w : World} {g h r c : Nat} {T : TypeId} {x : Nat → Int} {f t : Int} {a0 a1 a2 a3 a4 a5 a6 b : Bool} {W W' : World} (S : SpW w g h r c T x f t ⟨a0, a1, a2, a3, a4, a5, a6⟩ W) (u : Upd W c T ((wo ⟨a0, a1, a2, a3, a4, a5, a6⟩).setIfInBounds 2 (.bool b)) W') :
    SpW w g h r c T x f t ⟨a0, a1, b, a3, a4, a5, a6⟩ W' := S.put (k := 2) (by omega) u

theorem SpW.put3 {w : World} {g h r c : Nat} {T : TypeId} {x : Nat → Int} {f t : Int} {a0 a1 a2 a3 a4 a5 a6 b : Bool} {W W' : World} (S : SpW w g h r c T x f t ⟨a0, a1, a2, a3, a4, a5, a6⟩ W) (u : Upd W c T ((wo ⟨a0, a1, a2, a3, a4, a5, a6⟩).setIfInBounds 3 (.bool b)) W') :
    SpW w g h r c T x f t ⟨a0, a1, a2, b, a4, a5, a6⟩ W' := S.put (k := 3) (by omega) u

theorem SpW.put4 {w : World} {g h r c : Nat} {T : TypeId} {x : Nat → Int} {f t : Int} {a0 a1 a2 a3 a4 a5 a6 b : Bool} {W W' : World} (S : SpW w g h r c T x f t ⟨a0, a1, a2, a3, a4, a5, a6⟩ W) (u : Upd W c T ((wo ⟨a0, a1, a2, a3, a4, a5, a6⟩).setIfInBounds 4 (.bool b)) W') :
    SpW w g h r c T x f t ⟨a0, a1, a2, a3, b, a5, a6⟩ W' := S.put (k := 4) (by omega) u

theorem SpW.put5 {w : World} {g h r c : Nat} {T : TypeId} {x : Nat → Int} {f t : Int} {a0 a1 a2 a3 a4 a5 a6 b : Bool} {W W' : World} (S : SpW w g h r c T x f t ⟨a0, a1, a2, a3, a4, a5, a6⟩ W) (u : Upd W c T ((wo ⟨a0, a1, a2, a3, a4, a5, a6⟩).setIfInBounds 5 (.bool b)) W') :
    SpW w g h r c T x f t ⟨a0, a1, a2, a3, a4, b, a6⟩ W' := S.put (k := 5) (by omega) u

theorem SpW.put6 {w : World} {g h r c : Nat} {T : TypeId} {x : Nat → Int} {f t : Int} {a0 a1 a2 a3 a4 a5 a6 b : Bool} {W W' : World} (S : SpW w g h r c T x f t ⟨a0, a1, a2, a3, a4, a5, a6⟩ W) (u : Upd W c T ((wo ⟨a0, a1, a2, a3, a4, a5, a6⟩).setIfInBounds 6 (.bool b)) W') :
    SpW w g h r c T x f t ⟨a0, a1, a2, a3, a4, a5, b⟩ W' := S.put (k := 6) (by omega) u

end Go.Proofs.Ytolbihfnogbjaaa

/- What Last of windows returns, and what the document says of Check and Last, of any slice of spans that can be read. Conditions: as each theorem says. -/
namespace Go.Proofs.Ytolbihfnogbjaaa
open Go.RowKit

set_option maxHeartbeats 1600000 in
theorem refcheck18_any (A : Option Addr) (c : Nat) (l : List Sp) (w : World) (h : RdS w A l) (hl : l.length ≤ 4611686018427387904) :
    Calls Try.prog 32 #[.slice A l.length c] w fun e w' => e = .returned (.int .i64 (checkW l)) ∧ Below w.heap.size w w' := by
  by_cases h0 : l.length = 0
  · have h0' : ((l.length : Int) == 0) = true := by simp [h0]
    rw [check_none h0]
    go_enter Try.func32, Try.ntmps32
    go_wp2
    go_ret
    exact ⟨rfl, Below.refl _ _⟩
  · have h0' : ((l.length : Int) == 0) = false := by simp [h0]
    by_cases h8 : 8 < l.length
    · have h8' : (8 : Int) < (l.length : Int) := by omega
      rw [check_many h8]
      go_enter Try.func32, Try.ntmps32
      go_wp2
      go_ret
      exact ⟨rfl, Below.refl _ _⟩
    · have h8' : ¬ (8 : Int) < (l.length : Int) := by omega
      go_enter Try.func32, Try.ntmps32
      go_wp2
      go_loopw [3] (fun i wr => ∃ k : Nat, k ≤ l.length ∧ i = .int .i64 k ∧ Below w.heap.size w wr ∧ Hid (∀ j, j < k → wrongS (l.getD j (0, 0)) = false)) (fun i _ => l.length - (intOf i).toNat)
      case atStart => exact ⟨0, Nat.zero_le _, rfl, Below.refl _ _, Lib.hid (by omega)⟩
      case round =>
        obtain ⟨k, hk, rfl, hb, hn⟩ := hrel
        have hsz := hb.size
        by_cases hlt : k < l.length
        · obtain ⟨b, off, x, y, rfl, hbb, hc1, hc2, hs⟩ := h.at_ hlt
          rw [← hb.cell (p := ⟨b, _, none⟩) hbb] at hc1 hc2
          have hbr : b < wr.heap.size := by omega
          by_cases hxy : x < y
          · have HW := Lib.hid (show wrongS (l.getD k (0, 0)) = false by rw [hs.out]; unfold wrongS; simp [hxy])
            go_wp2_with (go_at_call 44; refine (refright_yes _ _ _ hxy).mono ?_; rintro e w1 ⟨rfl, hb1⟩; obtain ⟨hc1, hf1⟩ := bcell hb1; have hz1 := hb1.size; (try simp at hz1))
            go_roundw
            case rel => exact ⟨k + 1, by omega, by go_num, by ((repeat (first | exact Below.refl _ _ | (refine b_st ?_ (by first | (simp; done) | (simp; omega))) | (refine b_al ?_ (Nat.le_refl _) _) | refine b_dn ?_ | refine b_dr ?_ | (refine b_cl ?_ (Nat.le_refl _) (by assumption))))), Lib.hid (fun j hj => by
              by_cases e : j = k
              · subst e; exact HW.out
              · exact hn.out j (by omega))⟩
            case measure => simp [intOf]; omega
          · have HW := Lib.hid (show wrongS (l.getD k (0, 0)) = true by rw [hs.out]; unfold wrongS; simp [hxy])
            go_wp2_with (go_at_call 44; refine (refright_no _ _ _ hxy).mono ?_; rintro e w1 ⟨rfl, hb1⟩; obtain ⟨hc1, hf1⟩ := bcell hb1; have hz1 := hb1.size; (try simp at hz1))
            go_ret
            refine ⟨?_, by ((repeat (first | exact Below.refl _ _ | (refine b_st ?_ (by first | (simp; done) | (simp; omega))) | (refine b_al ?_ (Nat.le_refl _) _) | refine b_dn ?_ | refine b_dr ?_ | (refine b_cl ?_ (Nat.le_refl _) (by assumption)))))⟩
            rw [check_wrong h0 h8 (any_at hlt HW.out)]; rfl
        · have HA := Lib.hid (any_none (p := wrongS) (by omega) hn.out)
          obtain ⟨w1, rfl⟩ : ∃ w1 : World, w1 = wr := ⟨_, rfl⟩
          clear hn
          go_wp2
          go_loopw [4] (fun i wr => ∃ k : Nat, k ≤ l.length ∧ i = .int .i64 k ∧ Below w.heap.size w wr ∧ Hid (∀ j, j < k → rangeS (l.getD j (0, 0)) = false)) (fun i _ => l.length - (intOf i).toNat)
          case atStart => exact ⟨0, Nat.zero_le _, rfl, hb, Lib.hid (by omega)⟩
          case round =>
            clear hb hsz
            obtain ⟨k, hk, rfl, hb, hn⟩ := hrel
            have hsz := hb.size
            by_cases hlt : k < l.length
            · obtain ⟨b, off, x, y, rfl, hbb, hc1, hc2, hs⟩ := h.at_ hlt
              rw [← hb.cell (p := ⟨b, _, none⟩) hbb] at hc1 hc2
              have hbr : b < wr.heap.size := by omega
              by_cases hx : x < 0
              · have HW := Lib.hid (show rangeS (l.getD k (0, 0)) = true by rw [hs.out]; unfold rangeS; simp [hx])
                have hd : decide (x < 0) = true := decide_eq_true hx
                go_wp2
                go_ret
                refine ⟨?_, by ((repeat (first | exact Below.refl _ _ | (refine b_st ?_ (by first | (simp; done) | (simp; omega))) | (refine b_al ?_ (Nat.le_refl _) _) | refine b_dn ?_ | refine b_dr ?_ | (refine b_cl ?_ (Nat.le_refl _) (by assumption)))))⟩
                rw [check_range h0 h8 HA.out (any_at hlt HW.out)]; rfl
              · have hd : decide (x < 0) = false := decide_eq_false hx
                by_cases hy : 40320 < y
                · have HW := Lib.hid (show rangeS (l.getD k (0, 0)) = true by rw [hs.out]; unfold rangeS; simp [hy])
                  have hd2 : decide (40320 < y) = true := decide_eq_true hy
                  go_wp2
                  go_ret
                  refine ⟨?_, by ((repeat (first | exact Below.refl _ _ | (refine b_st ?_ (by first | (simp; done) | (simp; omega))) | (refine b_al ?_ (Nat.le_refl _) _) | refine b_dn ?_ | refine b_dr ?_ | (refine b_cl ?_ (Nat.le_refl _) (by assumption)))))⟩
                  rw [check_range h0 h8 HA.out (any_at hlt HW.out)]; rfl
                · have HW := Lib.hid (show rangeS (l.getD k (0, 0)) = false by rw [hs.out]; unfold rangeS; simp; omega)
                  have hd2 : decide (40320 < y) = false := decide_eq_false hy
                  go_wp2
                  go_roundw
                  case rel => exact ⟨k + 1, by omega, by go_num, by ((repeat (first | exact Below.refl _ _ | (refine b_st ?_ (by first | (simp; done) | (simp; omega))) | (refine b_al ?_ (Nat.le_refl _) _) | refine b_dn ?_ | refine b_dr ?_ | (refine b_cl ?_ (Nat.le_refl _) (by assumption))))), Lib.hid (fun j hj => by
                    by_cases e : j = k
                    · subst e; exact HW.out
                    · exact hn.out j (by omega))⟩
                  case measure => simp [intOf]; omega
            · have HA2 := Lib.hid (any_none (p := rangeS) (by omega) hn.out)
              have CR := fun W (h : RdS W A l) => refrightl_any A c l W h hl
              obtain ⟨g, hg⟩ : ∃ g, rightB l = g := ⟨_, rfl⟩
              rw [hg] at CR
              have HG := Lib.hid hg
              clear hg
              cases g with
              | false =>
                go_wp2_with (go_at_call 45; refine (CR _ (h.below (hb.mono (Nat.le_refl _)))).mono ?_; rintro e w2 ⟨rfl, hb2⟩)
                go_ret
                refine ⟨?_, by ((repeat (first | exact Below.refl _ _ | (refine b_st ?_ (by first | (simp; done) | (simp; omega))) | (refine b_al ?_ (Nat.le_refl _) _) | refine b_dn ?_ | refine b_dr ?_ | (refine b_cl ?_ (Nat.le_refl _) (by assumption)))))⟩
                rw [check_over h0 h8 HA.out HA2.out HG.out]; rfl
              | true =>
                go_wp2_with (go_at_call 45; refine (CR _ (h.below (hb.mono (Nat.le_refl _)))).mono ?_; rintro e w2 ⟨rfl, hb2⟩)
                go_ret
                refine ⟨?_, by ((repeat (first | exact Below.refl _ _ | (refine b_st ?_ (by first | (simp; done) | (simp; omega))) | (refine b_al ?_ (Nat.le_refl _) _) | refine b_dn ?_ | refine b_dr ?_ | (refine b_cl ?_ (Nat.le_refl _) (by assumption)))))⟩
                rw [check_right h0 h8 HA.out HA2.out HG.out]; rfl

end Go.Proofs.Ytolbihfnogbjaaa
