/- The library's heap over a pile: up, down, Init. Conditions: the pile lies as it is told. -/
import Derived.Test.YtpfmkggnnilknaaRows
import Derived.Test.YtpfmkggnnilknaaBase
import Derived.Test.YtpfmkggnnilknaaRow
import Derived.Test.YtpfmkggnnilknaaRecMath
import Derived.Test.YtpfmkggnnilknaaTriLt
import Derived.Test.YtpfmkggnnilknaaBox
import Derived.Test.YtpfmkggnnilknaaFindHeap
import Derived.Test.YtpfmkggnnilknaaTriHeap
import Derived.Test.YtpfmkggnnilknaaHeapMath
import Derived.Test.YtpfmkggnnilknaaHeapHeap
import Derived.Test.YtpfmkggnnilknaaHeapLeaf
import Derived.Test.YtpfmkggnnilknaaHeapPile
import Derived.WalkKit
import Derived.WalkSpells
import Derived.WalkSmall
import Derived.Below
import Derived.Lib.Hide
import Derived.BigQuiet
import Derived.BigRegion
import Derived.Outline
import Derived.OwnWalk
import Derived.Deep.QuietTactic
import Derived.Deep.DeepCutAuto
import Derived.Deep.RegionWith
import Derived.Deep.LoopGhost
namespace Go.Proofs.Ytpfmkggnnilknaa
open Go.RowKit

/-- A pile as the library is handed it. -/
def plV (g : Nat) : Value := .iface 46 (.pointer (some ⟨g, 0, none⟩))

theorem m_len (a : Addr) (k : Nat) (w : World) : (method (k + 1) 46 (.pointer (some a)) "Len").run Try.prog w = .ok (41, .pointer (some a)) w := by kernel_rfl
theorem m_less (a : Addr) (k : Nat) (w : World) : (method (k + 1) 46 (.pointer (some a)) "Less").run Try.prog w = .ok (42, .pointer (some a)) w := by kernel_rfl
theorem m_swap (a : Addr) (k : Nat) (w : World) : (method (k + 1) 46 (.pointer (some a)) "Swap").run Try.prog w = .ok (45, .pointer (some a)) w := by kernel_rfl
theorem m_push (a : Addr) (k : Nat) (w : World) : (method (k + 1) 46 (.pointer (some a)) "Push").run Try.prog w = .ok (44, .pointer (some a)) w := by kernel_rfl
theorem m_pop (a : Addr) (k : Nat) (w : World) : (method (k + 1) 46 (.pointer (some a)) "Pop").run Try.prog w = .ok (43, .pointer (some a)) w := by kernel_rfl

set_option maxHeartbeats 1600000 in
theorem up23_any {w : World} {g b : Nat} {l : List Rc} (h : Pl w g b l) (hl : l.length ≤ 1000000000000) (j : Nat) (hj : j < l.length) (hu : UpI l.length j l) :
    Calls Try.prog 22 #[plV g, .int .i64 (j : Int)] w fun e w' => e = .returned (.tuple #[]) ∧ ∃ l', l'.Perm l ∧ HpL l' ∧ Pl w' g b l' ∧ Mv w g b b w' := by
  unfold plV
  go_enter Try.func22, Try.ntmps22
  go_wp2
  go_loopw [1] (fun s1 wr => ∃ (k : Nat) (o : List Rc), s1 = .int .i64 k ∧ Hid (o.Perm l ∧ k < o.length ∧ UpI o.length k o) ∧ k < l.length ∧ Hid (Pl wr g b o ∧ Mv w g b b wr)) (fun s1 _ => (intOf s1).toNat)
  case atStart => exact ⟨j, l, rfl, Lib.hid ⟨List.Perm.refl _, hj, hu⟩, hj, Lib.hid ⟨h, Mv.refl _ _ _⟩⟩
  case round =>
    obtain ⟨k, o, rfl, HI, hk, HP⟩ := hrel
    obtain ⟨hp, hko, hui⟩ := HI.out
    obtain ⟨P, M⟩ := HP.out
    have HM := Lib.hid M
    have HH := Lib.hid hp
    have hol : o.length = l.length := hp.length_eq
    clear HI HP M hp
    have ml := m_less ⟨g, 0, none⟩
    have ms := m_swap ⟨g, 0, none⟩
    by_cases hk0 : k = 0
    · subst hk0
      have HE := Lib.hid (hui.done fun h => absurd h (by omega))
      have HPP := Lib.hid P
      have d0 : ((0 : Int) - 1).tdiv 2 = 0 := by decide
      clear hui P hko
      go_wp2
      refine bodyPost_end (results_none Try.results22 _ _ _) rfl ⟨rfl, ?_⟩
      exact ⟨o, HH.out, HE.out, HPP.out, HM.out⟩
    obtain ⟨m, hm⟩ : ∃ m : Nat, (k - 1) / 2 = m := ⟨_, rfl⟩
    have hmk : m < k := by omega
    have d0 : ((k : Int) - 1).tdiv 2 = (m : Int) := by
      rw [Int.tdiv_eq_ediv_of_nonneg (by omega)]; omega
    have d1 : ((m : Int) == (k : Int)) = false := by simp; omega
    have CL := pless23_any P k m hko (by omega)
    by_cases hlt : ltF (o.getD k rz) (o.getD m rz)
    · rw [decide_eq_true hlt] at CL
      have CS := fun W (hb : Below wr.heap.size wr W) => pswap23_any (P.below hb) m k (by omega) hko
      have HU := Lib.hid (UpI.step hui (Nat.le_refl _) (by omega) hko hm hlt)
      have HS := Lib.hid (sw_perm o (i := m) (j := k) (by omega) hko)
      clear hlt hui P hm
      go_wp2_with (first
        | (go_at_call 42; refine CL.mono ?_; rintro e w1 ⟨rfl, hb1⟩; have HB1 := Lib.hid hb1; clear hb1)
        | (go_at_call 45; refine (CS _ HB1.out).mono ?_; rintro e w2 ⟨rfl, p2, m2⟩; have P2 := Lib.hid p2; have M2 := Lib.hid m2; clear p2 m2))
      go_roundw
      case rel => exact ⟨m, sw o m k, rfl, Lib.hid ⟨HS.out.trans HH.out, by rw [sw_len]; omega, by rw [sw_len]; exact HU.out⟩, by omega, Lib.hid ⟨P2.out, (HM.out.below HB1.out).trans M2.out⟩⟩
      case measure => simp [intOf]; omega
    · rw [decide_eq_false hlt] at CL
      have HE := Lib.hid (hui.done fun _ => by rw [hm]; exact hlt)
      have HPP := Lib.hid P
      clear hlt hui P hm
      go_wp2_with (go_at_call 42; refine CL.mono ?_; rintro e w1 ⟨rfl, hb1⟩; have HB1 := Lib.hid hb1; clear hb1)
      refine bodyPost_end (results_none Try.results22 _ _ _) rfl ⟨rfl, ?_⟩
      exact ⟨o, HH.out, HE.out, HPP.out.below HB1.out, HM.out.below HB1.out⟩

theorem kid_is {i k : Nat} (h0 : 0 < k) (h : (k - 1) / 2 = i) : k = 2 * i + 1 ∨ k = 2 * i + 2 := by omega

theorem sw_behind {l : List Rc} {i j n k : Nat} (hi : i < n) (hj : j < n) (hk : n ≤ k) : (sw l i j).getD k rz = l.getD k rz := by
  unfold sw
  simp only [List.getD_eq_getElem?_getD, List.getElem?_set]
  rw [if_neg (by omega), if_neg (by omega)]

set_option maxHeartbeats 3200000 in
theorem down23_any {w : World} {g b : Nat} {l : List Rc} (h : Pl w g b l) (hl : l.length ≤ 1000000000000) (s i n : Nat) (hi : i ≤ n) (hn : n ≤ l.length) (hd : DnI s n i l) :
    Calls Try.prog 23 #[plV g, .int .i64 (i : Int), .int .i64 (n : Int)] w fun e w' => (∃ r, e = .returned (.bool r)) ∧ ∃ l', l'.Perm l ∧ HpT s n l' ∧ (∀ k, n ≤ k → l'.getD k rz = l.getD k rz) ∧ Pl w' g b l' ∧ Mv w g b b w' := by
  unfold plV
  go_enter Try.func23, Try.ntmps23
  go_wp2
  go_loopw [7] (fun s1 wr => ∃ (k : Nat) (o : List Rc), s1 = .int .i64 k ∧ k ≤ n ∧ Hid (o.Perm l ∧ DnI s n k o ∧ ∀ k, n ≤ k → o.getD k rz = l.getD k rz) ∧ Hid (Pl wr g b o ∧ Mv w g b b wr)) (fun s1 _ => n - (intOf s1).toNat)
  case atStart => exact ⟨i, l, rfl, hi, Lib.hid ⟨List.Perm.refl _, hd, fun _ _ => rfl⟩, Lib.hid ⟨h, Mv.refl _ _ _⟩⟩
  case round =>
    obtain ⟨k, o, rfl, hk, HI, HP⟩ := hrel
    obtain ⟨hp, hdi, hbh⟩ := HI.out
    obtain ⟨P, M⟩ := HP.out
    have HM := Lib.hid M
    have HH := Lib.hid hp
    have HBH := Lib.hid hbh
    have hol : o.length = l.length := hp.length_eq
    clear HI HP M hp hbh h hd
    have ml := m_less ⟨g, 0, none⟩
    have ms := m_swap ⟨g, 0, none⟩
    obtain ⟨j1, hj1⟩ : ∃ j1 : Nat, 2 * k + 1 = j1 := ⟨_, rfl⟩
    have z1 : 2 * (k : Int) + 1 = (j1 : Int) := by omega
    have z2 : 2 * (k : Int) ≤ 2000000000000 := by omega
    have z0 : 0 ≤ 2 * (k : Int) := by omega
    by_cases hout : n ≤ j1
    · have HE := Lib.hid (hdi.done fun q q0 qn qe => by have := kid_is q0 qe; omega)
      have HPP := Lib.hid P
      clear hdi P hj1
      go_wp2
      go_ret
      exact ⟨⟨_, rfl⟩, o, HH.out, HE.out, HBH.out, HPP.out, HM.out⟩
    have hj1n : j1 < n := by omega
    have y1 : (j1 : Int) < (n : Int) := by omega
    clear hout
    obtain ⟨j2, hj2⟩ : ∃ j2 : Nat, j1 + 1 = j2 := ⟨_, rfl⟩
    have z3 : (j1 : Int) + 1 = (j2 : Int) := by omega
    by_cases hj2n : j2 < n
    · have y2 : (j2 : Int) < (n : Int) := by omega
      have C0 := pless23_any P j2 j1 (by omega) (by omega)
      by_cases h21 : ltF (o.getD j2 rz) (o.getD j1 rz)
      · rw [decide_eq_true h21] at C0
        have HC : Hid (∀ q, 0 < q → q < n → (q - 1) / 2 = k → ¬ ltF (o.getD q rz) (o.getD j2 rz)) := Lib.hid (fun q q0 qn qe => by
          rcases kid_is q0 qe with e | e
          · rw [e, hj1]; exact ltF_as h21
          · rw [e, show 2 * k + 2 = j2 by omega]; exact ltF_irr _)
        clear h21
        have CL := fun W (hb : Below wr.heap.size wr W) => pless23_any (P.below hb) j2 k (by omega) (by omega)
        by_cases hlt : ltF (o.getD j2 rz) (o.getD k rz)
        · simp only [decide_eq_true hlt] at CL
          have CS := fun W (hb : Below wr.heap.size wr W) => pswap23_any (P.below hb) k j2 (by omega) (by omega)
          have HU := Lib.hid (DnI.step hdi (by omega) (by omega) (by omega) (by omega) hlt HC.out)
          have HS := Lib.hid (sw_perm o (i := k) (j := j2) (by omega) (by omega))
          have HSB := Lib.hid fun q (hq : n ≤ q) => sw_behind (l := o) (i := k) (j := j2) (n := n) (by omega) (by omega) hq
          clear hlt hdi P HC hj1 hj2
          go_wp2_with (first
            | (go_at_call 42; (with_reducible refine C0.mono ?_); rintro e w0 ⟨rfl, hb0⟩; have HB0 := Lib.hid hb0; clear hb0)
            | (go_at_call 42; refine (CL _ HB0.out).mono ?_; rintro e w1 ⟨rfl, hb1⟩; have HB1 := Lib.hid (b_tr HB0.out hb1); clear hb1)
            | (go_at_call 45; refine (CS _ HB1.out).mono ?_; rintro e w2 ⟨rfl, p2, m2⟩; have P2 := Lib.hid p2; have M2 := Lib.hid m2; clear p2 m2))
          go_roundw
          case rel => exact ⟨j2, sw o k j2, rfl, by omega, Lib.hid ⟨HS.out.trans HH.out, HU.out, fun q hq => (HSB.out q hq).trans (HBH.out q hq)⟩, Lib.hid ⟨P2.out, (HM.out.below HB1.out).trans M2.out⟩⟩
          case measure => simp [intOf]; omega
        · simp only [decide_eq_false hlt] at CL
          have HE := Lib.hid (hdi.done fun q q0 qn qe => ltF_nt (HC.out q q0 qn qe) hlt)
          have HPP := Lib.hid P
          clear hlt hdi P HC hj1 hj2
          go_wp2_with (first
            | (go_at_call 42; (with_reducible refine C0.mono ?_); rintro e w0 ⟨rfl, hb0⟩; have HB0 := Lib.hid hb0; clear hb0)
            | (go_at_call 42; refine (CL _ HB0.out).mono ?_; rintro e w1 ⟨rfl, hb1⟩; have HB1 := Lib.hid (b_tr HB0.out hb1); clear hb1))
          go_ret
          exact ⟨⟨_, rfl⟩, o, HH.out, HE.out, HBH.out, HPP.out.below HB1.out, HM.out.below HB1.out⟩
      · rw [decide_eq_false h21] at C0
        have HC : Hid (∀ q, 0 < q → q < n → (q - 1) / 2 = k → ¬ ltF (o.getD q rz) (o.getD j1 rz)) := Lib.hid (fun q q0 qn qe => by
          rcases kid_is q0 qe with e | e
          · rw [e, hj1]; exact ltF_irr _
          · rw [e, show 2 * k + 2 = j2 by omega]; exact h21)
        clear h21
        have CL := fun W (hb : Below wr.heap.size wr W) => pless23_any (P.below hb) j1 k (by omega) (by omega)
        by_cases hlt : ltF (o.getD j1 rz) (o.getD k rz)
        · simp only [decide_eq_true hlt] at CL
          have CS := fun W (hb : Below wr.heap.size wr W) => pswap23_any (P.below hb) k j1 (by omega) (by omega)
          have HU := Lib.hid (DnI.step hdi (by omega) (by omega) (by omega) (by omega) hlt HC.out)
          have HS := Lib.hid (sw_perm o (i := k) (j := j1) (by omega) (by omega))
          have HSB := Lib.hid fun q (hq : n ≤ q) => sw_behind (l := o) (i := k) (j := j1) (n := n) (by omega) (by omega) hq
          clear hlt hdi P HC hj1 hj2
          go_wp2_with (first
            | (go_at_call 42; (with_reducible refine C0.mono ?_); rintro e w0 ⟨rfl, hb0⟩; have HB0 := Lib.hid hb0; clear hb0)
            | (go_at_call 42; refine (CL _ HB0.out).mono ?_; rintro e w1 ⟨rfl, hb1⟩; have HB1 := Lib.hid (b_tr HB0.out hb1); clear hb1)
            | (go_at_call 45; refine (CS _ HB1.out).mono ?_; rintro e w2 ⟨rfl, p2, m2⟩; have P2 := Lib.hid p2; have M2 := Lib.hid m2; clear p2 m2))
          go_roundw
          case rel => exact ⟨j1, sw o k j1, rfl, by omega, Lib.hid ⟨HS.out.trans HH.out, HU.out, fun q hq => (HSB.out q hq).trans (HBH.out q hq)⟩, Lib.hid ⟨P2.out, (HM.out.below HB1.out).trans M2.out⟩⟩
          case measure => simp [intOf]; omega
        · simp only [decide_eq_false hlt] at CL
          have HE := Lib.hid (hdi.done fun q q0 qn qe => ltF_nt (HC.out q q0 qn qe) hlt)
          have HPP := Lib.hid P
          clear hlt hdi P HC hj1 hj2
          go_wp2_with (first
            | (go_at_call 42; (with_reducible refine C0.mono ?_); rintro e w0 ⟨rfl, hb0⟩; have HB0 := Lib.hid hb0; clear hb0)
            | (go_at_call 42; refine (CL _ HB0.out).mono ?_; rintro e w1 ⟨rfl, hb1⟩; have HB1 := Lib.hid (b_tr HB0.out hb1); clear hb1))
          go_ret
          exact ⟨⟨_, rfl⟩, o, HH.out, HE.out, HBH.out, HPP.out.below HB1.out, HM.out.below HB1.out⟩
    · have y2 : (n : Int) ≤ (j2 : Int) := by omega
      have HC : Hid (∀ q, 0 < q → q < n → (q - 1) / 2 = k → ¬ ltF (o.getD q rz) (o.getD j1 rz)) := Lib.hid (fun q q0 qn qe => by
        rcases kid_is q0 qe with e | e
        · rw [e, hj1]; exact ltF_irr _
        · omega)
      have CL := fun W (hb : Below wr.heap.size wr W) => pless23_any (P.below hb) j1 k (by omega) (by omega)
      by_cases hlt : ltF (o.getD j1 rz) (o.getD k rz)
      · simp only [decide_eq_true hlt] at CL
        have CS := fun W (hb : Below wr.heap.size wr W) => pswap23_any (P.below hb) k j1 (by omega) (by omega)
        have HU := Lib.hid (DnI.step hdi (by omega) (by omega) (by omega) (by omega) hlt HC.out)
        have HS := Lib.hid (sw_perm o (i := k) (j := j1) (by omega) (by omega))
        have HSB := Lib.hid fun q (hq : n ≤ q) => sw_behind (l := o) (i := k) (j := j1) (n := n) (by omega) (by omega) hq
        clear hlt hdi P HC hj1 hj2
        go_wp2_with (first
          | (go_at_call 42; refine (CL _ (Below.refl _ _)).mono ?_; rintro e w1 ⟨rfl, hb1⟩; have HB1 := Lib.hid (b_tr (Below.refl _ _) hb1); clear hb1)
          | (go_at_call 45; refine (CS _ HB1.out).mono ?_; rintro e w2 ⟨rfl, p2, m2⟩; have P2 := Lib.hid p2; have M2 := Lib.hid m2; clear p2 m2))
        go_roundw
        case rel => exact ⟨j1, sw o k j1, rfl, by omega, Lib.hid ⟨HS.out.trans HH.out, HU.out, fun q hq => (HSB.out q hq).trans (HBH.out q hq)⟩, Lib.hid ⟨P2.out, (HM.out.below HB1.out).trans M2.out⟩⟩
        case measure => simp [intOf]; omega
      · simp only [decide_eq_false hlt] at CL
        have HE := Lib.hid (hdi.done fun q q0 qn qe => ltF_nt (HC.out q q0 qn qe) hlt)
        have HPP := Lib.hid P
        clear hlt hdi P HC hj1 hj2
        go_wp2_with (first
          | (go_at_call 42; refine (CL _ (Below.refl _ _)).mono ?_; rintro e w1 ⟨rfl, hb1⟩; have HB1 := Lib.hid (b_tr (Below.refl _ _) hb1); clear hb1))
        go_ret
        exact ⟨⟨_, rfl⟩, o, HH.out, HE.out, HBH.out, HPP.out.below HB1.out, HM.out.below HB1.out⟩

end Go.Proofs.Ytpfmkggnnilknaa
