/- What Union of layer 3 returns: the set of what one of both lists has; the library's Concat of two slices on the way. Conditions: the spans can be read; at most some hundreds. -/
import Derived.Test.YtiaiehflhloefaaRows
import Derived.Test.YtiaiehflhloefaaBase
import Derived.Test.YtiaiehflhloefaaIvalsWords
import Derived.Test.YtiaiehflhloefaaIvalsOwn
import Derived.Test.YtiaiehflhloefaaIvalsMakeC
import Derived.Test.YtiaiehflhloefaaShelf
import Derived.WalkKit
import Derived.WalkSpells
import Derived.WalkSmall
import Derived.Below
import Derived.Outline
import Derived.OwnWalk
import Derived.Laws.AppendOwnNone
import Derived.Lib.Hide
namespace Go.Proofs.Ytiaiehflhloefaa
open Go.RowKit

theorem add_plain3 (b off i : Nat) : (⟨b, off, none⟩ : Addr).add i = ⟨b, off + i, none⟩ := by
  unfold Addr.add
  by_cases h : i = 0 <;> simp [h]

/-- The cells of a slice that reads as l, one by one. -/
theorem RdS.news {w : World} {ad : Addr} {l : List Sp} (h : RdS w (some ad) l) : ∀ j u, (flat l)[j]? = some u → w.cell? (ad.add j) = some u := by
  intro j u hu
  have hj : j < l.length * 2 := by
    rw [← flat_len]
    exact (List.getElem?_eq_some_iff.1 hu).1
  obtain ⟨b, off, hA, _, hc⟩ := h (ne_nil_of_lt (k := j / 2) (by omega))
  injection hA with hA
  subst hA
  have hk : j / 2 < l.length := by omega
  have hf := flat_get l (j / 2) hk
  have hcc := hc (j / 2) hk
  rw [add_plain3]
  rcases Nat.mod_two_eq_zero_or_one j with hm | hm
  · have e : j = j / 2 * 2 := by omega
    rw [e] at hu
    rw [hf.1] at hu
    injection hu with hu
    rw [e, ← hu]; exact hcc.1
  · have e : j = j / 2 * 2 + 1 := by omega
    rw [e] at hu
    rw [hf.2] at hu
    injection hu with hu
    rw [e, ← hu, ← Nat.add_assoc]; exact hcc.2

/-- An append of all spans of a slice, nil or not. -/
theorem append_spans {w : World} {ops : Array Oper} {rest : List Oper} {o : Oper} {a : Act} {Q : Exit → Act → World → Prop} (hgd : o.guard = none) (s x : Operand)
    (ho : o.op = .call { callee := .builtin .append, args := #[s, x], argTypes := #[22, 22] })
    (base : Nat) (v : Value) (l l2 : List Sp) (hs : a.eval s = v) (hown : Own base w v l) (A : Option Addr) (m c : Nat) (hx : a.eval x = .slice A m c) (hm : l2.length = m) (hr : RdS w A l2) (hnil : A = none → c = 0)
    (hb : l.length + m ≤ 100000) (hbase : base ≤ w.heap.size)
    (h : ∀ v' w', Own base w' v' (l ++ l2) → w.grownBy w' v.ownBlock → wpList Try.prog ops Q rest (a.put o.dst v') w') : wpList Try.prog ops Q (o :: rest) a w := by
  obtain ⟨i0, hi, hz0, hz1, hz2⟩ := info_parts info_span
  cases A with
  | none =>
    have e0 : l2 = [] := by
      rcases l2 with _ | ⟨s, r⟩
      · rfl
      · obtain ⟨b, off, hA, _⟩ := hr (by simp)
        cases hA
    subst e0
    have hm0 : m = 0 := hm.symm
    have hc0 := hnil rfl
    subst hm0 hc0
    refine wpList_append_own_none hgd s x 22 ho base 33 i0 2 Try.underlying22 hi v l.length (flat l) hs hown hx ?_
    exact h v w (by rw [List.append_nil]; exact hown) (World.grownBy.refl w _)
  | some ad =>
    refine wpList_append_own _ hgd s x 22 ho base 33 i0 (.agg #[.int .i64 0, .int .i64 0]) 2 16 Try.underlying22 hi hz0 hz1 hz2 rfl (by decide) v l.length (flat l) hs hown ad m c (flat l2) hx (by rw [flat_len, hm]) hr.news (fun u hu => flat_one hu) (by unfold maxLen; omega) (by omega) hbase ?_
    intro v' w' hown' hgrow _
    refine h v' w' ?_ hgrow
    unfold Own
    rw [flat_append, List.length_append, hm]
    exact hown'

theorem grow_nil (z : Int) (n : Nat) (hz : z = n) (hn : n ≤ 100000) (w : World) :
    Calls Try.prog 38 #[.slice none 0 0, .int .i64 z] w fun e w' => ∃ A c, e = .returned (.slice A 0 c) ∧ Own w.heap.size w' (.slice A 0 c) [] ∧ Below w.heap.size w w' := by
  subst hz
  obtain ⟨i0, hi, hz0, hz1, hz2⟩ := info_parts info_span
  rcases Nat.eq_zero_or_pos n with h0 | h0
  · subst h0
    exact (Any8.slices_Grow_room growL none 0 0 0 w (Nat.le_refl _) (by omega) (by omega) (Nat.le_refl _)).mono fun e w' ⟨he, hw⟩ => ⟨none, 0, he, Own.nil _ _, by rw [hw]; exact Below.refl _ _⟩
  · refine (Any8.slices_Grow_grow growL i0 (.agg #[.int .i64 0, .int .i64 0]) hi hz0 (by rw [hz1]; decide) none 0 0 n [] w (Nat.le_refl _) (by omega) (by rw [hz2]; omega) (by omega) (by simp) (fun _ => rfl) (fun a ha => by cases ha)).mono fun e w' ⟨he, hw⟩ => ⟨_, _, he, ?_, ?_⟩
    · rw [hw]
      have hG := grownCap_ge w (0 + n) 0 33
      have hM := grownCap_le_maxLen w (0 + n) 0 33 (by unfold maxLen; omega)
      refine World.ownsRow_made (base := w.heap.size) (e := 33) (size := 2) w.drew _ _ (Nat.le_refl _) hM ?_
      have hzc : (Value.agg #[.int .i64 0, .int .i64 0]).cells.size = 2 := rfl
      simp only [Array.size_append, size_zeroCells, hzc, List.size_toArray, List.length_nil]
      show 0 + (0 + n - 0) * 2 + (grownCap w (0 + n) 0 33 - (0 + n)) * 2 = grownCap w (0 + n) 0 33 * 2
      omega
    · rw [hw]; exact ((Below.refl _ _).drew).alloc (Nat.le_refl _) _

set_option maxHeartbeats 1600000 in
/-- slices.Concat of two slices of spans. -/
theorem concat_any (A B : Option Addr) (c d na nb g : Nat) (a b : List Sp) (w : World) (ha : RdS w A a) (hb : RdS w B b) (hna : a.length = na) (hnb : b.length = nb) (hca : A = none → c = 0) (hcb : B = none → d = 0)
    (h0 : w.cell? ⟨g, 0, none⟩ = some (.slice A na c)) (h1 : w.cell? ⟨g, 1, none⟩ = some (.slice B nb d)) (hla : na ≤ 10000) (hlb : nb ≤ 10000) :
    Calls Try.prog 31 #[.slice (some ⟨g, 0, none⟩) 2 2] w fun e w' => ∃ v, e = .returned v ∧ Own w.heap.size w' v (a ++ b) ∧ Below w.heap.size w w' := by
  have hg : g < w.heap.size := World.block_lt_of_cell? w ⟨g, 0, none⟩ h0
  have HA := Lib.hid ha
  have HB := Lib.hid hb
  have HNA := Lib.hid hna
  have HNB := Lib.hid hnb
  have HCA := Lib.hid hca
  have HCB := Lib.hid hcb
  clear ha hb hna hnb hca hcb
  go_enter Try.func31, Try.ntmps31
  go_wp2
  go_loop [3, 11] (fun t i => (t = .int .i64 0 ∧ i = .int .i64 0) ∨ (t = .int .i64 na ∧ i = .int .i64 1) ∨ (t = .int .i64 (na + nb) ∧ i = .int .i64 2)) (fun _ i => 2 - (intOf i).toNat)
  case atStart => exact .inl ⟨rfl, rfl⟩
  case round =>
    rcases hrel with ⟨rfl, rfl⟩ | ⟨rfl, rfl⟩ | ⟨rfl, rfl⟩
    · go_wp2
      go_round
      case rel => exact .inr (.inl ⟨by simp, by first | rfl | go_num⟩)
      case measure => simp [intOf]
    · go_wp2
      go_round
      case rel => exact .inr (.inr ⟨by first | rfl | go_num, by first | rfl | go_num⟩)
      case measure => simp [intOf]
    · go_wp2_with (go_at_call 38; refine (grow_nil _ (na + nb) (by omega) (by omega) _).mono ?_; rintro e w1 ⟨G, gc, rfl, ho1, hb1⟩)
      have hsz1 := hb1.size
      have HO1 := Lib.hid ho1
      clear ho1
      have k0 := (hb1.cell (p := ⟨g, 0, none⟩) hg).trans h0
      have k1 := (hb1.cell (p := ⟨g, 1, none⟩) hg).trans h1
      go_loopw [6, 27] (fun v i wr => ((i = .int .i64 0 ∧ Own w.heap.size wr v []) ∨ (i = .int .i64 1 ∧ Own w.heap.size wr v a) ∨ (i = .int .i64 2 ∧ Own w.heap.size wr v (a ++ b))) ∧ Below w.heap.size w wr) (fun _ i _ => 2 - (intOf i).toNat)
      case atStart => exact ⟨.inl ⟨rfl, HO1.out⟩, hb1⟩
      case round =>
        obtain ⟨hst, hbr⟩ := hrel
        clear k0 k1 hsz1 hb1 HO1
        have hszr := hbr.size
        have k0 := (hbr.cell (p := ⟨g, 0, none⟩) hg).trans h0
        have k1 := (hbr.cell (p := ⟨g, 1, none⟩) hg).trans h1
        have RA := Lib.hid (HA.out.below hbr)
        have RB := Lib.hid (HB.out.below hbr)
        rcases hst with ⟨rfl, ho⟩ | ⟨rfl, ho⟩ | ⟨rfl, ho⟩
        · have HO := Lib.hid ho
          clear ho
          go_wp2_with (at_builtin; refine append_spans rfl _ _ rfl w.heap.size _ [] a rfl HO.out A na c rfl HNA.out RA.out HCA.out (by simp; omega) hszr ?_; intro v' w' ho' hg')
          have HO2 := Lib.hid ho'
          have HB2 := Lib.hid (hbr.grown hg' hszr (fun k hk => (World.ownsRow.lt HO.out k hk).1))
          clear ho' hg'
          go_wp2
          go_roundw
          case rel => exact ⟨.inr (.inl ⟨by first | rfl | go_num, HO2.out⟩), HB2.out⟩
          case measure => simp [intOf]
        · have HO := Lib.hid ho
          clear ho
          have hla2 : a.length ≤ 10000 := by have := HNA.out; omega
          go_wp2_with (at_builtin; refine append_spans rfl _ _ rfl w.heap.size _ a b rfl HO.out B nb d rfl HNB.out RB.out HCB.out (by omega) hszr ?_; intro v' w' ho' hg')
          have HO2 := Lib.hid ho'
          have HB2 := Lib.hid (hbr.grown hg' hszr (fun k hk => (World.ownsRow.lt HO.out k hk).1))
          clear ho' hg'
          go_wp2
          go_roundw
          case rel => exact ⟨.inr (.inr ⟨by first | rfl | go_num, HO2.out⟩), HB2.out⟩
          case measure => simp [intOf]
        · have HO := Lib.hid ho
          clear ho
          go_wp2
          go_ret
          exact ⟨_, rfl, HO.out, hbr⟩

theorem unionl_any (A B : Option Addr) (c d : Nat) (a b : List Sp) (w : World) (ha : RdS w A a) (hb : RdS w B b) (hca : A = none → c = 0) (hcb : B = none → d = 0) (hl : a.length + b.length ≤ 1000) :
    Calls Try.prog 16 #[.slice A a.length c, .slice B b.length d] w fun e w' => ∃ v, e = .returned v ∧ Own w.heap.size w' v (setOf (a ++ b)) ∧ Below w.heap.size w w' := by
  have hcon := concat_any A B c d a.length b.length w.heap.size a b (w.alloc (.cells #[.slice A a.length c, .slice B b.length d] 22)) (ha.below ((Below.refl _ _).alloc (Nat.le_refl _) _)) (hb.below ((Below.refl _ _).alloc (Nat.le_refl _) _)) rfl rfl hca hcb (by simp) (by simp) (by omega) (by omega)
  have hl2 : (a ++ b).length ≤ 1000 := by rw [List.length_append]; exact hl
  generalize a ++ b = l at hcon hl2 ⊢
  have HC := Lib.hid hcon
  have HL := Lib.hid hl2
  clear hcon ha hb hca hcb hl hl2
  go_enter Try.func16, Try.ntmps16
  go_wp2_with (first
    | (go_at_call 31; refine HC.out.mono ?_; rintro e w1 ⟨v1, rfl, ho1, hb1⟩; obtain ⟨A1, c1, rfl, hr1, _, _⟩ := ho1.form; have R1 := Lib.hid hr1; clear ho1 hr1)
    | (go_at_call 10; refine (makel_any A1 c1 l _ R1.out HL.out).mono ?_; rintro e w2 ⟨v2, rfl, ho2, hb2⟩))
  go_ret
  have h1 := ((Below.refl w.heap.size w).alloc (Nat.le_refl _) (.cells #[.slice A a.length c, .slice B b.length d] 22)).trans (hb1.mono (by simp))
  exact ⟨_, rfl, ho2.more h1.size, h1.trans (hb2.mono h1.size)⟩

end Go.Proofs.Ytiaiehflhloefaa
