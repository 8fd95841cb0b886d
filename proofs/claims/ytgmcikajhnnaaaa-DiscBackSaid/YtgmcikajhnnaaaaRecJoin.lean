/- What Join of layer 8 returns, for three lists and for none; the library's Concat on the way. Conditions: the records can be read; at most ten thousand in each list. -/
import Derived.Test.YtgmcikajhnnaaaaRows
import Derived.Test.YtgmcikajhnnaaaaBase
import Derived.Test.YtgmcikajhnnaaaaRow
import Derived.Test.YtgmcikajhnnaaaaRecMath
import Derived.Test.YtgmcikajhnnaaaaRecMath2
import Derived.Test.YtgmcikajhnnaaaaRecHeap
import Derived.Test.YtgmcikajhnnaaaaRecLeaf
import Derived.Test.YtgmcikajhnnaaaaRecCheck
import Derived.Test.YtgmcikajhnnaaaaRecSmall
import Derived.Test.YtgmcikajhnnaaaaRecNormal
import Derived.Test.YtgmcikajhnnaaaaGrow
import Derived.WalkKit
import Derived.WalkSpells
import Derived.WalkSmall
import Derived.Below
import Derived.Outline
import Derived.OwnWalk
import Derived.Lib.Hide
import Derived.BigQuiet
import Derived.Deep.QuietTactic
import Derived.Laws.AppendOwnNone
namespace Go.Proofs.Ytgmcikajhnnaaaa
open Go.RowKit

/-- An append of all records of a slice, nil or not. -/
theorem append_recs {w : World} {ops : Array Oper} {rest : List Oper} {o : Oper} {a : Act} {Q : Exit → Act → World → Prop} (hgd : o.guard = none) (s x : Operand)
    (ho : o.op = .call { callee := .builtin .append, args := #[s, x], argTypes := #[29, 29] })
    (base : Nat) (v : Value) (l l2 : List Rc) (hs : a.eval s = v) (hown : OwnR base w v l) (A : Option Addr) (m c : Nat) (hx : a.eval x = .slice A m c) (hm : l2.length = m) (hr : RdR w A l2) (hnil : A = none → c = 0)
    (hb : l.length + m ≤ 100000) (hbase : base ≤ w.heap.size)
    (h : ∀ v' w', OwnR base w' v' (l ++ l2) → w.grownBy w' v.ownBlock → wpList Try.prog ops Q rest (a.put o.dst v') w') : wpList Try.prog ops Q (o :: rest) a w := by
  obtain ⟨i0, hi, hz0, hz1, hz2⟩ := info_parts info_rec
  cases A with
  | none =>
    have e0 : l2 = [] := by
      rcases l2 with _ | ⟨s, r⟩
      · rfl
      · obtain ⟨b, off, hA, _⟩ := hr (by simp)
        cases hA
    subst e0
    have hm0 : m = 0 := hm.symm
    have hc0 := hnil rfl
    subst hm0 hc0
    refine wpList_append_own_none hgd s x 29 ho base 73 i0 3 Try.underlying29 hi v l.length (flatR l) hs hown hx ?_
    exact h v w (by rw [List.append_nil]; exact hown) (World.grownBy.refl w _)
  | some ad =>
    refine wpList_append_own _ hgd s x 29 ho base 73 i0 (.agg #[.int .i64 0, .int .i64 0, .int .i64 0]) 3 24 Try.underlying29 hi hz0 hz1 hz2 rfl (by decide) v l.length (flatR l) hs hown ad m c (flatR l2) hx (by rw [flatR_len, hm]) hr.news (fun u hu => flatR_one hu) (by unfold maxLen; omega) (by omega) hbase ?_
    intro v' w' hown' hgrow _
    refine h v' w' ?_ hgrow
    unfold OwnR
    rw [flatR_append, List.length_append, hm]
    exact hown'

theorem growR_nil (z : Int) (n : Nat) (hz : z = n) (hn : n ≤ 100000) (w : World) :
    Calls Try.prog 64 #[.slice none 0 0, .int .i64 z] w fun e w' => ∃ A c, e = .returned (.slice A 0 c) ∧ OwnR w.heap.size w' (.slice A 0 c) [] ∧ Below w.heap.size w w' := by
  subst hz
  obtain ⟨i0, hi, hz0, hz1, hz2⟩ := info_parts info_rec
  rcases Nat.eq_zero_or_pos n with h0 | h0
  · subst h0
    exact (Any8.slices_Grow_room growL none 0 0 0 w (Nat.le_refl _) (by omega) (by omega) (Nat.le_refl _)).mono fun e w' ⟨he, hw⟩ => ⟨none, 0, he, OwnR.nil _ _, by rw [hw]; exact Below.refl _ _⟩
  · refine (Any8.slices_Grow_grow growL i0 (.agg #[.int .i64 0, .int .i64 0, .int .i64 0]) hi hz0 (by rw [hz1]; decide) none 0 0 n [] w (Nat.le_refl _) (by omega) (by rw [hz2]; omega) (by omega) (by simp) (fun _ => rfl) (fun a ha => by cases ha)).mono fun e w' ⟨he, hw⟩ => ⟨_, _, he, ?_, ?_⟩
    · rw [hw]
      have hG := grownCap_ge w (0 + n) 0 73
      have hM := grownCap_le_maxLen w (0 + n) 0 73 (by unfold maxLen; omega)
      refine World.ownsRow_made (base := w.heap.size) (e := 73) (size := 3) w.drew _ _ (Nat.le_refl _) hM ?_
      have hzc : (Value.agg #[.int .i64 0, .int .i64 0, .int .i64 0]).cells.size = 3 := rfl
      simp only [Array.size_append, size_zeroCells, hzc, List.size_toArray, List.length_nil]
      show 0 + (0 + n - 0) * 3 + (grownCap w (0 + n) 0 73 - (0 + n)) * 3 = grownCap w (0 + n) 0 73 * 3
      omega
    · rw [hw]; exact ((Below.refl _ _).drew).alloc (Nat.le_refl _) _

theorem concat_none (w : World) :
    Calls Try.prog 63 #[.slice none 0 0] w fun e w' => ∃ v, e = .returned v ∧ OwnR w.heap.size w' v [] ∧ Below w.heap.size w w' := by
  go_enter Try.func63, Try.ntmps63
  go_wp2
  go_loop [3, 11] (fun t i => t = .int .i64 0 ∧ i = .int .i64 0) (fun _ i => 0)
  case atStart => exact ⟨rfl, rfl⟩
  case round =>
    obtain ⟨rfl, rfl⟩ := hrel
    go_wp2_with (go_at_call 64; refine (growR_nil _ 0 (by omega) (by omega) _).mono ?_; rintro e w1 ⟨G, gc, rfl, ho1, hb1⟩)
    have HO1 := Lib.hid ho1
    clear ho1
    go_loopw [6, 27] (fun v i wr => i = .int .i64 0 ∧ OwnR w.heap.size wr v [] ∧ Below w.heap.size w wr) (fun _ i _ => 0)
    case atStart => exact ⟨rfl, HO1.out, hb1⟩
    case round =>
      obtain ⟨rfl, ho, hbr⟩ := hrel
      have HO := Lib.hid ho
      clear ho
      go_wp2
      go_ret
      exact ⟨_, rfl, HO.out, hbr⟩

set_option maxHeartbeats 1600000 in
/-- slices.Concat of three slices of records. -/
theorem concat_three (A B D : Option Addr) (ca cb cd na nb nc g : Nat) (a b d : List Rc) (w : World) (ha : RdR w A a) (hb : RdR w B b) (hd : RdR w D d) (hna : a.length = na) (hnb : b.length = nb) (hnc : d.length = nc)
    (hca : A = none → ca = 0) (hcb : B = none → cb = 0) (hcd : D = none → cd = 0)
    (h0 : w.cell? ⟨g, 0, none⟩ = some (.slice A na ca)) (h1 : w.cell? ⟨g, 1, none⟩ = some (.slice B nb cb)) (h2 : w.cell? ⟨g, 2, none⟩ = some (.slice D nc cd)) (hla : na ≤ 10000) (hlb : nb ≤ 10000) (hlc : nc ≤ 10000) :
    Calls Try.prog 63 #[.slice (some ⟨g, 0, none⟩) 3 3] w fun e w' => ∃ v, e = .returned v ∧ OwnR w.heap.size w' v (a ++ b ++ d) ∧ Below w.heap.size w w' := by
  have hg : g < w.heap.size := World.block_lt_of_cell? w ⟨g, 0, none⟩ h0
  have HA := Lib.hid ha
  have HB := Lib.hid hb
  have HD := Lib.hid hd
  have HNA := Lib.hid hna
  have HNB := Lib.hid hnb
  have HNC := Lib.hid hnc
  have HCA := Lib.hid hca
  have HCB := Lib.hid hcb
  have HCD := Lib.hid hcd
  clear ha hb hd hna hnb hnc hca hcb hcd
  go_enter Try.func63, Try.ntmps63
  go_wp2
  go_loop [3, 11] (fun t i => (t = .int .i64 0 ∧ i = .int .i64 0) ∨ (t = .int .i64 na ∧ i = .int .i64 1) ∨ (t = .int .i64 (na + nb) ∧ i = .int .i64 2) ∨ (t = .int .i64 (na + nb + nc) ∧ i = .int .i64 3)) (fun _ i => 3 - (intOf i).toNat)
  case atStart => exact .inl ⟨rfl, rfl⟩
  case round =>
    rcases hrel with ⟨rfl, rfl⟩ | ⟨rfl, rfl⟩ | ⟨rfl, rfl⟩ | ⟨rfl, rfl⟩
    · go_wp2
      go_round
      case rel => exact .inr (.inl ⟨by simp, by first | rfl | go_num⟩)
      case measure => simp [intOf]
    · go_wp2
      go_round
      case rel => exact .inr (.inr (.inl ⟨by first | rfl | go_num, by first | rfl | go_num⟩))
      case measure => simp [intOf]
    · go_wp2
      go_round
      case rel => exact .inr (.inr (.inr ⟨by first | rfl | go_num, by first | rfl | go_num⟩))
      case measure => simp [intOf]
    · go_wp2_with (go_at_call 64; refine (growR_nil _ (na + nb + nc) (by omega) (by omega) _).mono ?_; rintro e w1 ⟨G, gc, rfl, ho1, hb1⟩)
      have hsz1 := hb1.size
      have HO1 := Lib.hid ho1
      clear ho1
      have k0 := (hb1.cell (p := ⟨g, 0, none⟩) hg).trans h0
      have k1 := (hb1.cell (p := ⟨g, 1, none⟩) hg).trans h1
      have k2 := (hb1.cell (p := ⟨g, 2, none⟩) hg).trans h2
      go_loopw [6, 27] (fun v i wr => ((i = .int .i64 0 ∧ OwnR w.heap.size wr v []) ∨ (i = .int .i64 1 ∧ OwnR w.heap.size wr v a) ∨ (i = .int .i64 2 ∧ OwnR w.heap.size wr v (a ++ b)) ∨ (i = .int .i64 3 ∧ OwnR w.heap.size wr v (a ++ b ++ d))) ∧ Below w.heap.size w wr) (fun _ i _ => 3 - (intOf i).toNat)
      case atStart => exact ⟨.inl ⟨rfl, HO1.out⟩, hb1⟩
      case round =>
        obtain ⟨hst, hbr⟩ := hrel
        clear k0 k1 k2 hsz1 hb1 HO1
        have hszr := hbr.size
        have k0 := (hbr.cell (p := ⟨g, 0, none⟩) hg).trans h0
        have k1 := (hbr.cell (p := ⟨g, 1, none⟩) hg).trans h1
        have k2 := (hbr.cell (p := ⟨g, 2, none⟩) hg).trans h2
        have RA := Lib.hid (HA.out.below hbr)
        have RB := Lib.hid (HB.out.below hbr)
        have RD := Lib.hid (HD.out.below hbr)
        rcases hst with ⟨rfl, ho⟩ | ⟨rfl, ho⟩ | ⟨rfl, ho⟩ | ⟨rfl, ho⟩
        · have HO := Lib.hid ho
          clear ho
          go_wp2_with (at_builtin; refine append_recs rfl _ _ rfl w.heap.size _ [] a rfl HO.out A na ca rfl HNA.out RA.out HCA.out (by simp; omega) hszr ?_; intro v' w' ho' hg')
          have HO2 := Lib.hid ho'
          have HB2 := Lib.hid (hbr.grown hg' hszr (fun k hk => (World.ownsRow.lt HO.out k hk).1))
          clear ho' hg'
          go_wp2
          go_roundw
          case rel => exact ⟨.inr (.inl ⟨by first | rfl | go_num, HO2.out⟩), HB2.out⟩
          case measure => simp [intOf]
        · have HO := Lib.hid ho
          clear ho
          have hla2 : a.length ≤ 10000 := by have := HNA.out; omega
          go_wp2_with (at_builtin; refine append_recs rfl _ _ rfl w.heap.size _ a b rfl HO.out B nb cb rfl HNB.out RB.out HCB.out (by omega) hszr ?_; intro v' w' ho' hg')
          have HO2 := Lib.hid ho'
          have HB2 := Lib.hid (hbr.grown hg' hszr (fun k hk => (World.ownsRow.lt HO.out k hk).1))
          clear ho' hg'
          go_wp2
          go_roundw
          case rel => exact ⟨.inr (.inr (.inl ⟨by first | rfl | go_num, HO2.out⟩)), HB2.out⟩
          case measure => simp [intOf]
        · have HO := Lib.hid ho
          clear ho
          have hla2 : (a ++ b).length ≤ 20000 := by rw [List.length_append]; have := HNA.out; have := HNB.out; omega
          obtain ⟨ab, hab⟩ : ∃ ab, a ++ b = ab := ⟨_, rfl⟩
          rw [hab] at hla2 HO
          have HAB := Lib.hid hab
          clear hab
          go_wp2_with (at_builtin; refine append_recs rfl _ _ rfl w.heap.size _ ab d rfl HO.out D nc cd rfl HNC.out RD.out HCD.out (by omega) hszr ?_; intro v' w' ho' hg')
          have HO2 := Lib.hid ho'
          have HB2 := Lib.hid (hbr.grown hg' hszr (fun k hk => (World.ownsRow.lt HO.out k hk).1))
          clear ho' hg'
          go_wp2
          go_roundw
          case rel => exact ⟨.inr (.inr (.inr ⟨by first | rfl | go_num, by rw [HAB.out]; exact HO2.out⟩)), HB2.out⟩
          case measure => simp [intOf]
        · have HO := Lib.hid ho
          clear ho
          go_wp2
          go_ret
          exact ⟨_, rfl, HO.out, hbr⟩

theorem join_of {v : Value} {l : List Rc} {w : World} (hc : Calls Try.prog 63 #[v] w fun e w' => ∃ v, e = .returned v ∧ OwnR w.heap.size w' v l ∧ Below w.heap.size w w') (hl : l.length ≤ 1000000) :
    Calls Try.prog 48 #[v] w fun e w' => ∃ v, e = .returned (.tuple #[v, .int .i64 (checkV l).2]) ∧ OwnR w.heap.size w' v (nrmV l) ∧ Below w.heap.size w w' := by
  have NM := fun A c W (hr : RdR W A l) => normal_any A c l W hr hl
  have HC := Lib.hid hc
  generalize (checkV l).2 = e0 at NM ⊢
  generalize nrmV l = t at NM ⊢
  clear hc
  go_enter Try.func48, Try.ntmps48
  go_wp2_with (first
    | (go_at_call 63; refine HC.out.mono ?_; rintro e w1 ⟨v1, rfl, ho1, hb1⟩; obtain ⟨A1, c1, rfl, hr1, _⟩ := ho1.read; have H1 := Lib.hid hr1; clear ho1 hr1)
    | (go_at_call 55; (with_reducible refine (NM A1 c1 _ H1.out).mono ?_); rintro e w2 ⟨v2, rfl, ho2, hb2⟩; have HO2 := Lib.hid ho2; clear ho2))
  go_ret2
  exact ⟨_, rfl, HO2.out.more hb1.size, b_tr hb1 hb2⟩

end Go.Proofs.Ytgmcikajhnnaaaa
