/- What Cut of layer 4 returns, for any span and any length. Conditions: the arguments fit 64 bits. -/
import Derived.Test.YtbldkhlkejoklaaDoorRows
import Derived.Test.YtbldkhlkejoklaaDoorBase
import Derived.Test.YtbldkhlkejoklaaDoorIvalsWords
import Derived.Test.YtbldkhlkejoklaaDoorIvalsOwn
import Derived.Test.YtbldkhlkejoklaaDoorOwnMore
import Derived.Test.YtbldkhlkejoklaaDoorIvalLeaf
import Derived.Test.YtbldkhlkejoklaaDoorWeekMath2
import Derived.Test.YtbldkhlkejoklaaDoorWeekOfC
import Derived.WalkKit
import Derived.WalkSpells
import Derived.WalkSmall
import Derived.Below
import Derived.Outline
import Derived.OwnWalk
import Derived.Lib.Hide
import Derived.BigQuiet
import Derived.Deep.QuietTactic
import Derived.RegionTactic
namespace Go.Proofs.YtbldkhlkejoklaaDoor
open Go.RowKit

theorem cut_short (a b l : Int) (w : World) (h : l < 1) :
    Calls Tryd.prog 11 #[.agg #[.int .i64 a, .int .i64 b], .int .i64 l] w fun e w' => e = .returned (.tuple #[.slice none 0 0, .int .i64 1]) ∧ Below w.heap.size w w' := by
  go_enter Tryd.func11, Tryd.ntmps11
  go_wp2
  go_ret2
  exact ⟨rfl, by (repeat (first | exact Below.refl _ _ | (refine b_st ?_ (by first | (simp; done) | (simp; omega))) | (refine b_al ?_ (Nat.le_refl _) _) | refine b_dn ?_ | refine b_dr ?_ | (refine b_cl ?_ (Nat.le_refl _) (by assumption))))⟩

theorem cut_wrong (a b l : Int) (w : World) (h : 1 ≤ l) (hab : ¬ a < b) :
    Calls Tryd.prog 11 #[.agg #[.int .i64 a, .int .i64 b], .int .i64 l] w fun e w' => e = .returned (.tuple #[.slice none 0 0, .int .i64 3]) ∧ Below w.heap.size w w' := by
  have C := fun W => right_no a b W hab
  clear hab
  go_enter Tryd.func11, Tryd.ntmps11
  go_wp2_with (go_at_call 22; (with_reducible refine (C _).mono ?_); rintro e w1 ⟨rfl, hb1⟩; obtain ⟨hc1, hf1⟩ := bcell hb1; have hz1 := hb1.size; (try simp at hz1))
  go_ret2
  exact ⟨rfl, by (repeat (first | exact Below.refl _ _ | (refine b_st ?_ (by first | (simp; done) | (simp; omega))) | (refine b_al ?_ (Nat.le_refl _) _) | refine b_dn ?_ | refine b_dr ?_ | (refine b_cl ?_ (Nat.le_refl _) (by assumption))))⟩

theorem cut_far (a b l : Int) (w : World) (h : 1 ≤ l) (hab : a < b) (hr : ¬ (0 ≤ a ∧ b ≤ 40320)) :
    Calls Tryd.prog 11 #[.agg #[.int .i64 a, .int .i64 b], .int .i64 l] w fun e w' => e = .returned (.tuple #[.slice none 0 0, .int .i64 4]) ∧ Below w.heap.size w w' := by
  have C := fun W => right_yes a b W hab
  by_cases h0 : a < 0
  · clear hr
    go_enter Tryd.func11, Tryd.ntmps11
    go_wp2_with (go_at_call 22; (with_reducible refine (C _).mono ?_); rintro e w1 ⟨rfl, hb1⟩; obtain ⟨hc1, hf1⟩ := bcell hb1; have hz1 := hb1.size; (try simp at hz1); have hz1' : w.heap.size < w1.heap.size := (by omega))
    go_ret2
    exact ⟨rfl, by (repeat (first | exact Below.refl _ _ | (refine b_st ?_ (by first | (simp; done) | (simp; omega))) | (refine b_al ?_ (Nat.le_refl _) _) | refine b_dn ?_ | refine b_dr ?_ | (refine b_cl ?_ (Nat.le_refl _) (by assumption))))⟩
  · have h1 : 40320 < b := by omega
    have h2 : 0 ≤ a := by omega
    clear hr h0
    go_enter Tryd.func11, Tryd.ntmps11
    go_wp2_with (go_at_call 22; (with_reducible refine (C _).mono ?_); rintro e w1 ⟨rfl, hb1⟩; obtain ⟨hc1, hf1⟩ := bcell hb1; have hz1 := hb1.size; (try simp at hz1); have hz1' : w.heap.size < w1.heap.size := (by omega))
    go_ret2
    exact ⟨rfl, by (repeat (first | exact Below.refl _ _ | (refine b_st ?_ (by first | (simp; done) | (simp; omega))) | (refine b_al ?_ (Nat.le_refl _) _) | refine b_dn ?_ | refine b_dr ?_ | (refine b_cl ?_ (Nat.le_refl _) (by assumption))))⟩

/-- What the loop over the weeks holds: the piece that is under way begins at f, in the week q. -/
structure Run (l a f q : Int) : Prop where
  le : a ≤ f
  on : f = a ∨ f = q * l
  from_ : q * l ≤ f
  to_ : f < q * l + l

theorem Run.start {l a : Int} (hl : 1 ≤ l) : Run l a a (a / l) := by
  have h1 := Int.emod_nonneg a (b := l) (by omega)
  have h2 := Int.emod_lt_of_pos a (b := l) (by omega)
  have h3 := Int.mul_ediv_add_emod a l
  rw [Int.mul_comm] at h3
  exact ⟨Int.le_refl _, Or.inl rfl, by omega, by omega⟩

theorem week_mul (q l : Int) : (q + 1) * l = q * l + l := by rw [Int.add_mul, Int.one_mul]

theorem Run.next {l a f q : Int} (hl : 1 ≤ l) (h : Run l a f q) : Run l a ((q + 1) * l) (q + 1) ∧ cutN l a ((q + 1) * l - a).toNat = cutN l a (f - a).toNat ++ [(f, (q + 1) * l)] := by
  have e := week_mul q l
  have h1 := h.le
  have h2 := h.from_
  have h3 := h.to_
  refine ⟨⟨by omega, Or.inr rfl, by omega, by omega⟩, cut_piece h1 (by omega) h.on h2 (by omega)⟩

theorem Run.last {l a f q b : Int} (h : Run l a f q) (hfb : f < b) (hb : b ≤ q * l + l) : cutN l a (b - a).toNat = cutN l a (f - a).toNat ++ [(f, b)] :=
  cut_piece h.le hfb h.on h.from_ hb

theorem week_of_last {l b : Int} (hl : 1 ≤ l) : (b - 1) / l * l ≤ b - 1 ∧ b ≤ (b - 1) / l * l + l := by
  have h1 := Int.emod_nonneg (b - 1) (b := l) (by omega)
  have h2 := Int.emod_lt_of_pos (b - 1) (b := l) (by omega)
  have h3 := Int.mul_ediv_add_emod (b - 1) l
  rw [Int.mul_comm] at h3
  omega

theorem week_le {l q r : Int} (hl : 1 ≤ l) (h : q ≤ r) : q * l ≤ r * l := Int.mul_le_mul_of_nonneg_right h (by omega)

theorem div_le_self' {l a : Int} (hl : 1 ≤ l) (ha : 0 ≤ a) : 0 ≤ a / l ∧ a / l ≤ a := ⟨Int.ediv_nonneg ha (by omega), Int.ediv_le_self _ ha⟩

theorem begin_c (n l : Int) (w : World) (h1 : 1 ≤ l) (hl : l ≤ 9223372036854775807) (h2 : 0 ≤ n) (hn : n ≤ 9223372036854775807) (h3 : n * l ≤ 9223372036854775807) :
    Calls Tryd.prog 8 #[.int .i64 n, .int .i64 l] w fun e w' => e = .returned (.tuple #[.int .i64 (n * l), .int .i64 0]) ∧ w = w' := by
  have h := begin_any n l w ⟨by omega, hn⟩ ⟨by omega, hl⟩
  rwa [begin_ok h1 h2 h3] at h

theorem of_c (m l : Int) (w : World) (h1 : 1 ≤ l) (hl : l ≤ 9223372036854775807) (h2 : 0 ≤ m) (hm : m ≤ 9223372036854775807) :
    Calls Tryd.prog 6 #[.int .i64 m, .int .i64 l] w fun e w' => e = .returned (.tuple #[.int .i64 (m / l), .int .i64 0]) ∧ Below w.heap.size w w' := by
  have h := of_any m l w ⟨by omega, hm⟩ ⟨by omega, hl⟩
  rw [of_ok h1 h2] at h
  exact h.mono fun e w' ⟨he, n, hn⟩ => ⟨he, by rw [hn]; exact b_dn (Below.refl _ _)⟩

set_option maxRecDepth 100000 in
set_option maxHeartbeats 2000000 in
theorem cut_walk (a b l q r : Int) (w : World) (h : 1 ≤ l) (hl : l ≤ 9223372036854775807) (hab : a < b) (ha : 0 ≤ a) (hb : b ≤ 40320) (hq : a / l = q) (hr : (b - 1) / l = r) :
    Calls Tryd.prog 11 #[.agg #[.int .i64 a, .int .i64 b], .int .i64 l] w fun e w' => ∃ v, e = .returned (.tuple #[v, .int .i64 0]) ∧ Own w.heap.size w' v (cutN l a (b - a).toNat) ∧ Below w.heap.size w w' := by
  obtain ⟨i0, hi, hz0, hz1, hz2⟩ := info_parts info_span
  have R0 : Hid (Run l a a q) := by rw [← hq]; exact Lib.hid (Run.start h)
  have RL : Hid (r * l ≤ b - 1 ∧ b ≤ r * l + l) := by rw [← hr]; exact Lib.hid (week_of_last h)
  have bq : 0 ≤ q ∧ q ≤ a := by rw [← hq]; exact div_le_self' h ha
  have br : 0 ≤ r ∧ r ≤ b - 1 := by rw [← hr]; exact div_le_self' h (by omega)
  have hqr : q ≤ r := by rw [← hq, ← hr]; exact Int.ediv_le_ediv (by omega) (by omega)
  obtain ⟨bq0, bq1⟩ := bq
  obtain ⟨br0, br1⟩ := br
  have C := fun W => right_yes a b W hab
  have O1 : ∀ W, Calls Tryd.prog 6 #[.int .i64 a, .int .i64 l] W fun e w' => e = .returned (.tuple #[.int .i64 q, .int .i64 0]) ∧ Below W.heap.size W w' := fun W => by have := of_c a l W h hl ha (by omega); rwa [hq] at this
  have O2 : ∀ W, Calls Tryd.prog 6 #[.int .i64 (b - 1), .int .i64 l] W fun e w' => e = .returned (.tuple #[.int .i64 r, .int .i64 0]) ∧ Below W.heap.size W w' := fun W => by have := of_c (b - 1) l W h hl (by omega) (by omega); rwa [hr] at this
  clear hq hr
  go_enter Tryd.func11, Tryd.ntmps11
  go_wp2_with (first
    | (go_at_call 22; (with_reducible refine (C _).mono ?_); rintro e w1 ⟨rfl, hb1⟩; obtain ⟨hc1, hf1⟩ := bcell hb1; have hz1 := hb1.size; (try simp at hz1); have hx1 : w.heap.size < w1.heap.size := (by omega))
    | (go_at_call 6; (with_reducible refine (O1 _).mono ?_); rintro e w2 ⟨rfl, hb2⟩; obtain ⟨hc2, hf2⟩ := bcell hb2; have hx2 := hb2.size; have hx2' : w.heap.size < w2.heap.size := (by omega))
    | (go_at_call 6; (with_reducible refine (O2 _).mono ?_); rintro e w3 ⟨rfl, hb3⟩; obtain ⟨hc3, hf3⟩ := bcell hb3; have hx3 := hb3.size; have hx3' : w.heap.size < w3.heap.size := (by omega)))
  have hcb : w3.cell? ⟨w.heap.size, 1, none⟩ = some (.int .i64 b) := by rw [hc3 _ _ (by omega), hc2 _ _ (by omega), hc1 _ _ (by simp)]; simp
  have hbs : Below w.heap.size w w3 := by (repeat (first | exact Below.refl _ _ | (refine b_st ?_ (by first | (simp; done) | (simp; omega))) | (refine b_al ?_ (Nat.le_refl _) _) | refine b_dn ?_ | refine b_dr ?_ | (refine b_cl ?_ (Nat.le_refl _) (by assumption))))
  clear hc1 hf1 hc2 hf2 hc3 hf3 hb1 hb2 hb3 hz1 hx1 hx2 hx2' hx3
  go_loopw [10, 11, 48] (fun v f i wr => ∃ (k n : Nat) (A2 : Option Addr) (c2 : Nat) (x : Int), (k : Int) ≤ r - q ∧ i = .int .i64 k ∧ f = .int .i64 x ∧ v = .slice A2 n c2 ∧ Hid ((cutN l a (x - a).toNat).length = n) ∧ (n : Int) ≤ k ∧ x < b ∧ a ≤ x ∧
      Hid (Run l a x (q + k)) ∧ Hid (Own w3.heap.size wr (.slice A2 n c2) (cutN l a (x - a).toNat)) ∧ Below w3.heap.size w3 wr) (fun _ _ i _ => (r - q).toNat - (intOf i).toNat)
  case atStart => exact ⟨0, 0, none, 0, a, by omega, rfl, rfl, rfl, Lib.hid (by simp [cutN]), by omega, hab, Int.le_refl _, by simpa using R0, Lib.hid (by rw [show (a - a).toNat = 0 by omega]; exact Own.nil _ _), Below.refl _ _⟩
  case round =>
    obtain ⟨k, n, A2, c2, x, hk, rfl, rfl, rfl, hln, hnk, hxb, hax, hrun, hown, hbl⟩ := hrel
    obtain ⟨w4, rfl⟩ : ∃ w4 : World, w4 = wr := ⟨_, rfl⟩
    have hsz := hbl.size
    have hcb4 := c_cl hcb hbl
    have hbw4 : Below w.heap.size w w4 := b_cl hbs (Nat.le_refl _) hbl
    have hszw := hbw4.size
    have HON := Lib.hid hln.out
    have hnb : (cutN l a (x - a).toNat).length ≤ 40320 := by have := hln.out; omega
    by_cases hlt : (k : Int) < r - q
    · have HM : (q + k + 1) * l ≤ r * l := week_le h (by omega)
      have HB1 : (q + k + 1) * l < b := by have := RL.out.1; omega
      have NX := Lib.hid (hrun.out.next h)
      have HA1 : a ≤ (q + k + 1) * l := NX.out.1.le
      have BC := fun W => begin_c (q + k + 1) l W h hl (by omega) (by omega) (by omega)
      have EA := Lib.hid (show q + ((k + 1 : Nat) : Int) = q + k + 1 by omega)
      generalize (q + k + 1) * l = y at HM HB1 NX HA1 BC
      clear HM
      go_wp2_with (first
        | (go_at_call 8; (with_reducible refine (BC _).mono ?_); rintro e w' ⟨rfl, rfl⟩)
        | (at_builtin; refine wpList_append_own _ rfl _ _ 29 rfl w3.heap.size 28 i0 (.agg #[.int .i64 0, .int .i64 0]) 2 16 Tryd.underlying29 hi hz0 hz1 hz2 rfl (by decide) _ _ _ rfl (hown.out.alloc _) ⟨w4.heap.size, 0, none⟩ 1 1 [.int .i64 (x), .int .i64 (y)] rfl rfl one_news one_cell2 (by unfold maxLen; omega) (by omega) (by simp; omega) ?_; intro v1 w5 hown5 hgrow5 _))
      have HS := Lib.hid (Own.snoc hown5)
      have HBel := (hbl.alloc hbl.size (.cells #[.int .i64 x, .int .i64 y] 28)).grown hgrow5 (by simp; omega) (fun k hk => (World.ownsRow.lt hown.out k hk).1)
      clear hown5 hgrow5
      obtain ⟨A5, c5, rfl, hrd5, _, _⟩ := HS.out.form
      have HL5 := Lib.hid (show (cutN l a (x - a).toNat ++ [(x, y)]).length = n + 1 by rw [List.length_append, HON.out]; rfl)
      go_wp2
      go_roundw
      case rel => exact ⟨k + 1, n + 1, A5, c5, y, by omega, by go_num, rfl, by rw [HL5.out], Lib.hid (by rw [NX.out.2, HL5.out]), by omega, HB1, HA1, Lib.hid (by rw [EA.out]; exact NX.out.1), Lib.hid (by rw [NX.out.2]; have := HS.out; rw [HL5.out] at this; exact this), HBel⟩
      case measure => simp [intOf]; omega
    · have hkr : q + (k : Int) = r := by omega
      have LA := Lib.hid (hrun.out.last hxb (by rw [hkr]; exact RL.out.2))
      clear hkr
      go_wp2_with (at_builtin; refine wpList_append_own _ rfl _ _ 29 rfl w3.heap.size 28 i0 (.agg #[.int .i64 0, .int .i64 0]) 2 16 Tryd.underlying29 hi hz0 hz1 hz2 rfl (by decide) _ _ _ rfl (hown.out.alloc _) ⟨w4.heap.size, 0, none⟩ 1 1 [.int .i64 (x), .int .i64 (b)] rfl rfl one_news one_cell2 (by unfold maxLen; omega) (by omega) (by simp; omega) ?_; intro v1 w5 hown5 hgrow5 _)
      have HS := Lib.hid (Own.snoc hown5)
      have HBel := (hbw4.alloc hszw (.cells #[.int .i64 x, .int .i64 b] 28)).grown hgrow5 (by simp; omega) (fun k hk => Nat.le_trans hbs.size (World.ownsRow.lt hown.out k hk).1)
      clear hown5 hgrow5
      go_ret2
      exact ⟨_, rfl, by rw [LA.out]; exact HS.out.more hbs.size, HBel⟩

end Go.Proofs.YtbldkhlkejoklaaDoor
