/- What the document's own Cut of layer 8 returns. Conditions: the records can be read. -/
import Derived.Test.YtbfjhhijhkhnkaaRows
import Derived.Test.YtbfjhhijhkhnkaaBase
import Derived.Test.YtbfjhhijhkhnkaaRow
import Derived.Test.YtbfjhhijhkhnkaaRecMath
import Derived.Test.YtbfjhhijhkhnkaaRecMath2
import Derived.Test.YtbfjhhijhkhnkaaRecHeap
import Derived.Test.YtbfjhhijhkhnkaaRecLeaf
import Derived.Test.YtbfjhhijhkhnkaaRecCheck
import Derived.Test.YtbfjhhijhkhnkaaRecSmall
import Derived.Test.YtbfjhhijhkhnkaaIvalTwo
import Derived.Test.YtbfjhhijhkhnkaaRecCheckR
import Derived.Test.YtbfjhhijhkhnkaaRecKinds
import Derived.Test.YtbfjhhijhkhnkaaRecOf
import Derived.WalkKit
import Derived.WalkSpells
import Derived.WalkSmall
import Derived.Below
import Derived.Outline
import Derived.OwnWalk
import Derived.Lib.Hide
import Derived.BigQuiet
import Derived.Deep.QuietTactic
namespace Go.Proofs.Ytbfjhhijhkhnkaa
open Go.RowKit

theorem refcut_bad (A : Option Addr) (c : Nat) (l : List Rc) (a b : Int) (w : World) (h : RdR w A l) (hl : l.length ≤ 4611686018427387904) (h0 : (checkV l).2 ≠ 0) :
    Calls Try.prog 15 #[.slice A l.length c, .agg #[.int .i64 a, .int .i64 b]] w fun e w' => e = .returned (.tuple #[.slice none 0 0, .int .i64 (checkV l).2]) ∧ Below w.heap.size w w' := by
  have CK := fun W (hr : RdR W A l) => refcheck_any A c l W hr hl
  obtain ⟨p, e, hv⟩ : ∃ p e, checkV l = (p, e) := ⟨_, _, rfl⟩
  rw [hv] at CK h0 ⊢
  have e1 : (e == 0) = false := by simpa using h0
  have e2 : (e != 0) = true := by simpa using h0
  have HR0 := Lib.hid (h.below ((Below.refl _ _).alloc (Nat.le_refl _) (.cells #[.int .i64 a, .int .i64 b] 32)))
  clear h0 hv h
  go_enter Try.func15, Try.ntmps15
  go_wp2_with (go_at_call 9; (with_reducible refine (CK _ HR0.out).mono ?_); rintro e w1 ⟨rfl, hb1⟩)
  go_ret2
  exact ⟨rfl, by (repeat (first | exact Below.refl _ _ | (refine b_st ?_ (by first | (simp; done) | (simp; omega))) | (refine b_al ?_ (Nat.le_refl _) _) | refine b_dn ?_ | refine b_dr ?_ | (refine b_cl ?_ (Nat.le_refl _) (by assumption))))⟩

theorem refcut_wrong (A : Option Addr) (c : Nat) (l : List Rc) (a b : Int) (w : World) (h : RdR w A l) (hl : l.length ≤ 4611686018427387904) (h0 : (checkV l).2 = 0) (hab : ¬ a < b) :
    Calls Try.prog 15 #[.slice A l.length c, .agg #[.int .i64 a, .int .i64 b]] w fun e w' => e = .returned (.tuple #[.slice none 0 0, .int .i64 3]) ∧ Below w.heap.size w w' := by
  have CK := fun W (hr : RdR W A l) => refcheck_any A c l W hr hl
  rw [tl_check (check_tl h0)] at CK
  have RG := fun W => refright_no a b W hab
  have HR0 := Lib.hid (h.below ((Below.refl _ _).alloc (Nat.le_refl _) (.cells #[.int .i64 a, .int .i64 b] 32)))
  clear h0 h hab
  go_enter Try.func15, Try.ntmps15
  go_wp2_with (first
    | (go_at_call 9; (with_reducible refine (CK _ HR0.out).mono ?_); rintro e w1 ⟨rfl, hb1⟩; have k0 : w1.cell? ⟨w.heap.size, 0, none⟩ = some (.int .i64 a) := (c_cl (by simp) hb1); have k1 : w1.cell? ⟨w.heap.size, 1, none⟩ = some (.int .i64 b) := (c_cl (by simp) hb1))
    | (go_at_call 31; (with_reducible refine (RG _).mono ?_); rintro e w2 ⟨rfl, hb2⟩))
  go_ret2
  exact ⟨rfl, by (repeat (first | exact Below.refl _ _ | (refine b_st ?_ (by first | (simp; done) | (simp; omega))) | (refine b_al ?_ (Nat.le_refl _) _) | refine b_dn ?_ | refine b_dr ?_ | (refine b_cl ?_ (Nat.le_refl _) (by assumption))))⟩

set_option maxRecDepth 100000 in
set_option maxHeartbeats 4000000 in
theorem refcut_ok (A : Option Addr) (c : Nat) (l : List Rc) (a b : Int) (w : World) (h : RdR w A l) (hl : l.length ≤ 4611686018427387904) (h0 : (checkV l).2 = 0) (hab : a < b) :
    Calls Try.prog 15 #[.slice A l.length c, .agg #[.int .i64 a, .int .i64 b]] w fun e w' => ∃ v, e = .returned (.tuple #[v, .int .i64 0]) ∧ OwnR w.heap.size w' v (normV (withinV a b l)) ∧ Below w.heap.size w w' := by
  obtain ⟨i1, hj, hy0, hy1, hy2⟩ := info_parts info_int
  have T := check_tl h0
  have CK := fun W (hr : RdR W A l) => refcheck_any A c l W hr hl
  rw [tl_check T] at CK
  have RG := fun W => refright_yes a b W hab
  have HL := Lib.hid (rfl : l.length = l.length)
  have BG := fun W (hr : RdR W A l) => refbeg_any A c l.length l W HL hr hl
  have KD := fun W (hr : RdR W A l) => refkinds_any A c l W hr T hl
  have TW := within_tl hab T
  have NO := Lib.hid (norm_of TW)
  have WB := Lib.hid TW.bd
  have CI := Lib.hid (cut_is (a := a) (b := b) T)
  have bd := T.bd
  have HR0 := Lib.hid (h.below ((Below.refl _ _).alloc (Nat.le_refl _) (.cells #[.int .i64 a, .int .i64 b] 32)))
  generalize beg l = at_ at BG bd CI
  generalize kindsV l = ks at KD bd CI
  obtain ⟨bd0, bd1⟩ := bd
  clear h0 h hab TW T
  go_enter Try.func15, Try.ntmps15
  go_wp2_with (first
    | (go_at_call 9; (with_reducible refine (CK _ HR0.out).mono ?_); rintro e w1 ⟨rfl, hb1⟩; have k0 : w1.cell? ⟨w.heap.size, 0, none⟩ = some (.int .i64 a) := (c_cl (by simp) hb1); have k1 : w1.cell? ⟨w.heap.size, 1, none⟩ = some (.int .i64 b) := (c_cl (by simp) hb1))
    | (go_at_call 31; (with_reducible refine (RG _).mono ?_); rintro e w2 ⟨rfl, hb2⟩; have HR := Lib.hid ((HR0.out.below hb1).below hb2); have m0 := c_cl k0 hb2; have m1 := c_cl k1 hb2)
    | (go_at_call 23; (with_reducible refine (KD _ HR.out).mono ?_); rintro e w3 ⟨v3, rfl, ho3, hb3⟩; obtain ⟨A3, c3, rfl, hr3⟩ := ho3.read; have HK := Lib.hid hr3; have HR3 := Lib.hid (HR.out.below hb3); have HN0 := Lib.hid (And.intro (c_cl m0 hb3) (c_cl m1 hb3)); clear ho3 hr3)
    | (go_at_call 18; (with_reducible refine (BG _ HR3.out).mono ?_); rintro e w' ⟨rfl, rfl⟩))
  have HBW := Lib.hid (show Below w.heap.size w w3 by (repeat (first | exact Below.refl _ _ | (refine b_st ?_ (by first | (simp; done) | (simp; omega))) | (refine b_al ?_ (Nat.le_refl _) _) | refine b_dn ?_ | refine b_dr ?_ | (refine b_cl ?_ (Nat.le_refl _) (by assumption)))))
  obtain ⟨m, hm⟩ : ∃ m, ks.length = m := ⟨_, rfl⟩
  have HM := Lib.hid hm
  rw [hm] at bd1 ⊢
  clear hb1 hb2 hb3 k0 k1 m0 m1 HR0 HR HR3 hm
  go_loopw [10, 11, 12] (fun fv v i wr => ∃ (k n : Nat) (g : Int) (out : List Int) (A' : Option Addr) (c' : Nat), k ≤ m ∧ i = .int .i64 k ∧ fv = .int .i64 g ∧ v = .slice A' n c' ∧ Hid (cutS a b (0, [], at_) (ks.take k) = (g, out, at_ + (k : Int))) ∧ Hid (out.length = n) ∧ n ≤ k ∧
      Hid (OwnN w3.heap.size wr (.slice A' n c') out) ∧ Below w3.heap.size w3 wr) (fun _ _ i _ => m - (intOf i).toNat)
  case atStart => exact ⟨0, 0, 0, [], none, 0, Nat.zero_le _, rfl, rfl, rfl, Lib.hid (by simp [cutS]), Lib.hid rfl, Nat.le_refl _, Lib.hid (OwnN.nil _ _), Below.refl _ _⟩
  case round =>
    obtain ⟨k, n, g, out, A', c', hk, rfl, rfl, rfl, CS, HON, hnk, hown, hb⟩ := hrel
    obtain ⟨w5, rfl⟩ : ∃ w5 : World, w5 = wr := ⟨_, rfl⟩
    have hsz := hb.size
    by_cases hlt : k < m
    · obtain ⟨bl, off, x, rfl, hbb, hc0, hs⟩ := HK.out.at_ (k := k) (by rw [HM.out]; exact hlt)
      rw [← hb.cell (p := ⟨bl, _, none⟩) hbb] at hc0
      have hbr : bl < w5.heap.size := by omega
      have k0 := c_cl HN0.out.1 hb
      have k1 := c_cl HN0.out.2 hb
      have CM := Lib.hid ((cut_more (a := a) (b := b) (at_ := at_) hs.out).trans (by rw [CS.out]))
      by_cases hin : a ≤ at_ + (k : Int) ∧ at_ + (k : Int) < b
      · have HS := fun W => refhas_yes a b (at_ + (k : Int)) W hin
        have e0 : at_ + (k : Int) + 1 = at_ + ((k + 1 : Nat) : Int) := by omega
        by_cases hn0 : n = 0
        · subst hn0
          have CM2 := Lib.hid (show cutS a b (0, [], at_) (ks.take (k + 1)) = (at_ + (k : Int), out ++ [x], at_ + ((k + 1 : Nat) : Int)) by
            rw [CM.out]; unfold cutStep; simp only; rw [if_pos hin, if_pos (List.eq_nil_of_length_eq_zero HON.out), e0])
          clear hin e0
          have HL5 := Lib.hid (show (out ++ [x]).length = 0 + 1 by rw [List.length_append, HON.out]; rfl)
          have hnb : out.length ≤ 40320 := by have := HON.out; omega
          go_wp2_with (first
            | (go_at_call 32; (with_reducible refine (HS _).mono ?_); rintro e w6 ⟨rfl, hb6⟩; have HO := Lib.hid (hown.out.below hb6); have hb7 := b_cl hb (Nat.le_refl _) hb6; have hc := c_cl hc0 hb6; have hsz7 := hb6.size)
            | (at_builtin; refine wpList_append_own _ rfl _ _ 43 rfl w3.heap.size 3 i1 (.int .i64 0) 1 8 Try.underlying43 hj hy0 hy1 hy2 rfl (by decide) _ _ _ rfl (OwnN.alloc HO.out _) ⟨w6.heap.size, 0, none⟩ 1 1 [.int .i64 x] rfl rfl (int_news rfl) int_cells (by unfold maxLen; omega) (by omega) (by have := hb7.size; simp; omega) ?_; intro v5 w5 hown5 hgrow5 _; have HS5 := Lib.hid (OwnN.snoc hown5); have HB5 := Lib.hid ((hb7.alloc hb7.size (.cells #[.int .i64 x] 3)).grown hgrow5 (by have := hb7.size; simp; omega) (fun q hq => (World.ownsRow.lt HO.out q hq).1)); clear hown5 hgrow5))
          obtain ⟨A5, c5, rfl, _⟩ := HS5.out.read
          go_roundw
          case rel => exact ⟨k + 1, 0 + 1, at_ + (k : Int), out ++ [x], A5, c5, by omega, by go_num, by first | rfl | go_num, by rw [HL5.out], Lib.hid CM2.out, HL5, by omega, Lib.hid (by have := HS5.out; rw [HL5.out] at this; exact this), HB5.out⟩
          case measure => simp [intOf]; omega
        · have CM2 := Lib.hid (show cutS a b (0, [], at_) (ks.take (k + 1)) = (g, out ++ [x], at_ + ((k + 1 : Nat) : Int)) by
            rw [CM.out]; unfold cutStep; simp only; rw [if_pos hin, if_neg (fun e => hn0 (by rw [← HON.out, e]; rfl)), e0])
          have hne : ((n : Int) == 0) = false := by simp; omega
          clear hin e0 hn0
          have HL5 := Lib.hid (show (out ++ [x]).length = n + 1 by rw [List.length_append, HON.out]; rfl)
          have hnb : out.length ≤ 40320 := by have := HON.out; omega
          go_wp2_with (first
            | (go_at_call 32; (with_reducible refine (HS _).mono ?_); rintro e w6 ⟨rfl, hb6⟩; have HO := Lib.hid (hown.out.below hb6); have hb7 := b_cl hb (Nat.le_refl _) hb6; have hc := c_cl hc0 hb6; have hsz7 := hb6.size)
            | (at_builtin; refine wpList_append_own _ rfl _ _ 43 rfl w3.heap.size 3 i1 (.int .i64 0) 1 8 Try.underlying43 hj hy0 hy1 hy2 rfl (by decide) _ _ _ rfl (OwnN.alloc HO.out _) ⟨w6.heap.size, 0, none⟩ 1 1 [.int .i64 x] rfl rfl (int_news rfl) int_cells (by unfold maxLen; omega) (by omega) (by have := hb7.size; simp; omega) ?_; intro v5 w5 hown5 hgrow5 _; have HS5 := Lib.hid (OwnN.snoc hown5); have HB5 := Lib.hid ((hb7.alloc hb7.size (.cells #[.int .i64 x] 3)).grown hgrow5 (by have := hb7.size; simp; omega) (fun q hq => (World.ownsRow.lt HO.out q hq).1)); clear hown5 hgrow5))
          obtain ⟨A5, c5, rfl, _⟩ := HS5.out.read
          go_roundw
          case rel => exact ⟨k + 1, n + 1, g, out ++ [x], A5, c5, by omega, by go_num, by first | rfl | go_num, by rw [HL5.out], Lib.hid CM2.out, HL5, by omega, Lib.hid (by have := HS5.out; rw [HL5.out] at this; exact this), HB5.out⟩
          case measure => simp [intOf]; omega
      · have HS := fun W => refhas_no a b (at_ + (k : Int)) W hin
        have e0 : at_ + (k : Int) + 1 = at_ + ((k + 1 : Nat) : Int) := by omega
        have CM2 := Lib.hid (show cutS a b (0, [], at_) (ks.take (k + 1)) = (g, out, at_ + ((k + 1 : Nat) : Int)) by
          rw [CM.out]; unfold cutStep; simp only; rw [if_neg hin, e0])
        clear hin e0
        go_wp2_with (go_at_call 32; (with_reducible refine (HS _).mono ?_); rintro e w6 ⟨rfl, hb6⟩; have HO := Lib.hid (hown.out.below hb6); have hb7 := b_cl hb (Nat.le_refl _) hb6)
        go_roundw
        case rel => exact ⟨k + 1, n, g, out, A', c', by omega, by go_num, rfl, rfl, Lib.hid CM2.out, HON, by omega, HO, hb7⟩
        case measure => simp [intOf]; omega
    · have hkm : k = m := by omega
      have CE := CS.out
      rw [List.take_of_length_le (by rw [HM.out]; omega)] at CE
      have C1 := CI.out.1
      have C2 := CI.out.2
      rw [CE] at C1 C2
      have NO2 := NO.out
      have WB2 := WB.out
      rw [← show g = _ from C1, ← show out = _ from C2] at NO2 WB2
      rw [HON.out] at WB2
      have OF := fun W (hr : RdN W A' out) => refof_any A' c' n out g W HON hr WB2.1 WB2.2
      rw [NO2] at OF
      clear CE C1 C2 NO2 WB2
      go_wp2_with (go_at_call 26; (with_reducible refine (OF _ (by obtain ⟨A9, c9, he, hr⟩ := hown.out.read; injection he with q1 q2 q3; rw [q1]; exact hr)).mono ?_); rintro e w6 ⟨v6, rfl, ho6, hb6⟩; have HO6 := Lib.hid ho6; clear ho6)
      go_ret2
      have hbs := HBW.out.trans (hb.mono HBW.out.size)
      exact ⟨_, rfl, HO6.out.more hbs.size, hbs.trans (hb6.mono hbs.size)⟩

theorem refcutl_any (A : Option Addr) (c : Nat) (l : List Rc) (a b : Int) (w : World) (h : RdR w A l) (hl : l.length ≤ 4611686018427387904) :
    Calls Try.prog 15 #[.slice A l.length c, .agg #[.int .i64 a, .int .i64 b]] w fun e w' => ∃ v, e = .returned (.tuple #[v, .int .i64 (cutV a b l).2]) ∧ OwnR w.heap.size w' v (cutV a b l).1 ∧ Below w.heap.size w w' := by
  unfold cutV
  by_cases h0 : (checkV l).2 = 0
  · rw [if_pos h0]
    by_cases hab : a < b
    · rw [if_pos hab]; exact refcut_ok A c l a b w h hl h0 hab
    · rw [if_neg hab]; exact (refcut_wrong A c l a b w h hl h0 hab).mono fun e w' ⟨he, hb⟩ => ⟨_, he, OwnR.nil _ _, hb⟩
  · rw [if_neg h0]; exact (refcut_bad A c l a b w h hl h0).mono fun e w' ⟨he, hb⟩ => ⟨_, he, OwnR.nil _ _, hb⟩

end Go.Proofs.Ytbfjhhijhkhnkaa
