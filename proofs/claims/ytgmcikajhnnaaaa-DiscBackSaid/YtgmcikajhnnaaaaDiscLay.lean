/- What the function that lays a number, and layDay of layer 11, do to a builder. Conditions: the records can be read and are a timeline, the span is right; the builder's bytes stay below a million. -/
import Derived.Test.YtgmcikajhnnaaaaRows
import Derived.Test.YtgmcikajhnnaaaaDiscBuild
import Derived.Test.YtgmcikajhnnaaaaRecCut
import Derived.Test.YtgmcikajhnnaaaaDiscLeaf
import Derived.Test.YtgmcikajhnnaaaaSumOpen
import Derived.WalkKit
import Derived.WalkSpells
import Derived.WalkSmall
import Derived.Below
import Derived.Lib.Hide
import Derived.Shelf.Strings.MapGrows
import Derived.Outline
import Derived.OwnWalk
import Derived.BigQuiet
import Derived.Deep.QuietTactic
namespace Go.Proofs.Ytgmcikajhnnaaaa
open Go.RowKit

theorem builder_lt {B b : Nat} {bs : List Value} {w : World} (h : Lib.IsBuilderF 50 5 B b bs w) : b < w.heap.size ∧ B ≤ b := by
  rcases h with h | h <;> exact ⟨h.lt, h.1⟩

theorem lay11_any (B b : Nat) (u : List UInt8) (n : Int) (w : World) (h : Lib.IsBuilderF 50 5 B b (Lib.byteCells (u)) w) (h0 : 0 ≤ n) (h1 : n ≤ 65535) (hu : u.length ≤ 1000000) (hB : B ≤ w.heap.size) :
    Calls Try.prog 19 #[.int .i64 n, .pointer (some ⟨b, 0, none⟩)] w fun e w' => e = .returned (.tuple #[]) ∧ Lib.IsBuilderF 50 5 B b (Lib.byteCells (u ++ two n)) w' ∧ Kept B b w w' := by
  have P := fun W => put_any n W
  have hp : putV n = (layB n, 0) := by unfold putV; rw [if_pos ⟨h0, h1⟩]
  rw [hp] at P
  dsimp only at P
  have HT := Lib.hid (show (layB n).data.toList = two n from rfl)
  have hz := layB_size n
  generalize layB n = s at P HT hz
  have H := Lib.hid h
  clear h hp
  go_enter Try.func19, Try.ntmps19
  go_wp2_with (first
    | (go_at_call 20; (with_reducible refine (P _).mono ?_); rintro e w1 ⟨rfl, hb1⟩; have H1 := Lib.hid (Lib.IsBuilderF.below H.out hb1); have K1 := Lib.hid (Kept.of (b := b) hb1 hB); have hz1 := hb1.size)
    | (go_at_call 21; (with_reducible refine (wstr_kept B b _ s _ H1.out (by rw [bcells_len]; omega) (by omega)).mono ?_); rintro e w2 ⟨rfl, h2, hb2, hk2⟩; rw [bcells_join] at h2; have H2 := Lib.hid (used_any h2); have K2 := Lib.hid (K1.out.trans ⟨hb2, hk2⟩); clear h2))
  go_end0
  rw [HT.out] at H2
  exact ⟨rfl, H2.out, K2.out⟩

theorem twos_more {R : List Rc} {k : Nat} {x y z : Int} (h : k < R.length) (hr : R.getD k rz = (x, y, z)) : twos (nums (R.take (k + 1))) = twos (nums (R.take k)) ++ two (2048 * x + y % 1440) := by
  have e : R[k]? = some (x, y, z) := by
    rw [List.getElem?_eq_getElem h]
    rw [List.getD_eq_getElem?_getD, List.getElem?_eq_getElem h] at hr
    simpa using hr
  rw [List.take_add_one, e, nums_append, twos_append]
  simp [nums, num, twos]

theorem Kept.ownR {B b base : Nat} {w w' : World} {v : Value} {l : List Rc} (h : OwnR base w v l) (k : Kept B b w w') (hb : b < base) : OwnR base w' v l :=
  Kept.row h k (fun e => by have := (World.ownsRow.lt h b e).1; omega) (by decide)

set_option maxRecDepth 20000 in
set_option maxHeartbeats 2000000 in
theorem layDay_any (B b : Nat) (u : List UInt8) (A : Option Addr) (c n : Nat) (l : List Rc) (s1 s2 : Int) (w : World) (hn : l.length = n) (hr : RdR w A l) (hz : (checkV l).2 = 0) (hs : s1 < s2) (hl : n ≤ 10000)
    (h : Lib.IsBuilderF 50 5 B b (Lib.byteCells (u)) w) (hu : u.length + 2 + 2 * n ≤ 1000000) (hB : B ≤ w.heap.size) :
    Calls Try.prog 23 #[.slice A n c, .agg #[.int .i64 s1, .int .i64 s2], .func (.func 19) #[] #[.pointer (some ⟨b, 0, none⟩)]] w fun e w' => e = .returned (.tuple #[]) ∧ Lib.IsBuilderF 50 5 B b (Lib.byteCells (u ++ dayT (cutR l (s1, s2)))) w' ∧ Kept B b w w' := by
  have eg : ∀ args w, (callFunc 19 args).run Try.prog w = .ok (.enter 19 args) w := enters_of Try.func19 (by kernel_rfl) rfl
  have CT := fun W (h : RdR W A l) => cutl_any A c l s1 s2 W h (by omega)
  rw [hn] at CT
  have hcv : cutV s1 s2 l = (cutR l (s1, s2), 0) := by unfold cutV; rw [if_pos hz, if_pos hs]; rfl
  rw [hcv] at CT
  dsimp only at CT
  have htl : Tl (beg (withinV s1 s2 l)) (cutR l (s1, s2)) := (norm_tl (within_tl (a := s1) (b := s2) hs (check_tl hz))).1
  have hlen : (cutR l (s1, s2)).length ≤ n := by
    have h1 := norm_len (withinV s1 s2 l)
    have h2 := within_len s1 s2 l
    show (normV (withinV s1 s2 l)).length ≤ n
    omega
  have HA := Lib.hid htl.at_
  have hbl := builder_lt h
  generalize cutR l (s1, s2) = R at *
  obtain ⟨m, hm⟩ : ∃ m, R.length = m := ⟨_, rfl⟩
  have HM := Lib.hid hm
  rw [hm] at hlen
  have CT2 : ∀ W, RdR W A l → Calls Try.prog 40 #[.slice A n c, .agg #[.int .i64 s1, .int .i64 s2]] W fun e w' => ∃ A2 c2, e = .returned (.tuple #[.slice A2 m c2, .int .i64 0]) ∧ OwnR W.heap.size w' (.slice A2 m c2) R ∧ Below W.heap.size W w' := fun W hr => (CT W hr).mono fun e w' ⟨v, he, ho, hb⟩ => by
    obtain ⟨A2, c2, hv, _, _⟩ := ho.read
    rw [hm] at hv
    exact ⟨A2, c2, by rw [he, hv], by rw [← hv]; exact ho, hb⟩
  have HR := Lib.hid (hr.below ((Below.refl _ _).alloc (Nat.le_refl _) (.cells #[.int .i64 s1, .int .i64 s2] 45)))
  have H := Lib.hid (Lib.IsBuilderF.alloc h (.cells #[.int .i64 s1, .int .i64 s2] 45))
  have K := Lib.hid ((Kept.refl B b w).alloc hB (.cells #[.int .i64 s1, .int .i64 s2] 45))
  clear CT hr h hz htl hcv hm hn
  go_enter Try.func23, Try.ntmps23
  go_wp2_with (first
    | (go_at_call 40; (with_reducible refine (CT2 _ HR.out).mono ?_); rintro e w1 ⟨A2, c2, rfl, ho1, hb1⟩; have HO1 := Lib.hid ho1; have H1 := Lib.hid (Lib.IsBuilderF.below H.out hb1); have hz1 := hb1.size; (try simp at hz1); have K1 := Lib.hid (K.out.trans (Kept.of (b := b) hb1 (by simp; omega))); clear ho1)
    | (go_at_fn 19; (with_reducible refine (lay11_any B b u (m : Int) _ H1.out (by omega) (by omega) (by omega) (by omega)).mono ?_); rintro e w2 ⟨rfl, h2, k2⟩; have H2 := Lib.hid h2; have K2 := Lib.hid (K1.out.trans k2); have HO2 := Lib.hid (Kept.ownR HO1.out k2 (by simp; omega)); have hz2 := k2.size; clear h2 k2))
  have hb1w : b < w.heap.size + 1 := by omega
  go_loopw [24] (fun i wr => ∃ k : Nat, k ≤ m ∧ i = .int .i64 k ∧ Hid (Lib.IsBuilderF 50 5 B b (Lib.byteCells (u ++ two (m : Nat) ++ twos (nums (R.take k)))) wr) ∧ Hid (OwnR (w.heap.size + 1) wr (.slice A2 m c2) R) ∧ Kept B b w2 wr) (fun i _ => m - (intOf i).toNat)
  case atStart => exact ⟨0, Nat.zero_le _, rfl, Lib.hid (by have := H2.out; simpa [nums, twos] using this), Lib.hid (by have := HO2.out; simpa using this), Kept.refl _ _ _⟩
  case round =>
    obtain ⟨k, hk, rfl, HB, HO, hkp⟩ := hrel
    have hzr := hkp.size
    by_cases hlt : k < m
    · obtain ⟨bo, off, x, y, z, rfl, hbo, hc0, hc1, hc2, hxyz⟩ := HO.out.rd.at_ (k := k) (by rw [HM.out]; exact hlt)
      have hal := HA.out k (by rw [HM.out]; exact hlt)
      rw [hxyz.out] at hal
      obtain ⟨⟨x0, x1⟩, y0, y1, y2⟩ := hal
      dsimp only at x0 x1 y0 y1 y2
      have CH := fun W => change_any x (y % 1440) W
      have hcv : changeV x (y % 1440) = (2048 * x + y % 1440, 0) := by unfold changeV; rw [if_pos ⟨x0, x1⟩, if_pos (by omega)]
      rw [hcv] at CH
      dsimp only at CH
      have HT := Lib.hid (twos_more (by rw [HM.out]; exact hlt) hxyz.out)
      have hnk : (nums (R.take k)).length ≤ m := by rw [nums_len, List.length_take]; omega
      have hul : (u ++ two (m : Nat) ++ twos (nums (R.take k))).length ≤ 1000000 := by rw [List.length_append, List.length_append, two_len, twos_len]; omega
      obtain ⟨v, hv⟩ : ∃ v, 2048 * x + y % 1440 = v := ⟨_, rfl⟩
      have v0 : 0 ≤ v := by omega
      have v1 : v ≤ 65535 := by omega
      rw [hv] at CH HT
      have H3 := Lib.hid (Lib.IsBuilderF.alloc HB.out (.cells #[.int .i64 x, .int .i64 y, .int .i64 z] 73))
      have K3 := Lib.hid (hkp.alloc (by omega) (.cells #[.int .i64 x, .int .i64 y, .int .i64 z] 73))
      have HO3 := Lib.hid (HO.out.alloc (.cells #[.int .i64 x, .int .i64 y, .int .i64 z] 73))
      have hyw : y % 1440 < 1440 := by omega
      have HU := Lib.hid (show u ++ two (m : Nat) ++ twos (nums (R.take (k + 1))) = (u ++ two (m : Nat) ++ twos (nums (R.take k))) ++ two v by rw [HT.out]; simp only [List.append_assoc])
      generalize u ++ two (m : Nat) ++ twos (nums (R.take k)) = t at H3 hul HU
      clear hcv hv hxyz HB HO HT
      go_wp2_with (first
        | (go_at_call 6; (with_reducible refine (CH _).mono ?_); rintro e w' ⟨rfl, rfl⟩)
        | (go_at_fn 19; (with_reducible refine (lay11_any B b t v _ H3.out v0 v1 hul (by simp; omega)).mono ?_); rintro e w4 ⟨rfl, h4, k4⟩; have H4 := Lib.hid h4; have K4 := Lib.hid (K3.out.trans k4); have HO4 := Lib.hid (Kept.ownR HO3.out k4 (by omega)); clear h4 k4))
      go_roundw
      case rel => exact ⟨k + 1, by omega, by go_num, Lib.hid (by rw [HU.out]; exact H4.out), HO4, K4.out⟩
      case measure => simp [intOf]; omega
    · have HT : Hid (u ++ two (m : Nat) ++ twos (nums (R.take k)) = u ++ dayT R) := Lib.hid (by
        rw [List.take_of_length_le (by rw [HM.out]; omega)]
        unfold dayT
        rw [HM.out]; simp)
      rw [HT.out] at HB
      go_wp2
      go_end0
      exact ⟨rfl, HB.out, K2.out.trans hkp⟩

end Go.Proofs.Ytgmcikajhnnaaaa
