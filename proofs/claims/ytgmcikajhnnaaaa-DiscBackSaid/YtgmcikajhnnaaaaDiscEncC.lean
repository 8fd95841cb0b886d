/- What Encode of layer 11 returns. Conditions: the records can be read; at most ten thousand of them. -/
import Derived.Test.YtgmcikajhnnaaaaRows
import Derived.Test.YtgmcikajhnnaaaaDiscLay
import Derived.Test.YtgmcikajhnnaaaaDiscDays
import Derived.Test.YtgmcikajhnnaaaaDiscEncR
import Derived.Test.YtgmcikajhnnaaaaRecSpan
import Derived.Test.YtgmcikajhnnaaaaBStr
import Derived.WalkKit
import Derived.WalkSpells
import Derived.WalkSmall
import Derived.Below
import Derived.Lib.Hide
import Derived.Shelf.Strings.MapGrows
import Derived.Outline
import Derived.OwnWalk
import Derived.BigQuiet
import Derived.Deep.QuietTactic
namespace Go.Proofs.Ytgmcikajhnnaaaa
open Go.RowKit

theorem days_few : ∀ (n : Nat) (a b : Int), a ≤ b → ((days n a b).length : Int) * 1440 ≤ b - a + a % 1440 + 1439
  | 0, a, b, h => by
    have e : days 0 a b = [] := rfl
    rw [e]; simp; omega
  | n + 1, a, b, h => by
    by_cases hlt : a < b
    · have hs := day_step hlt
      have hl := lo2_is (dEnd a) b
      rw [days, if_pos hlt]
      by_cases hb : b ≤ dEnd a
      · have e : lo2 (dEnd a) b = b := by omega
        rw [e, days_end (Int.le_refl _)]
        simp; omega
      · have ih := days_few n (lo2 (dEnd a) b) b hs.2.1
        have e : lo2 (dEnd a) b = dEnd a := by omega
        rw [e] at ih ⊢
        have hm : dEnd a % 1440 = 0 := by unfold dEnd; omega
        rw [hm] at ih
        unfold dEnd at *
        rw [List.length_cons]
        omega
    · rw [days, if_neg hlt]; simp; omega

theorem chn_mem : ∀ {ds : List (Int × Int)} {a b : Int}, Chn a b ds → ∀ k, k < ds.length → a ≤ (ds.getD k (0, 0)).1 ∧ (ds.getD k (0, 0)).1 < (ds.getD k (0, 0)).2 ∧ (ds.getD k (0, 0)).2 ≤ b ∧ (ds.getD k (0, 0)).2 ≤ dEnd (ds.getD k (0, 0)).1
  | [], _, _, _, k, hk => by cases hk
  | s :: ds, a, b, h, k, hk => by
    obtain ⟨h1, h2, h3, h4, h5⟩ := h
    subst h1
    cases k with
    | zero => simpa using ⟨h2, h4, h3⟩
    | succ k =>
      have ih := chn_mem h5 k (by simpa using hk)
      simp at ih ⊢
      omega

theorem daysT_more {ds : List (Int × Int)} {f : Int × Int → List Rc} {k : Nat} {x y : Int} (h : k < ds.length) (hr : ds.getD k (0, 0) = (x, y)) : daysT (ds.take (k + 1)) f = daysT (ds.take k) f ++ dayT (f (x, y)) := by
  have e : ds[k]? = some (x, y) := by
    rw [List.getElem?_eq_getElem h]
    rw [List.getD_eq_getElem?_getD, List.getElem?_eq_getElem h] at hr
    simpa using hr
  rw [List.take_add_one, e, daysT_append]
  simp [daysT]

theorem daysT_len {f : Int × Int → List Rc} {n : Nat} (hf : ∀ s, (f s).length ≤ n) : ∀ ds : List (Int × Int), (daysT ds f).length ≤ ds.length * (2 + 2 * n)
  | [] => by simp [daysT]
  | s :: ds => by
    have ih := daysT_len hf ds
    have h1 := hf s
    rw [daysT_cons, List.length_append, dayT_len, List.length_cons, Nat.add_mul, Nat.one_mul]
    omega

theorem Kept.own {B b base : Nat} {w w' : World} {v : Value} {l : List Sp} (h : Own base w v l) (k : Kept B b w w') (hb : b < base) : Own base w' v l :=
  Kept.row h k (fun e => by have := (World.ownsRow.lt h b e).1; omega) (by decide)

theorem cutR_len (l : List Rc) (s : Int × Int) : (cutR l s).length ≤ l.length := by
  have h1 := norm_len (withinV s.1 s.2 l)
  have h2 := within_len s.1 s.2 l
  show (normV (withinV s.1 s.2 l)).length ≤ l.length
  omega

theorem wstr11_any (B b : Nat) (u : List UInt8) (s : ByteArray) (w : World) (h : Lib.IsBuilderF 50 5 B b (Lib.byteCells u) w) (hu : u.length + s.size ≤ 1000000) (hB : B ≤ w.heap.size) :
    Calls Try.prog 21 #[.pointer (some ⟨b, 0, none⟩), .string s] w fun e w' => e = .returned (.tuple #[.int .i64 s.size, .nilIface]) ∧ Lib.IsBuilderF 50 5 B b (Lib.byteCells (u ++ s.data.toList)) w' ∧ Kept B b w w' :=
  (wstr_kept B b _ s w h (by rw [bcells_len]; omega) hB).mono fun e w' ⟨he, h2, hb, hk⟩ => ⟨he, by rw [bcells_join] at h2; exact used_any h2, ⟨hb, hk⟩⟩

/-- The world in which Encode begins to write. -/
abbrev encW (w : World) (p q : Int) : World := (w.alloc (.cells #[.int .i64 p, .int .i64 q] 45)).alloc (.cells #[.pointer none, .slice none 0 0] 50)

theorem encW_size (w : World) (p q : Int) : (encW w p q).heap.size = w.heap.size + 2 := by simp [encW]

theorem encW_fresh (w : World) (p q : Int) : Lib.IsBuilderF 50 5 (w.heap.size + 1) (w.heap.size + 1) (Lib.byteCells []) (encW w p q) := by
  have h := Lib.IsBuilderF.of (Lib.fresh_isBuilder 50 5 (w.alloc (.cells #[.int .i64 p, .int .i64 q] 45)))
  rw [World.size_alloc] at h
  exact h

theorem encW_keep {w W : World} {p q : Int} (k : Kept (w.heap.size + 1) (w.heap.size + 1) (encW w p q) W) : W.cell? ⟨w.heap.size, 0, none⟩ = some (.int .i64 p) ∧ W.cell? ⟨w.heap.size, 1, none⟩ = some (.int .i64 q) ∧ Below w.heap.size w W ∧ w.heap.size + 2 ≤ W.heap.size := by
  have hs := k.size
  rw [encW_size] at hs
  refine ⟨(k.bel.cell (p := ⟨w.heap.size, 0, none⟩) (Nat.lt_succ_self _)).trans (by simp), (k.bel.cell (p := ⟨w.heap.size, 1, none⟩) (Nat.lt_succ_self _)).trans (by simp), ?_, hs⟩
  exact (((Below.refl w.heap.size w).alloc (Nat.le_refl _) _).alloc (by simp) _).trans (k.bel.mono (Nat.le_succ _))

theorem own_rd {base : Nat} {w : World} {A : Option Addr} {n c : Nat} {l : List Sp} (h : Own base w (.slice A n c) l) : RdS w A l := by
  obtain ⟨A', c', he, hr, _⟩ := h.form
  injection he with e1 e2 e3
  rw [e1]; exact hr

set_option maxRecDepth 100000 in
set_option maxHeartbeats 4000000 in
theorem enc_any (A : Option Addr) (c : Nat) (l : List Rc) (w : World) (h : RdR w A l) (hl : l.length ≤ 10000) :
    Calls Try.prog 10 #[.slice A l.length c] w fun e w' => e = .returned (.tuple #[.string (encV l).1, .int .i64 (encV l).2]) ∧ Below w.heap.size w w' := by
  have eg : ∀ args w, (callFunc 19 args).run Try.prog w = .ok (.enter 19 args) w := enters_of Try.func19 (by kernel_rfl) rfl
  have CK := fun W (hr : RdR W A l) => rcheck_any A c l W hr (by omega)
  have SP := fun W (hr : RdR W A l) => spant_any A c l.length l W (Lib.hid rfl) hr (by omega)
  have HR := Lib.hid h
  clear h
  by_cases hz : (checkV l).2 = 0
  · by_cases hne : l = []
    · subst hne
      rw [enc_none]
      rw [hz] at CK
      generalize (checkV []).1 = pl at CK
      rw [show spanTV [] = (0, 0, false) from rfl] at SP
      simp only [List.length_nil] at CK SP hl ⊢
      clear hz
      go_enter Try.func10, Try.ntmps10
      go_wp2_with (first | (go_at_call 17; (with_reducible refine (CK _ HR.out).mono ?_); rintro e w1 ⟨rfl, hb1⟩; have HR1 := Lib.hid (HR.out.below hb1)) | (go_at_call 18; (with_reducible refine (SP _ HR1.out).mono ?_); rintro e w2 ⟨rfl, hb2⟩))
      go_ret2
      exact ⟨rfl, by (repeat (first | exact Below.refl _ _ | (refine b_st ?_ (by first | (simp; done) | (simp; omega))) | (refine b_al ?_ (Nat.le_refl _) _) | refine b_dn ?_ | refine b_dr ?_ | (refine b_cl ?_ (Nat.le_refl _) (by assumption))))⟩
    · rw [enc_ok hz hne]
      have ht := check_tl hz
      have hft := ht.len hne
      have hkpos := kinds_pos hne ht
      have hpos : 0 < l.length := List.length_pos_iff.2 hne
      rw [show spanTV l = (beg l, fin l, true) by unfold spanTV; rw [if_pos ⟨hz, hne⟩]] at SP
      have HBL := Lib.hid (show bodyL l = [72, 68] ++ two (beg l) ++ two (fin l) ++ daysT (daysV (beg l) (fin l)) (cutR l) from rfl)
      have hch := chn_daysV (a := beg l) (b := fin l) (by omega)
      have hfew := days_few (fin l - beg l).toNat (beg l) (fin l) (by omega)
      rw [show days (fin l - beg l).toNat (beg l) (fin l) = daysV (beg l) (fin l) from rfl] at hfew
      have CD := fun W => days_any (beg l) (fin l) W (by omega) (by omega) (by omega) (by omega)
      have HTL := Lib.hid (show ∀ ds : List (Int × Int), (daysT ds (cutR l)).length ≤ ds.length * (2 + 2 * l.length) from daysT_len (cutR_len l))
      obtain ⟨p, hp⟩ : ∃ p, beg l = p := ⟨_, rfl⟩
      obtain ⟨q, hq⟩ : ∃ q, fin l = q := ⟨_, rfl⟩
      rw [hp] at hft
      rw [hq] at hft
      rw [hp, hq] at SP HBL hch hfew CD
      generalize daysV p q = ds at *
      obtain ⟨N, hN⟩ : ∃ N, ds.length = N := ⟨_, rfl⟩
      rw [hN] at hfew
      have hN30 : N ≤ 30 := by omega
      have HCH := Lib.hid (chn_mem hch)
      have HDN := Lib.hid hN
      obtain ⟨n, hn⟩ : ∃ n, l.length = n := ⟨_, rfl⟩
      have HNL := Lib.hid hn
      rw [hz] at CK
      rw [hn] at CK SP hl HTL hpos ⊢
      have hpq : 0 ≤ p ∧ p < q ∧ q ≤ 40320 := by omega
      generalize (checkV l).1 = pl at CK
      have CD2 : ∀ W, Calls Try.prog 22 #[.agg #[.int .i64 p, .int .i64 q]] W fun e w' => ∃ A2 c2, e = .returned (.slice A2 N c2) ∧ Own W.heap.size w' (.slice A2 N c2) ds ∧ Below W.heap.size W w' := fun W => (CD W).mono fun e w' ⟨v, he, ho, hb⟩ => by
        obtain ⟨A2, c2, hv, _, _, _⟩ := ho.form
        rw [HDN.out] at hv
        exact ⟨A2, c2, by rw [he, hv], by rw [← hv]; exact ho, hb⟩
      have HZ := Lib.hid hz
      have HSE := Lib.hid (show sealB ⟨(bodyL l).toArray⟩ = sealB ⟨(bodyL l).toArray⟩ from rfl)
      obtain ⟨p0, pq, q1⟩ := hpq
      clear CD hz hn hN hft hkpos hch hfew HSE ht hp hq
      have hzHD : (⟨#[72, 68]⟩ : ByteArray).size = 2 := rfl
      have hlHD : (⟨#[72, 68]⟩ : ByteArray).data.toList = [72, 68] := rfl
      go_enter Try.func10, Try.ntmps10
      go_wp2_with (first
        | (go_at_call 17; (with_reducible refine (CK _ HR.out).mono ?_); rintro e w1 ⟨rfl, hb1⟩; have HR1 := Lib.hid (HR.out.below hb1))
        | (go_at_call 18; (with_reducible refine (SP _ HR1.out).mono ?_); rintro e w2 ⟨rfl, hb2⟩; have HR2 := Lib.hid (HR1.out.below hb2); have hB2 := b_tr hb1 hb2; clear hb1 hb2)
        | (go_at_call 21; (with_reducible refine (wstr11_any (w2.heap.size + 1) (w2.heap.size + 1) [] ⟨#[72, 68]⟩ (encW w2 p q) (encW_fresh w2 p q) (by rw [hzHD]; simp) (by rw [encW_size]; omega)).mono ?_); rintro e w3 ⟨rfl, h3, k3⟩; have H3 := Lib.hid h3; have K3 := Lib.hid (k3); obtain ⟨c30, c31, hbb3, hz3⟩ := encW_keep K3.out; clear h3 k3)
        | (go_at_fn 19; (with_reducible refine (lay11_any (w2.heap.size + 1) (w2.heap.size + 1) _ p _ H3.out (by omega) (by omega) (by simp) (by omega)).mono ?_); rintro e w4 ⟨rfl, h4, k4⟩; have H4 := Lib.hid h4; have K4 := Lib.hid (K3.out.trans k4); obtain ⟨c40, c41, hbb4, hz4⟩ := encW_keep K4.out; clear h4 k4)
        | (go_at_fn 19; (with_reducible refine (lay11_any (w2.heap.size + 1) (w2.heap.size + 1) _ q _ H4.out (by omega) (by omega) (by simp [two_len]) (by omega)).mono ?_); rintro e w5 ⟨rfl, h5, k5⟩; have H5 := Lib.hid h5; have K5 := Lib.hid (K4.out.trans k5); obtain ⟨c50, c51, hbb5, hz5⟩ := encW_keep K5.out; clear h5 k5)
        | (go_at_call 22; (with_reducible refine (CD2 _).mono ?_); rintro e w6 ⟨A6, c6, rfl, ho6, hb6⟩; have H6 := Lib.hid (Lib.IsBuilderF.below H5.out hb6); have HO6 := Lib.hid ho6; have K6 := Lib.hid (K5.out.trans (Kept.of (b := w2.heap.size + 1) hb6 (by omega))); obtain ⟨c60, c61, hbb6, hz6⟩ := encW_keep K6.out; clear ho6 hb6))
      have HU0 : Hid (Lib.IsBuilderF 50 5 (w2.heap.size + 1) (w2.heap.size + 1) (Lib.byteCells ([72, 68] ++ two p ++ two q)) w6) := Lib.hid (by have := H6.out; exact this)
      have hR2 := HR2
      clear H3 H4 H5 H6 K3 K4 K5 c30 c31 c40 c41 c50 c51 c60 c61 hbb3 hbb4 hbb5 hbb6 CK SP CD2
      go_loopw [40] (fun i wr => ∃ k : Nat, k ≤ N ∧ i = .int .i64 k ∧ Hid (Lib.IsBuilderF 50 5 (w2.heap.size + 1) (w2.heap.size + 1) (Lib.byteCells ([72, 68] ++ two p ++ two q ++ daysT (ds.take k) (cutR l))) wr) ∧ Hid (Own w5.heap.size wr (.slice A6 N c6) ds) ∧ Kept (w2.heap.size + 1) (w2.heap.size + 1) (encW w2 p q) wr) (fun i _ => N - (intOf i).toNat)
      case atStart => exact ⟨0, Nat.zero_le _, rfl, Lib.hid (by have := HU0.out; simpa [daysT] using this), HO6, K6.out⟩
      case round =>
        clear HU0 HO6
        obtain ⟨k, hk, rfl, HB, HO, hkp⟩ := hrel
        obtain ⟨_, _, hbw, hzw⟩ := encW_keep hkp
        by_cases hlt : k < N
        · obtain ⟨bo, off, x, y, rfl, hbo, hc0, hc1, hxy⟩ := (own_rd HO.out).at_ (k := k) (by rw [HDN.out]; exact hlt)
          have hch := HCH.out k (by rw [HDN.out]; exact hlt)
          rw [hxy.out] at hch
          obtain ⟨hch1, hch2, hch3, _⟩ := hch
          dsimp only at hch1 hch2 hch3
          have HT := Lib.hid (daysT_more (f := cutR l) (by rw [HDN.out]; exact hlt) hxy.out)
          have hul : ([72, 68] ++ two p ++ two q ++ daysT (ds.take k) (cutR l)).length + 2 + 2 * n ≤ 1000000 := by
            have h1 := HTL.out (ds.take k)
            have h2 : (ds.take k).length * (2 + 2 * n) ≤ 30 * (2 + 2 * n) := Nat.mul_le_mul_right _ (by rw [List.length_take]; omega)
            simp only [List.length_append, two_len, List.length_cons, List.length_nil]
            omega
          have HU := Lib.hid (show [72, 68] ++ two p ++ two q ++ daysT (ds.take (k + 1)) (cutR l) = ([72, 68] ++ two p ++ two q ++ daysT (ds.take k) (cutR l)) ++ dayT (cutR l (x, y)) by rw [HT.out]; simp only [List.append_assoc])
          have H3 := Lib.hid (Lib.IsBuilderF.alloc HB.out (.cells #[.int .i64 x, .int .i64 y] 45))
          have K3 := Lib.hid (hkp.alloc (by rw [encW_size]; omega) (.cells #[.int .i64 x, .int .i64 y] 45))
          have HO3 := Lib.hid (HO.out.alloc (.cells #[.int .i64 x, .int .i64 y] 45))
          have HR3 := Lib.hid (HR2.out.below (hbw.alloc hbw.size (.cells #[.int .i64 x, .int .i64 y] 45)))
          generalize [72, 68] ++ two p ++ two q ++ daysT (ds.take k) (cutR l) = u at H3 hul HU
          have LD := fun W h1 h2 h3 => layDay_any (w2.heap.size + 1) (w2.heap.size + 1) u A c n l x y W HNL.out h1 HZ.out hch2 hl h2 hul h3
          clear HB HO HT hxy
          go_wp2_with (go_at_call 23; (with_reducible refine (LD _ HR3.out H3.out (by simp; omega)).mono ?_); rintro e w7 ⟨rfl, h7, k7⟩; have H7 := Lib.hid h7; have K7 := Lib.hid (K3.out.trans k7); have HO7 := Lib.hid (Kept.own HO3.out k7 (by omega)); clear h7 k7)
          go_roundw
          case rel => exact ⟨k + 1, by omega, by go_num, Lib.hid (by rw [HU.out]; exact H7.out), HO7, K7.out⟩
          case measure => simp [intOf]; omega
        · have HT : Hid ([72, 68] ++ two p ++ two q ++ daysT (ds.take k) (cutR l) = bodyL l) := Lib.hid (by rw [List.take_of_length_le (by rw [HDN.out]; omega), HBL.out])
          have hul : (bodyL l).length ≤ 1000000 := by
            have h1 := HTL.out ds
            have h2 : ds.length * (2 + 2 * n) ≤ 30 * (2 + 2 * n) := Nat.mul_le_mul_right _ (by rw [HDN.out]; omega)
            rw [HBL.out]
            simp only [List.length_append, two_len, List.length_cons, List.length_nil]
            omega
          rw [HT.out] at HB
          obtain ⟨bo, hbo⟩ : ∃ bo, bodyL l = bo := ⟨_, rfl⟩
          have HSB := Lib.hid (show sealB ⟨(bodyL l).toArray⟩ = sealB ⟨bo.toArray⟩ by rw [hbo])
          rw [hbo] at HB hul
          have SL := fun W => seal_any ⟨bo.toArray⟩ W (by rw [size_of]; simpa using hul)
          generalize sealB ⟨bo.toArray⟩ = sb at SL HSB
          clear HT hul HBL hbo
          go_wp2_with (first
            | (go_at_call 25; (with_reducible refine (bstr_any (w2.heap.size + 1) (w2.heap.size + 1) _ _ HB.out (by omega)).mono ?_); rintro e w7 ⟨rfl, _, hb7, _⟩)
            | (go_at_call 24; (with_reducible refine (SL _).mono ?_); rintro e w8 ⟨rfl, hb8⟩))
          go_ret2
          rw [HSB.out]
          exact ⟨rfl, b_tr hB2 (b_tr (hbw.trans (hb7.mono (by omega))) hb8)⟩
  · rw [enc_bad hz]
    generalize (checkV l).1 = pl at CK
    generalize (checkV l).2 = er at CK hz ⊢
    have hz' : (er != 0) = true := by simpa using hz
    have hz2 : (er == 0) = false := by simpa using hz
    clear hz
    go_enter Try.func10, Try.ntmps10
    go_wp2_with (go_at_call 17; (with_reducible refine (CK _ HR.out).mono ?_); rintro e w1 ⟨rfl, hb1⟩)
    go_ret2
    exact ⟨rfl, hb1⟩

end Go.Proofs.Ytgmcikajhnnaaaa
