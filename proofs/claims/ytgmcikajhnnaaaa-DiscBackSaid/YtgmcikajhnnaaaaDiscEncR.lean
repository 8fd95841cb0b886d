/- What the document's own Encode of layer 11 returns. Conditions: the records can be read; at most a million of them. -/
import Derived.Test.YtgmcikajhnnaaaaRows
import Derived.Test.YtgmcikajhnnaaaaBase
import Derived.Test.YtgmcikajhnnaaaaRow
import Derived.Test.YtgmcikajhnnaaaaRecHeap
import Derived.Test.YtgmcikajhnnaaaaRecCheckR
import Derived.Test.YtgmcikajhnnaaaaRecSmall
import Derived.Test.YtgmcikajhnnaaaaRecKinds
import Derived.Test.YtgmcikajhnnaaaaSumC
import Derived.Test.YtgmcikajhnnaaaaSumOpen
import Derived.Test.YtgmcikajhnnaaaaZ1
import Derived.WalkKit
import Derived.WalkSpells
import Derived.WalkSmall
import Derived.Below
import Derived.Lib.Hide
import Derived.Outline
import Derived.OwnWalk
import Derived.BigQuiet
import Derived.Deep.QuietTactic
namespace Go.Proofs.Ytgmcikajhnnaaaa
open Go.RowKit

theorem kinds_pos {l : List Rc} {e : Int} (hne : l ≠ []) (h : Tl e l) : 0 < (kindsV l).length := by
  have := h.len hne
  cases l with
  | nil => exact absurd rfl hne
  | cons r l =>
    have h2 := h.1.2
    rw [kinds_cons, List.length_append, List.length_replicate]
    omega

theorem body_part {l : List Rc} (h : (checkV l).2 = 0) (hne : l ≠ []) : bodyL l = bodyV (beg l) (beg l + ((kindsV l).length : Int)) (partR (beg l) (kindsV l)) := by
  have ht := check_tl h
  have hl := ht.len hne
  unfold bodyL bodyV
  rw [hl.1, chn_congr (g := partR (beg l) (kindsV l)) (chn_daysV (a := beg l) (b := fin l) (by omega)) (Int.le_refl _) (Int.le_refl _) (fun x y h1 h2 h3 => cut_part ht hne h1 h2 h3)]

set_option maxRecDepth 100000 in
set_option maxHeartbeats 4000000 in
theorem refenc_any (A : Option Addr) (c : Nat) (l : List Rc) (w : World) (h : RdR w A l) (hl : l.length ≤ 1000000) :
    Calls Try.prog 11 #[.slice A l.length c] w fun e w' => e = .returned (.tuple #[.string (encV l).1, .int .i64 (encV l).2]) ∧ Below w.heap.size w w' := by
  have CK := fun W (hr : RdR W A l) => refrcheck_any A c l W hr (by omega)
  have HR := Lib.hid h
  clear h
  by_cases hz : (checkV l).2 = 0
  · by_cases hne : l = []
    · subst hne
      rw [enc_none]
      rw [hz] at CK
      generalize (checkV []).1 = pl at CK
      simp only [List.length_nil] at CK hl ⊢
      clear hz
      go_enter Try.func11, Try.ntmps11
      go_wp2_with (go_at_call 26; (with_reducible refine (CK _ HR.out).mono ?_); rintro e w1 ⟨rfl, hb1⟩; have HR1 := Lib.hid (HR.out.below hb1))
      go_ret2
      exact ⟨rfl, hb1⟩
    · rw [enc_ok hz hne, body_part hz hne]
      have ht := check_tl hz
      have hbd := ht.bd
      have hft := ht.len hne
      have hfn : fin l = beg l + ((kindsV l).length : Int) := hft.1.symm
      have hkb := Lib.hid ht.kinds
      have hpos : 0 < l.length := List.length_pos_iff.2 hne
      have hkpos : 0 < (kindsV l).length := by
        have := kinds_pos hne ht
        exact this
      obtain ⟨ln, hln⟩ : ∃ ln, l.length = ln := ⟨_, rfl⟩
      have BG := fun W (hr : RdR W A l) => refbeg_any A c ln l W (Lib.hid hln) hr (by omega)
      have FN := fun W (hr : RdR W A l) => reffin_any A c ln l W (Lib.hid hln) hr (by omega)
      have KD := fun W (hr : RdR W A l) => refkinds_any A c l W hr ht (by omega)
      rw [hz] at CK
      rw [hln] at CK KD hl hpos ⊢
      rw [hfn] at FN
      generalize (checkV l).1 = pl at CK
      generalize kindsV l = ks at *
      generalize beg l = p at *
      clear hft hfn ht hz hln hne
      obtain ⟨N, hN⟩ : ∃ N, ks.length = N := ⟨_, rfl⟩
      obtain ⟨hp0, hpN⟩ := hbd
      have H0 := Lib.hid (encS_zero (p := p) (ks := ks) (S := ⟨#[72, 68]⟩ ++ layB p ++ layB (p + (ks.length : Int))) (by rw [ba_app, ba_app]; rfl))
      have HEND := Lib.hid fun S D n => encS_end (p := p) (ks := ks) (S := S) (D := D) (n := n)
      have HBD := Lib.hid (rfl : bodyV p (p + (ks.length : Int)) (partR p ks) = bodyV p (p + (ks.length : Int)) (partR p ks))
      generalize bodyV p (p + (ks.length : Int)) (partR p ks) = BB at HEND ⊢
      clear HBD
      rw [hN] at FN hpN hkpos H0 HEND
      have PP := fun W => refput_any p W (by omega) (by omega)
      have PE := fun W => refput_any (p + (N : Int)) W (by omega) (by omega)
      have zp := layB_size p
      have ze := layB_size (p + (N : Int))
      generalize layB p = bp at *
      generalize layB (p + (N : Int)) = be at *
      have z1 : (⟨#[72, 68]⟩ : ByteArray).size = 2 := rfl
      have z2 : (⟨#[72, 68]⟩ ++ bp : ByteArray).size = 4 := by rw [ByteArray.size_append, z1, zp]
      have hnp : (0 : Int) < (ln : Int) := by omega
      have hln0 : ((ln : Int) == 0) = false := by simp; omega
      have HKN := Lib.hid hN
      have HKP := Lib.hid hkpos
      clear hN hkpos
      have hl3 : ln ≤ 1000000 := hl
      clear hl
      have hKL : ∀ W, RdR W A l → Calls Try.prog 28 #[.slice A ln c] W fun e w' => ∃ A2 c2, e = .returned (.slice A2 N c2) ∧ RdN w' A2 ks ∧ Below W.heap.size W w' := fun W hr => (KD W hr).mono fun e w' ⟨v, he, ho, hb⟩ => by
        obtain ⟨A2, c2, hv, hr2⟩ := ho.read
        exact ⟨A2, c2, by rw [he, hv, HKN.out], hr2, hb⟩
      clear KD
      go_enter Try.func11, Try.ntmps11
      go_wp2_with (first | (go_at_call 26; (with_reducible refine (CK _ HR.out).mono ?_); rintro e w1 ⟨rfl, hb1⟩; have HR1 := Lib.hid (HR.out.below hb1)) | (go_at_call 27; (with_reducible refine (BG _ HR1.out).mono ?_); rintro e w' ⟨rfl, rfl⟩) | (go_at_call 28; (with_reducible refine (hKL _ HR1.out).mono ?_); rintro e w2 ⟨A2, c2, rfl, hr2, hb2⟩; have HK2 := Lib.hid hr2; have HR2 := Lib.hid (HR1.out.below hb2); clear hr2) | (go_at_call 29; (with_reducible refine (PP _).mono ?_); rintro e w3 ⟨rfl, hb3⟩; have HR3 := Lib.hid (HR2.out.below hb3); have HK3 := Lib.hid (HK2.out.below hb3)) | (go_at_call 30; (with_reducible refine (FN _ HR3.out).mono ?_); rintro e w' ⟨rfl, rfl⟩) | (go_at_call 29; (with_reducible refine (PE _).mono ?_); rintro e w4 ⟨rfl, hb4⟩; have HK4 := Lib.hid (HK3.out.below hb4)))
      have hB4 := b_tr (b_tr (b_tr hb1 hb2) hb3) hb4
      clear hb1 hb2 hb3 hb4 HR HR1 HR2 HR3 HK2 HK3 CK BG FN hKL PP PE
      go_loopw [8, 9, 10, 11] (fun v8 v9 v10 v11 wr => ∃ (k n : Nat) (S D : ByteArray), k ≤ N ∧ v11 = .int .i64 k ∧ v8 = .string S ∧ v9 = .string D ∧ v10 = .int .i64 n ∧ Hid (EncS p ks k S D n) ∧ Below w4.heap.size w4 wr) (fun _ _ _ v11 _ => N - (intOf v11).toNat)
      case atStart => exact ⟨0, 0, _, ⟨#[]⟩, Nat.zero_le _, rfl, rfl, rfl, rfl, H0, Below.refl _ _⟩
      case round =>
        clear H0 zp ze z1 z2
        obtain ⟨k, n, S, D, hk, rfl, rfl, rfl, rfl, HE0, hbw⟩ := hrel
        have hSD := HE0.out.size
        have hnk := HE0.out.le
        by_cases hlt : k < N
        · obtain ⟨b, off, x, rfl, hbb, hc, hx⟩ := HK4.out.at_ (k := k) (by rw [HKN.out]; exact hlt)
          rw [← hbw.cell (p := ⟨b, _, none⟩) hbb] at hc
          have hxb := hkb.out x (List.mem_of_getElem? hx.out)
          have PV := fun W => refput_any (2048 * x + (p + (k : Int)) % 1440) W (by omega) (by omega)
          have zv := layB_size (2048 * x + (p + (k : Int)) % 1440)
          have zDv : (D ++ layB (2048 * x + (p + (k : Int)) % 1440)).size = D.size + 2 := by rw [ByteArray.size_append, zv]
          obtain ⟨x0, x1⟩ := hxb
          rcases Nat.eq_zero_or_pos k with hk0 | hk0
          · have HE := Lib.hid (show EncS p ks (k + 1) S (D ++ layB (2048 * x + (p + (k : Int)) % 1440)) (n + 1) by subst hk0; exact encS_first HE0.out hx.out)
            have e0 : ((k : Int) == 0) = true := by simp [hk0]
            have e1 : decide ((0 : Int) < (k : Int)) = false := by simp [hk0]
            have g1 : (k : Int) ≤ 0 := by omega
            have HK0 := Lib.hid hk0
            generalize layB (2048 * x + (p + (k : Int)) % 1440) = bv at PV zv zDv HE
            clear hk0
            have q0 : True := trivial
            go_wp2
            refine wp_region_bel (by kernel_rfl) (by kernel_rfl) ?_
            repeat (go_big_quiet_step (first | (fail)))
            refine wpQuiet_nil ?_
            refine bel_all fun wq hbq => ?_
            have hcq := c_cl hc hbq
            clear q0
            go_wp2_with (go_at_call 29; (with_reducible refine (PV _).mono ?_); rintro e w6 ⟨rfl, hb6⟩)
            go_roundw
            case rel => exact ⟨k + 1, n + 1, S, _, by omega, by go_num, rfl, rfl, by first | rfl | go_num, HE, (b_tr (b_tr hbw hbq) hb6)⟩
            case measure => simp [intOf]; omega
          · obtain ⟨j, hj⟩ : ∃ j, k = j + 1 := ⟨k - 1, by omega⟩
            have HJ := Lib.hid hj
            have hkj : (k : Int) - 1 = (j : Int) := by omega
            have hjN : j < N := by omega
            have hjN2 : (j : Int) < (N : Int) := by omega
            have hkN2 : (k : Int) < (N : Int) := by omega
            have e0 : ((k : Int) == 0) = false := by simp; omega
            have e1 : decide ((0 : Int) < (k : Int)) = true := decide_eq_true (by omega)
            have g0 : (0 : Int) < (k : Int) := by omega
            clear hj
            by_cases hm : (p + (k : Int)) % 1440 = 0
            · have HE := Lib.hid (show EncS p ks (k + 1) (S ++ layB n ++ D) (layB (2048 * x + (p + (k : Int)) % 1440)) 1 by have := HJ.out; subst this; exact encS_flush HE0.out hm hx.out)
              have PN := fun W => refput_any (n : Int) W (by omega) (by omega)
              have zn := layB_size (n : Int)
              have zSn : (S ++ layB (n : Int)).size = S.size + 2 := by rw [ByteArray.size_append, zn]
              have e2 : ((p + (k : Int)) % 1440 == 0) = true := by simpa using hm
              generalize layB (2048 * x + (p + (k : Int)) % 1440) = bv at PV zv HE
              generalize layB (n : Int) = bn at PN zn zSn HE
              have zSD : (S ++ bn ++ D).size = S.size + 2 + D.size := by rw [ByteArray.size_append, zSn]
              clear hm zDv
              have q0 : True := trivial
              go_wp2_with (go_at_call 29; (with_reducible refine (PN _).mono ?_); rintro e w5 ⟨rfl, hb5⟩; have hc5 := c_cl hc hb5)
              refine wp_region_bel (by kernel_rfl) (by kernel_rfl) ?_
              repeat (go_big_quiet_step (first | (fail)))
              refine wpQuiet_nil ?_
              refine bel_all fun wq hbq => ?_
              have hcq := c_cl hc5 hbq
              clear q0
              go_wp2_with (go_at_call 29; (with_reducible refine (PV _).mono ?_); rintro e w6 ⟨rfl, hb6⟩)
              go_roundw
              case rel => exact ⟨k + 1, 1, _, _, by omega, by go_num, rfl, rfl, by first | rfl | go_num, HE, (b_tr (b_tr (b_tr hbw hb5) hbq) hb6)⟩
              case measure => simp [intOf]; omega
            · have e2 : ((p + (k : Int)) % 1440 == 0) = false := by simpa using hm
              obtain ⟨b', off', y, hA', hbb', hc', hy⟩ := HK4.out.at_ (k := j) (by rw [HKN.out]; exact hjN)
              simp only [Option.some.injEq, Addr.mk.injEq, and_true] at hA'
              obtain ⟨rfl, rfl⟩ := hA'
              rw [← hbw.cell (p := ⟨b, _, none⟩) hbb] at hc'
              have q0 : ∀ p : BelowOf wr, p.world.cell? ⟨b, off + k, none⟩ = some (.int .i64 x) := fun p => p.cell hc
              have q1 : ∀ p : BelowOf wr, p.world.cell? ⟨b, off + j, none⟩ = some (.int .i64 y) := fun p => p.cell hc'
              by_cases hxy : y = x
              · have HE := Lib.hid (show EncS p ks (k + 1) S D n by have h1 := HJ.out; subst h1; exact encS_same HE0.out hm hx.out (by rw [hy.out, hxy]))
                subst hxy
                have e3 : (y == y) = true := by simp
                clear hm hc' zDv zv PV
                have q3 : True := trivial
                go_wp2
                refine wp_region_bel (by kernel_rfl) (by kernel_rfl) ?_
                repeat (go_big_quiet_step (first | (fail)))
                refine wpQuiet_nil ?_
                refine bel_all fun wq hbq => ?_
                have hcq := c_cl hc hbq
                clear q0 q1 q3
                go_wp2
                go_roundw
                case rel => exact ⟨k + 1, n, S, D, by omega, by go_num, rfl, rfl, by first | rfl | go_num, HE, (b_tr hbw hbq)⟩
                case measure => simp [intOf]; omega
              · have HE := Lib.hid (show EncS p ks (k + 1) S (D ++ layB (2048 * x + (p + (k : Int)) % 1440)) (n + 1) by have h1 := HJ.out; subst h1; exact encS_other HE0.out hm hx.out hy.out hxy)
                have e3 : (x == y) = false := by simp; exact fun e => hxy e.symm
                have e4 : (x != y) = true := by simp; exact fun e => hxy e.symm
                generalize layB (2048 * x + (p + (k : Int)) % 1440) = bv at PV zv zDv HE
                clear hm hc' hxy
                have q3 : True := trivial
                go_wp2
                refine wp_region_bel (by kernel_rfl) (by kernel_rfl) ?_
                repeat (go_big_quiet_step (first | (fail)))
                refine wpQuiet_nil ?_
                refine bel_all fun wq hbq => ?_
                have hcq := c_cl hc hbq
                clear q0 q1 q3
                go_wp2_with (go_at_call 29; (with_reducible refine (PV _).mono ?_); rintro e w6 ⟨rfl, hb6⟩)
                go_roundw
                case rel => exact ⟨k + 1, n + 1, S, _, by omega, by go_num, rfl, rfl, by first | rfl | go_num, HE, (b_tr (b_tr hbw hbq) hb6)⟩
                case measure => simp [intOf]; omega
        · have hkN : k = N := by omega
          have HE := Lib.hid (show S ++ layB n ++ D = ⟨BB.toArray⟩ from HEND.out S D n (by have h1 := HE0.out; rw [hkN] at h1; exact h1) HKP.out)
          have PN := fun W => refput_any (n : Int) W (by omega) (by omega)
          have zn := layB_size (n : Int)
          generalize layB (n : Int) = bn at PN zn HE
          have zSn : (S ++ bn).size = S.size + 2 := by rw [ByteArray.size_append, zn]
          have zSD : (S ++ bn ++ D).size = S.size + 2 + D.size := by rw [ByteArray.size_append, zSn]
          have SL := fun W => refseal_any (S ++ bn ++ D) W (by omega)
          clear hkN
          go_wp2_with (first | (go_at_call 29; (with_reducible refine (PN _).mono ?_); rintro e w5 ⟨rfl, hb5⟩) | (go_at_call 31; (with_reducible refine (SL _).mono ?_); rintro e w6 ⟨rfl, hb6⟩))
          go_ret2
          rw [HE.out]
          exact ⟨rfl, b_tr (b_tr (b_tr hB4 hbw) hb5) hb6⟩
  · rw [enc_bad hz]
    generalize (checkV l).1 = pl at CK
    generalize (checkV l).2 = er at CK hz ⊢
    have hz' : (er != 0) = true := by simpa using hz
    have hz2 : (er == 0) = false := by simpa using hz
    clear hz
    go_enter Try.func11, Try.ntmps11
    go_wp2_with (go_at_call 26; (with_reducible refine (CK _ HR.out).mono ?_); rintro e w1 ⟨rfl, hb1⟩; have HR1 := Lib.hid (HR.out.below hb1))
    go_ret2
    exact ⟨rfl, hb1⟩

end Go.Proofs.Ytgmcikajhnnaaaa
