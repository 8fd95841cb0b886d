/- What Both of layer 3 returns: the set of what both lists have. Conditions: the spans can be read; at most a thousand in each. -/
import Derived.Test.YtdifgbnapcnmlaaRows
import Derived.Test.YtdifgbnapcnmlaaBase
import Derived.Test.YtdifgbnapcnmlaaIvalsWords
import Derived.Test.YtdifgbnapcnmlaaIvalsOwn
import Derived.Test.YtdifgbnapcnmlaaIvalTwo
import Derived.Test.YtdifgbnapcnmlaaIvalsMakeC
import Derived.WalkKit
import Derived.WalkSpells
import Derived.WalkSmall
import Derived.Below
import Derived.Outline
import Derived.OwnWalk
import Derived.Lib.Hide
import Derived.BigQuiet
import Derived.Deep.QuietTactic
import Derived.Deep.RegionHeld3
import Derived.Deep.DeepCutAuto
namespace Go.Proofs.Ytdifgbnapcnmlaa
open Go.RowKit

theorem keep4s {W w1 : World} {p0 p1 p2 p3 : Addr} {v0 v1 v2 v3 : Value} (hb : Below W.heap.size W w1) (h : W.cell? p0 = some v0 ∧ W.cell? p1 = some v1 ∧ W.cell? p2 = some v2 ∧ W.cell? p3 = some v3) :
    w1.cell? p0 = some v0 ∧ w1.cell? p1 = some v1 ∧ w1.cell? p2 = some v2 ∧ w1.cell? p3 = some v3 := by
  obtain ⟨h0, h1, h2, h3⟩ := h
  exact ⟨c_cl h0 hb, c_cl h1 hb, c_cl h2 hb, c_cl h3 hb⟩

theorem RdS.tail {w : World} {b off : Nat} {s : Sp} {l : List Sp} (h : RdS w (some ⟨b, off, none⟩) (s :: l)) : RdS w (some ⟨b, off + 2, none⟩) l := fun hne => by
  obtain ⟨b', off', hA, hb, hk⟩ := h (by simp)
  obtain ⟨rfl, rfl⟩ : b = b' ∧ off = off' := by simpa using hA
  refine ⟨b, off + 2, rfl, hb, fun k hk' => ?_⟩
  have := hk (k + 1) (by simpa using hk')
  have e : off + (k + 1) * 2 = off + 2 + k * 2 := by omega
  rw [e] at this
  simpa using this

theorem both1_yes {s t : Sp} (h : up2 s.1 t.1 < lo2 s.2 t.2) : both1 s t = [(up2 s.1 t.1, lo2 s.2 t.2)] := by unfold both1; exact if_pos h

theorem both1_no {s t : Sp} (h : ¬ up2 s.1 t.1 < lo2 s.2 t.2) : both1 s t = [] := by unfold both1; exact if_neg h

set_option maxRecDepth 100000 in
set_option maxHeartbeats 4000000 in
theorem bothl_any (A B : Option Addr) (c d : Nat) (a b : List Sp) (w : World) (ha : RdS w A a) (hb : RdS w B b) (hla : a.length ≤ 1000) (hlb : b.length ≤ 1000) :
    Calls Try.prog 32 #[.slice A a.length c, .slice B b.length d] w fun e w' => ∃ v, e = .returned v ∧ Own w.heap.size w' v (bothOf a b) ∧ Below w.heap.size w w' := by
  obtain ⟨i0, hi, hz0, hz1, hz2⟩ := info_parts info_span
  have tok1 : True := trivial
  have HA := Lib.hid ha
  have HB := Lib.hid hb
  clear ha hb
  go_enter Try.func32, Try.ntmps32
  go_wp2_with (first
    | (go_at_call 34; have _t := tok1; refine (makel_any A c a _ HA.out hla).mono ?_; rintro e w1 ⟨v1, rfl, ho1, hb1⟩; clear tok1; obtain ⟨A1, c1, rfl, hr1, hlc1, hcm1⟩ := ho1.form; have R1 := Lib.hid hr1; clear ho1 hr1)
    | (go_at_call 34; refine (makel_any B d b _ (HB.out.below hb1) hlb).mono ?_; rintro e w2 ⟨v2, rfl, ho2, hb2⟩; obtain ⟨A2, c2, rfl, hr2, hlc2, hcm2⟩ := ho2.form; have R2 := Lib.hid hr2; clear ho2 hr2))
  have HBW := Lib.hid (hb1.trans (hb2.mono hb1.size))
  have R1' := Lib.hid (R1.out.below hb2)
  have hwsz : w.heap.size ≤ w2.heap.size := HBW.out.size
  have hsa := setOf_len a
  have hsb := setOf_len b
  have HLB := Lib.hid (bothL_len _ (setOf a) (setOf b) (Nat.le_refl _))
  have HBO := Lib.hid (show bothL (setOf a) (setOf b) = bothOf a b from rfl)
  have hsum : (setOf a).length + (setOf b).length ≤ 2000 := by omega
  clear hb1 hb2 R1 HA HB hla hlb hsa hsb
  generalize setOf a = sa at *
  generalize setOf b = sb at *
  obtain ⟨res, hres0⟩ : ∃ res, bothOf a b = res := ⟨_, rfl⟩
  rw [hres0] at HBO
  have HRES := Lib.hid hres0
  clear hres0
  unfold maxLen at hcm1 hcm2
  go_loopw [0, 1, 5] (fun u v x wr => ∃ (ls rs out : List Sp) (na nb no : Nat) (Aa Ab Ao : Option Addr) (ca cb co : Nat), u = .slice Aa na ca ∧ v = .slice Ab nb cb ∧ x = .slice Ao no co ∧
      Hid (ls.length = na ∧ rs.length = nb ∧ out.length = no) ∧ (na ≤ ca ∧ ca ≤ 9223372036854775807 ∧ nb ≤ cb ∧ cb ≤ 9223372036854775807) ∧ Hid (RdS w2 Aa ls ∧ RdS w2 Ab rs) ∧ Hid (Own w2.heap.size wr (.slice Ao no co) out) ∧ Hid (out ++ bothL ls rs = res) ∧ Below w2.heap.size w2 wr)
    (fun u v _ _ => lenOf u + lenOf v)
  case atStart => exact ⟨sa, sb, [], _, _, 0, A1, A2, none, c1, c2, 0, rfl, rfl, rfl, Lib.hid ⟨rfl, rfl, rfl⟩, ⟨hlc1, hcm1, hlc2, hcm2⟩, Lib.hid ⟨R1'.out, R2.out⟩, Lib.hid (Own.nil _ _), HBO, Below.refl _ _⟩
  case round =>
    clear R1' R2 hlc1 hcm1 hlc2 hcm2
    obtain ⟨ls, rs, out, na, nb, no, Aa, Ab, Ao, ca, cb, co, rfl, rfl, rfl, hlens, ⟨hca, hcam, hcb, hcbm⟩, hrd, hown, hres, hbw⟩ := hrel
    obtain ⟨w3, rfl⟩ : ∃ w3 : World, w3 = wr := ⟨_, rfl⟩
    have hsz := hbw.size
    have hno : no ≤ 2000 := by
      have h1 := hlens.out.2.2
      have h2 := hres.out
      have h3 := HLB.out
      rw [← HBO.out] at h2
      have h4 := congrArg List.length h2
      rw [List.length_append] at h4
      omega
    by_cases hna : na = 0
    · subst hna
      have h0 : ls = [] := List.eq_nil_of_length_eq_zero hlens.out.1
      have HF := Lib.hid (show out = res by have := hres.out; rw [h0, bothL_nil_l, List.append_nil] at this; exact this)
      go_wp2
      go_ret
      have ho := hown.out
      rw [HF.out] at ho
      exact ⟨_, rfl, by rw [HRES.out]; exact ho.more hwsz, HBW.out.trans (hbw.mono hwsz)⟩
    · by_cases hnb : nb = 0
      · subst hnb
        have h0 : rs = [] := List.eq_nil_of_length_eq_zero hlens.out.2.1
        have HF := Lib.hid (show out = res by have := hres.out; rw [h0, bothL_nil_r, List.append_nil] at this; exact this)
        have hna' : (0 : Int) < (na : Int) := by omega
        go_wp2
        go_ret
        have ho := hown.out
        rw [HF.out] at ho
        exact ⟨_, rfl, by rw [HRES.out]; exact ho.more hwsz, HBW.out.trans (hbw.mono hwsz)⟩
      · obtain ⟨⟨x, y⟩, ls', rfl⟩ : ∃ s l, ls = s :: l := by
          cases ls with
          | nil => exact absurd hlens.out.1.symm hna
          | cons s l => exact ⟨s, l, rfl⟩
        obtain ⟨⟨x2, y2⟩, rs', rfl⟩ : ∃ s l, rs = s :: l := by
          cases rs with
          | nil => exact absurd hlens.out.2.1.symm hnb
          | cons s l => exact ⟨s, l, rfl⟩
        have hna' : (0 : Int) < (na : Int) := by omega
        have hnb' : (0 : Int) < (nb : Int) := by omega
        obtain ⟨ba, oa, u1, u2, rfl, hba, hc1, hc2, hs1⟩ := hrd.out.1.at_ (k := 0) (by simp)
        obtain ⟨bb, ob, u3, u4, rfl, hbb, hd1, hd2, hs2⟩ := hrd.out.2.at_ (k := 0) (by simp)
        obtain ⟨rfl, rfl⟩ : x = u1 ∧ y = u2 := by have := hs1.out; simpa using this
        obtain ⟨rfl, rfl⟩ : x2 = u3 ∧ y2 = u4 := by have := hs2.out; simpa using this
        simp only [Nat.zero_mul, Nat.add_zero] at hc1 hc2 hd1 hd2
        have hy0 := hc2
        have hy20 := hd2
        rw [← hbw.cell (p := ⟨ba, _, none⟩) hba] at hc1 hc2
        rw [← hbw.cell (p := ⟨bb, _, none⟩) hbb] at hd1 hd2
        have HT1 := Lib.hid hrd.out.1.tail
        have HT2 := Lib.hid hrd.out.2.tail
        clear hs1 hs2
        by_cases hok : up2 x x2 < lo2 y y2
        · have CB0 := fun W => both_yes x y x2 y2 W hok
          obtain ⟨s1, hs1⟩ : ∃ s, up2 x x2 = s := ⟨_, rfl⟩
          obtain ⟨s2, hs2⟩ : ∃ s, lo2 y y2 = s := ⟨_, rfl⟩
          have CB := CB0
          rw [hs1, hs2] at CB
          have HB1 := Lib.hid (show both1 (x, y) (x2, y2) = [(s1, s2)] by rw [both1_yes hok]; simp only [hs1, hs2])
          clear hs1 hs2 hok CB0
          go_upto_region 4 with fail
          go_cut [6, 7] (fun p o wx => ∃ B : Nat, p = .pointer (some ⟨B, 0, none⟩) ∧ o = .bool true ∧ Box2 wx B s1 s2 ∧ w3.heap.size ≤ B ∧ Below w3.heap.size w3 wx)
          case first =>
            go_region_held3 (fun w' => w'.cell? ⟨ba, oa, none⟩ = some (.int .i64 x) ∧ w'.cell? ⟨ba, oa + 1, none⟩ = some (.int .i64 y) ∧ w'.cell? ⟨bb, ob, none⟩ = some (.int .i64 x2) ∧ w'.cell? ⟨bb, ob + 1, none⟩ = some (.int .i64 y2)) (first | exact keep4s (W := w3) (by (repeat (first | assumption | exact Below.refl _ _ | (refine b_st ?_ (by first | (simp; done) | (simp; omega))) | (refine b_al ?_ (Nat.le_refl _) _) | refine b_dn ?_ | refine b_dr ?_ | (refine b_cl ?_ (Nat.le_refl _) (by assumption))))) ⟨hc1, hc2, hd1, hd2⟩) (first | (go_at_call 28; refine (CB _).mono ?_; rintro e w4 ⟨rfl, hb4⟩; obtain ⟨hcc, hff⟩ := bcell hb4; have hz4 := hb4.size; (try simp at hz4)))
            all_goals (go_wp2_with fail; go_meet; refine ⟨_, rfl, rfl, ?_, ?_, ?_⟩)
            all_goals first
              | exact Box2.new _ _ _ _
              | exact Box2.set1 (Box2.set0 ((Box2.new _ 0 0 31).below (b_un hb4)) _) _
              | exact hb4.size
              | exact (b_un hb4).alloc hb4.size _
              | exact Nat.le_refl _
              | exact ((((Below.refl _ _).alloc (Nat.le_refl _) _).trans ((b_un hb4).mono (by simp))).setCell (Nat.le_refl _) _).setCell (Nat.le_refl _) _
          case rest =>
            obtain ⟨B, rfl, rfl, hbox, hBB, hbc⟩ := hcut
            obtain ⟨C0, C1, C2, C3⟩ := hbox
            have HO := Lib.hid (hown.out.below hbc)
            have HBC := Lib.hid (hbw.trans (hbc.mono hsz))
            clear hbc
            have hon : out.length = no := hlens.out.2.2
            have HON := Lib.hid hon
            have hnb3 : out.length ≤ 2000 := by omega
            clear hon
            have hwc := HBC.out.size
            go_wp2_with (at_builtin; refine wpList_append_own _ rfl _ _ 22 rfl w2.heap.size 31 i0 (.agg #[.int .i64 0, .int .i64 0]) 2 16 Try.underlying22 hi hz0 hz1 hz2 rfl (by decide) _ _ _ rfl (HO.out.alloc _) ⟨wc.heap.size, 0, none⟩ 1 1 [.int .i64 s1, .int .i64 s2] rfl rfl one_news one_cell2 (by unfold maxLen; omega) (by omega) (by simp; omega) ?_; intro v1 w5 hown5 hgrow5 _)
            have HS := Lib.hid (Own.snoc hown5)
            have HB := Lib.hid ((HBC.out.alloc hwc (.cells #[.int .i64 s1, .int .i64 s2] 31)).grown hgrow5 (by simp; omega) (fun k hk => (World.ownsRow.lt HO.out k hk).1))
            clear hown5 hgrow5
            obtain ⟨A5, c5, rfl, _, _, _⟩ := HS.out.form
            have HLO := Lib.hid (show (out ++ [(s1, s2)]).length = no + 1 by rw [List.length_append, HON.out]; rfl)
            have HO5 := Lib.hid (show Own w2.heap.size w5 (.slice A5 (no + 1) c5) (out ++ [(s1, s2)]) by have := HS.out; rw [HLO.out] at this; exact this)
            rw [HLO.out]
            have q1 : ∀ p : BelowOf w5, p.world.cell? ⟨ba, oa + 1, none⟩ = some (.int .i64 y) := fun p => p.cell ((HB.out.cell (p := ⟨ba, oa + 1, none⟩) hba).trans hy0)
            have q2 : ∀ p : BelowOf w5, p.world.cell? ⟨bb, ob + 1, none⟩ = some (.int .i64 y2) := fun p => p.cell ((HB.out.cell (p := ⟨bb, ob + 1, none⟩) hbb).trans hy20)
            by_cases hyy : y < y2
            · have hlt : decide (y < y2) = true := decide_eq_true hyy
              go_wp2
              refine wp_region_bel (by kernel_rfl) (by kernel_rfl) ?_
              repeat (go_big_quiet_step (fail))
              refine wpQuiet_nil ?_
              refine bel_all fun wq hbq => ?_
              clear q1 q2
              have HB2 := Lib.hid (HB.out.trans (hbq.mono HB.out.size))
              have HOQ := Lib.hid (HO5.out.below hbq)
              clear hbq
              by_cases hz : ca = 1
              · have HZ := Lib.hid (show ls' = [] by have := hlens.out.1; simp at this; exact List.eq_nil_of_length_eq_zero (by omega))
                go_wp2
                go_roundw
                case rel => exact ⟨ls', (x2, y2) :: rs', out ++ [(s1, s2)], na - 1, nb, no + 1, some ⟨ba, oa, none⟩, some ⟨bb, ob, none⟩, A5, 0, cb, c5, by first | rfl | simp, by first | rfl | simp, rfl, Lib.hid ⟨by have := hlens.out.1; simp at this; omega, by have := hlens.out.2.1; simp at this ⊢; omega, HLO.out⟩, ⟨by omega, by omega, hcb, hcbm⟩, Lib.hid ⟨by rw [HZ.out]; exact RdS.nil _ _, hrd.out.2⟩, HOQ, Lib.hid (by have := hres.out; rw [bothL_lt _ _ _ _ (show y < y2 by omega), HB1.out, ← List.append_assoc] at this; exact this), HB2.out⟩
                case measure => simp only [lenOf_slice]; omega
              · go_wp2
                go_roundw
                case rel => exact ⟨ls', (x2, y2) :: rs', out ++ [(s1, s2)], na - 1, nb, no + 1, some ⟨ba, oa + 2, none⟩, some ⟨bb, ob, none⟩, A5, ca - 1, cb, c5, by first | rfl | simp, by first | rfl | simp, rfl, Lib.hid ⟨by have := hlens.out.1; simp at this; omega, by have := hlens.out.2.1; simp at this ⊢; omega, HLO.out⟩, ⟨by omega, by omega, hcb, hcbm⟩, Lib.hid ⟨HT1.out, hrd.out.2⟩, HOQ, Lib.hid (by have := hres.out; rw [bothL_lt _ _ _ _ (show y < y2 by omega), HB1.out, ← List.append_assoc] at this; exact this), HB2.out⟩
                case measure => simp only [lenOf_slice]; omega
            · have hlt : decide (y < y2) = false := decide_eq_false hyy
              go_wp2
              refine wp_region_bel (by kernel_rfl) (by kernel_rfl) ?_
              repeat (go_big_quiet_step (fail))
              refine wpQuiet_nil ?_
              refine bel_all fun wq hbq => ?_
              clear q1 q2
              have HB2 := Lib.hid (HB.out.trans (hbq.mono HB.out.size))
              have HOQ := Lib.hid (HO5.out.below hbq)
              clear hbq
              by_cases hz : cb = 1
              · have HZ := Lib.hid (show rs' = [] by have := hlens.out.2.1; simp at this; exact List.eq_nil_of_length_eq_zero (by omega))
                go_wp2
                go_roundw
                case rel => exact ⟨(x, y) :: ls', rs', out ++ [(s1, s2)], na, nb - 1, no + 1, some ⟨ba, oa, none⟩, some ⟨bb, ob, none⟩, A5, ca, 0, c5, by first | rfl | simp, by first | rfl | simp, rfl, Lib.hid ⟨by have := hlens.out.1; simp at this ⊢; omega, by have := hlens.out.2.1; simp at this; omega, HLO.out⟩, ⟨hca, hcam, by omega, by omega⟩, Lib.hid ⟨hrd.out.1, by rw [HZ.out]; exact RdS.nil _ _⟩, HOQ, Lib.hid (by have := hres.out; rw [bothL_ge _ _ _ _ (show ¬ y < y2 by omega), HB1.out, ← List.append_assoc] at this; exact this), HB2.out⟩
                case measure => simp only [lenOf_slice]; omega
              · go_wp2
                go_roundw
                case rel => exact ⟨(x, y) :: ls', rs', out ++ [(s1, s2)], na, nb - 1, no + 1, some ⟨ba, oa, none⟩, some ⟨bb, ob + 2, none⟩, A5, ca, cb - 1, c5, by first | rfl | simp, by first | rfl | simp, rfl, Lib.hid ⟨by have := hlens.out.1; simp at this ⊢; omega, by have := hlens.out.2.1; simp at this; omega, HLO.out⟩, ⟨hca, hcam, by omega, by omega⟩, Lib.hid ⟨hrd.out.1, HT2.out⟩, HOQ, Lib.hid (by have := hres.out; rw [bothL_ge _ _ _ _ (show ¬ y < y2 by omega), HB1.out, ← List.append_assoc] at this; exact this), HB2.out⟩
                case measure => simp only [lenOf_slice]; omega
        · have CB := fun W => both_no x y x2 y2 W hok
          have HB1 := Lib.hid (show both1 (x, y) (x2, y2) = [] from both1_no hok)
          clear hok
          go_upto_region 4 with fail
          go_cut [6, 7] (fun p o wx => ∃ B : Nat, p = .pointer (some ⟨B, 0, none⟩) ∧ o = .bool false ∧ Box2 wx B 0 0 ∧ w3.heap.size ≤ B ∧ Below w3.heap.size w3 wx)
          case first =>
            go_region_held3 (fun w' => w'.cell? ⟨ba, oa, none⟩ = some (.int .i64 x) ∧ w'.cell? ⟨ba, oa + 1, none⟩ = some (.int .i64 y) ∧ w'.cell? ⟨bb, ob, none⟩ = some (.int .i64 x2) ∧ w'.cell? ⟨bb, ob + 1, none⟩ = some (.int .i64 y2)) (first | exact keep4s (W := w3) (by (repeat (first | assumption | exact Below.refl _ _ | (refine b_st ?_ (by first | (simp; done) | (simp; omega))) | (refine b_al ?_ (Nat.le_refl _) _) | refine b_dn ?_ | refine b_dr ?_ | (refine b_cl ?_ (Nat.le_refl _) (by assumption))))) ⟨hc1, hc2, hd1, hd2⟩) (first | (go_at_call 28; refine (CB _).mono ?_; rintro e w4 ⟨rfl, hb4⟩; obtain ⟨hcc, hff⟩ := bcell hb4; have hz4 := hb4.size; (try simp at hz4)))
            all_goals (go_wp2_with fail; go_meet; refine ⟨_, rfl, rfl, ?_, ?_, ?_⟩)
            all_goals first
              | exact Box2.new _ _ _ _
              | exact Box2.set1 (Box2.set0 ((Box2.new _ 0 0 31).below (b_un hb4)) _) _
              | exact hb4.size
              | exact (b_un hb4).alloc hb4.size _
              | exact Nat.le_refl _
              | exact ((((Below.refl _ _).alloc (Nat.le_refl _) _).trans ((b_un hb4).mono (by simp))).setCell (Nat.le_refl _) _).setCell (Nat.le_refl _) _
          case rest =>
            obtain ⟨B, rfl, rfl, hbox, hBB, hbc⟩ := hcut
            obtain ⟨C0, C1, C2, C3⟩ := hbox
            have HO := Lib.hid (hown.out.below hbc)
            have HBC := Lib.hid (hbw.trans (hbc.mono hsz))
            clear hbc
            have HB := HBC
            have HO5 := HO
            have HLO := Lib.hid hlens.out.2.2
            have q1 : ∀ p : BelowOf wc, p.world.cell? ⟨ba, oa + 1, none⟩ = some (.int .i64 y) := fun p => p.cell ((HB.out.cell (p := ⟨ba, oa + 1, none⟩) hba).trans hy0)
            have q2 : ∀ p : BelowOf wc, p.world.cell? ⟨bb, ob + 1, none⟩ = some (.int .i64 y2) := fun p => p.cell ((HB.out.cell (p := ⟨bb, ob + 1, none⟩) hbb).trans hy20)
            by_cases hyy : y < y2
            · have hlt : decide (y < y2) = true := decide_eq_true hyy
              go_wp2
              refine wp_region_bel (by kernel_rfl) (by kernel_rfl) ?_
              repeat (go_big_quiet_step (fail))
              refine wpQuiet_nil ?_
              refine bel_all fun wq hbq => ?_
              clear q1 q2
              have HB2 := Lib.hid (HB.out.trans (hbq.mono HB.out.size))
              have HOQ := Lib.hid (HO5.out.below hbq)
              clear hbq
              by_cases hz : ca = 1
              · have HZ := Lib.hid (show ls' = [] by have := hlens.out.1; simp at this; exact List.eq_nil_of_length_eq_zero (by omega))
                go_wp2
                go_roundw
                case rel => exact ⟨ls', (x2, y2) :: rs', out, na - 1, nb, no, some ⟨ba, oa, none⟩, some ⟨bb, ob, none⟩, Ao, 0, cb, co, by first | rfl | simp, by first | rfl | simp, rfl, Lib.hid ⟨by have := hlens.out.1; simp at this; omega, by have := hlens.out.2.1; simp at this ⊢; omega, HLO.out⟩, ⟨by omega, by omega, hcb, hcbm⟩, Lib.hid ⟨by rw [HZ.out]; exact RdS.nil _ _, hrd.out.2⟩, HOQ, Lib.hid (by have := hres.out; rw [bothL_lt _ _ _ _ (show y < y2 by omega), HB1.out, List.nil_append] at this; exact this), HB2.out⟩
                case measure => simp only [lenOf_slice]; omega
              · go_wp2
                go_roundw
                case rel => exact ⟨ls', (x2, y2) :: rs', out, na - 1, nb, no, some ⟨ba, oa + 2, none⟩, some ⟨bb, ob, none⟩, Ao, ca - 1, cb, co, by first | rfl | simp, by first | rfl | simp, rfl, Lib.hid ⟨by have := hlens.out.1; simp at this; omega, by have := hlens.out.2.1; simp at this ⊢; omega, HLO.out⟩, ⟨by omega, by omega, hcb, hcbm⟩, Lib.hid ⟨HT1.out, hrd.out.2⟩, HOQ, Lib.hid (by have := hres.out; rw [bothL_lt _ _ _ _ (show y < y2 by omega), HB1.out, List.nil_append] at this; exact this), HB2.out⟩
                case measure => simp only [lenOf_slice]; omega
            · have hlt : decide (y < y2) = false := decide_eq_false hyy
              go_wp2
              refine wp_region_bel (by kernel_rfl) (by kernel_rfl) ?_
              repeat (go_big_quiet_step (fail))
              refine wpQuiet_nil ?_
              refine bel_all fun wq hbq => ?_
              clear q1 q2
              have HB2 := Lib.hid (HB.out.trans (hbq.mono HB.out.size))
              have HOQ := Lib.hid (HO5.out.below hbq)
              clear hbq
              by_cases hz : cb = 1
              · have HZ := Lib.hid (show rs' = [] by have := hlens.out.2.1; simp at this; exact List.eq_nil_of_length_eq_zero (by omega))
                go_wp2
                go_roundw
                case rel => exact ⟨(x, y) :: ls', rs', out, na, nb - 1, no, some ⟨ba, oa, none⟩, some ⟨bb, ob, none⟩, Ao, ca, 0, co, by first | rfl | simp, by first | rfl | simp, rfl, Lib.hid ⟨by have := hlens.out.1; simp at this ⊢; omega, by have := hlens.out.2.1; simp at this; omega, HLO.out⟩, ⟨hca, hcam, by omega, by omega⟩, Lib.hid ⟨hrd.out.1, by rw [HZ.out]; exact RdS.nil _ _⟩, HOQ, Lib.hid (by have := hres.out; rw [bothL_ge _ _ _ _ (show ¬ y < y2 by omega), HB1.out, List.nil_append] at this; exact this), HB2.out⟩
                case measure => simp only [lenOf_slice]; omega
              · go_wp2
                go_roundw
                case rel => exact ⟨(x, y) :: ls', rs', out, na, nb - 1, no, some ⟨ba, oa, none⟩, some ⟨bb, ob + 2, none⟩, Ao, ca, cb - 1, co, by first | rfl | simp, by first | rfl | simp, rfl, Lib.hid ⟨by have := hlens.out.1; simp at this ⊢; omega, by have := hlens.out.2.1; simp at this; omega, HLO.out⟩, ⟨hca, hcam, by omega, by omega⟩, Lib.hid ⟨hrd.out.1, HT2.out⟩, HOQ, Lib.hid (by have := hres.out; rw [bothL_ge _ _ _ _ (show ¬ y < y2 by omega), HB1.out, List.nil_append] at this; exact this), HB2.out⟩
                case measure => simp only [lenOf_slice]; omega

end Go.Proofs.Ytdifgbnapcnmlaa
