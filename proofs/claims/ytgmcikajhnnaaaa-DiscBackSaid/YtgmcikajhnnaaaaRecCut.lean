/- What Cut of layer 8 returns: the normal timeline of what lies in the span. Conditions: the records can be read; at most a million. -/
import Derived.Test.YtgmcikajhnnaaaaRows
import Derived.Test.YtgmcikajhnnaaaaBase
import Derived.Test.YtgmcikajhnnaaaaRow
import Derived.Test.YtgmcikajhnnaaaaRecMath
import Derived.Test.YtgmcikajhnnaaaaRecMath2
import Derived.Test.YtgmcikajhnnaaaaRecHeap
import Derived.Test.YtgmcikajhnnaaaaRecLeaf
import Derived.Test.YtgmcikajhnnaaaaRecCheck
import Derived.Test.YtgmcikajhnnaaaaRecSmall
import Derived.Test.YtgmcikajhnnaaaaIvalTwo
import Derived.Test.YtgmcikajhnnaaaaRecNormal
import Derived.WalkKit
import Derived.WalkSpells
import Derived.WalkSmall
import Derived.Below
import Derived.Outline
import Derived.OwnWalk
import Derived.Lib.Hide
import Derived.BigQuiet
import Derived.Deep.QuietTactic
import Derived.Deep.RegionHeld3
import Derived.Deep.DeepCutAuto
namespace Go.Proofs.Ytgmcikajhnnaaaa
open Go.RowKit

theorem keep5s {W w1 : World} {p0 p1 p2 p3 p4 : Addr} {v0 v1 v2 v3 v4 : Value} (hb : Below W.heap.size W w1) (h : W.cell? p0 = some v0 ∧ W.cell? p1 = some v1 ∧ W.cell? p2 = some v2 ∧ W.cell? p3 = some v3 ∧ W.cell? p4 = some v4) :
    w1.cell? p0 = some v0 ∧ w1.cell? p1 = some v1 ∧ w1.cell? p2 = some v2 ∧ w1.cell? p3 = some v3 ∧ w1.cell? p4 = some v4 := by
  obtain ⟨h0, h1, h2, h3, h4⟩ := h
  exact ⟨c_cl h0 hb, c_cl h1 hb, c_cl h2 hb, c_cl h3 hb, c_cl h4 hb⟩

theorem rcut_bad (A : Option Addr) (c : Nat) (l : List Rc) (a b : Int) (w : World) (h : RdR w A l) (hl : l.length ≤ 4611686018427387904) (h0 : (checkV l).2 ≠ 0) :
    Calls Try.prog 40 #[.slice A l.length c, .agg #[.int .i64 a, .int .i64 b]] w fun e w' => e = .returned (.tuple #[.slice none 0 0, .int .i64 (checkV l).2]) ∧ Below w.heap.size w w' := by
  have CK := fun W (hr : RdR W A l) => rcheck_any A c l W hr hl
  obtain ⟨p, e, hv⟩ : ∃ p e, checkV l = (p, e) := ⟨_, _, rfl⟩
  rw [hv] at CK h0 ⊢
  have e1 : (e == 0) = false := by simpa using h0
  have e2 : (e != 0) = true := by simpa using h0
  have HR0 := Lib.hid (h.below ((Below.refl _ _).alloc (Nat.le_refl _) (.cells #[.int .i64 a, .int .i64 b] 45)))
  clear h0 hv h
  go_enter Try.func40, Try.ntmps40
  go_wp2_with (go_at_call 17; (with_reducible refine (CK _ HR0.out).mono ?_); rintro e w1 ⟨rfl, hb1⟩)
  go_ret2
  exact ⟨rfl, by (repeat (first | exact Below.refl _ _ | (refine b_st ?_ (by first | (simp; done) | (simp; omega))) | (refine b_al ?_ (Nat.le_refl _) _) | refine b_dn ?_ | refine b_dr ?_ | (refine b_cl ?_ (Nat.le_refl _) (by assumption))))⟩

theorem rcut_wrong (A : Option Addr) (c : Nat) (l : List Rc) (a b : Int) (w : World) (h : RdR w A l) (hl : l.length ≤ 4611686018427387904) (h0 : (checkV l).2 = 0) (hab : ¬ a < b) :
    Calls Try.prog 40 #[.slice A l.length c, .agg #[.int .i64 a, .int .i64 b]] w fun e w' => e = .returned (.tuple #[.slice none 0 0, .int .i64 3]) ∧ Below w.heap.size w w' := by
  have CK := fun W (hr : RdR W A l) => rcheck_any A c l W hr hl
  rw [tl_check (check_tl h0)] at CK
  have RG := fun W => right_no a b W hab
  have HR0 := Lib.hid (h.below ((Below.refl _ _).alloc (Nat.le_refl _) (.cells #[.int .i64 a, .int .i64 b] 45)))
  clear h0 h hab
  go_enter Try.func40, Try.ntmps40
  go_wp2_with (first
    | (go_at_call 17; (with_reducible refine (CK _ HR0.out).mono ?_); rintro e w1 ⟨rfl, hb1⟩; have k0 : w1.cell? ⟨w.heap.size, 0, none⟩ = some (.int .i64 a) := (c_cl (by simp) hb1); have k1 : w1.cell? ⟨w.heap.size, 1, none⟩ = some (.int .i64 b) := (c_cl (by simp) hb1))
    | (go_at_call 51; (with_reducible refine (RG _).mono ?_); rintro e w2 ⟨rfl, hb2⟩))
  go_ret2
  exact ⟨rfl, by (repeat (first | exact Below.refl _ _ | (refine b_st ?_ (by first | (simp; done) | (simp; omega))) | (refine b_al ?_ (Nat.le_refl _) _) | refine b_dn ?_ | refine b_dr ?_ | (refine b_cl ?_ (Nat.le_refl _) (by assumption))))⟩

set_option maxRecDepth 100000 in
set_option maxHeartbeats 4000000 in
theorem rcut_ok (A : Option Addr) (c : Nat) (l : List Rc) (a b : Int) (w : World) (h : RdR w A l) (hl : l.length ≤ 1000000) (h0 : (checkV l).2 = 0) (hab : a < b) :
    Calls Try.prog 40 #[.slice A l.length c, .agg #[.int .i64 a, .int .i64 b]] w fun e w' => ∃ v, e = .returned (.tuple #[v, .int .i64 0]) ∧ OwnR w.heap.size w' v (normV (withinV a b l)) ∧ Below w.heap.size w w' := by
  obtain ⟨i0, hi, hz0, hz1, hz2⟩ := info_parts info_rec
  have CK := fun W (hr : RdR W A l) => rcheck_any A c l W hr (by omega)
  rw [tl_check (check_tl h0)] at CK
  have RG := fun W => right_yes a b W hab
  have TW := within_tl hab (check_tl h0)
  have NM := fun A' c' W (hr : RdR W A' (withinV a b l)) => normal_any A' c' (withinV a b l) W hr (Nat.le_trans (within_len a b l) hl)
  rw [tl_check TW, nrm_ok TW] at NM
  have HR0 := Lib.hid (h.below ((Below.refl _ _).alloc (Nat.le_refl _) (.cells #[.int .i64 a, .int .i64 b] 45)))
  clear h0 h hab TW
  go_enter Try.func40, Try.ntmps40
  go_wp2_with (first
    | (go_at_call 17; (with_reducible refine (CK _ HR0.out).mono ?_); rintro e w1 ⟨rfl, hb1⟩; have k0 : w1.cell? ⟨w.heap.size, 0, none⟩ = some (.int .i64 a) := (c_cl (by simp) hb1); have k1 : w1.cell? ⟨w.heap.size, 1, none⟩ = some (.int .i64 b) := (c_cl (by simp) hb1))
    | (go_at_call 51; (with_reducible refine (RG _).mono ?_); rintro e w2 ⟨rfl, hb2⟩))
  have HBW := Lib.hid (show Below w.heap.size w w2 by (repeat (first | exact Below.refl _ _ | (refine b_st ?_ (by first | (simp; done) | (simp; omega))) | (refine b_al ?_ (Nat.le_refl _) _) | refine b_dn ?_ | refine b_dr ?_ | (refine b_cl ?_ (Nat.le_refl _) (by assumption)))))
  have K0 := Lib.hid (And.intro (c_cl k0 hb2) (c_cl k1 hb2))
  have HR := Lib.hid ((HR0.out.below hb1).below hb2)
  clear hb1 hb2 k0 k1 HR0
  go_loopw [8, 26] (fun v i wr => ∃ (k n : Nat) (A' : Option Addr) (c' : Nat), k ≤ l.length ∧ i = .int .i64 k ∧ v = .slice A' n c' ∧ Hid ((withinV a b (l.take k)).length = n) ∧ n ≤ k ∧
      Hid (OwnR w2.heap.size wr (.slice A' n c') (withinV a b (l.take k))) ∧ Below w2.heap.size w2 wr) (fun _ i _ => l.length - (intOf i).toNat)
  case atStart => exact ⟨0, 0, none, 0, Nat.zero_le _, rfl, rfl, Lib.hid rfl, Nat.le_refl _, Lib.hid (OwnR.nil _ _), Below.refl _ _⟩
  case round =>
    obtain ⟨k, n, A', c', hk, rfl, rfl, HON, hnk, hown, hb⟩ := hrel
    obtain ⟨w3, rfl⟩ : ∃ w3 : World, w3 = wr := ⟨_, rfl⟩
    have hsz := hb.size
    by_cases hlt : k < l.length
    · obtain ⟨bl, off, x, y, z, rfl, hbb, hc0, hc1, hc2, hs⟩ := HR.out.at_ hlt
      rw [← hb.cell (p := ⟨bl, _, none⟩) hbb] at hc0 hc1 hc2
      have hbr : bl < w3.heap.size := by omega
      have k0 := c_cl K0.out.1 hb
      have k1 := c_cl K0.out.2 hb
      have hwl : w.heap.size < w3.heap.size := c_lt k0
      have WM := Lib.hid (within_more (a := a) (b := b) hlt hs.out)
      obtain ⟨out, hout⟩ : ∃ out, withinV a b (l.take k) = out := ⟨_, rfl⟩
      rw [hout] at HON hown WM
      clear hout hs
      by_cases hok : up2 y a < lo2 z b
      · have CB0 := fun W => both_yes y z a b W hok
        have WM2 := WM.out
        rw [if_pos hok] at WM2
        have CB := CB0
        generalize up2 y a = s1 at CB WM2
        generalize lo2 z b = s2 at CB WM2
        have WP := Lib.hid WM2
        clear CB0 WM WM2 hok
        go_upto_region 10 with fail
        go_cut [11, 12] (fun p o wx => ∃ B : Nat, p = .pointer (some ⟨B, 0, none⟩) ∧ o = .bool true ∧ Box2 wx B s1 s2 ∧ Below (w3.alloc (.cells #[.int .i64 x, .int .i64 y, .int .i64 z] 73)).heap.size (w3.alloc (.cells #[.int .i64 x, .int .i64 y, .int .i64 z] 73)) wx)
        case first =>
          go_region_held3 (fun w' => w'.cell? ⟨w3.heap.size, 0, none⟩ = some (.int .i64 x) ∧ w'.cell? ⟨w3.heap.size, 1, none⟩ = some (.int .i64 y) ∧ w'.cell? ⟨w3.heap.size, 2, none⟩ = some (.int .i64 z) ∧ w'.cell? ⟨w.heap.size, 0, none⟩ = some (.int .i64 a) ∧ w'.cell? ⟨w.heap.size, 1, none⟩ = some (.int .i64 b)) (first | exact keep5s (W := (w3.alloc (.cells #[.int .i64 x, .int .i64 y, .int .i64 z] 73))) (by (repeat (first | assumption | exact Below.refl _ _ | (refine b_st ?_ (by first | (simp; done) | (simp; omega))) | (refine b_al ?_ (Nat.le_refl _) _) | refine b_dn ?_ | refine b_dr ?_ | (refine b_cl ?_ (Nat.le_refl _) (by assumption))))) ⟨by simp, by simp, by simp, c_al _ k0, c_al _ k1⟩) (first
            | (go_at_call 52; refine (recspan_any _ _ _ _).mono ?_; rintro e w4 ⟨rfl, hb4⟩; obtain ⟨hcc, hff⟩ := bcell hb4; have hz4 := hb4.size; (try simp at hz4); (try have hq4 : w3.heap.size + 1 < w4.heap.size := (by omega)))
            | (go_at_call 54; refine (CB _).mono ?_; rintro e w5 ⟨rfl, hb5⟩; obtain ⟨hcc5, hff5⟩ := bcell hb5; have hz5 := hb5.size; (try simp at hz5); (try have hq5 : w3.heap.size + 1 < w5.heap.size := (by omega)); (try have hq6 : w4.heap.size < w5.heap.size := (by omega))))
          all_goals (go_wp2_with fail; go_meet; refine ⟨_, rfl, rfl, ?_, ?_⟩)
          all_goals first
            | exact Box2.new _ _ _ _
            | exact Box2.set1 (Box2.set0 ((Box2.new _ 0 0 45).below (b_un hb5)) _) _
            | exact Box2.set1 (Box2.set0 (((Box2.new _ 0 0 45).below hb4).below hb5) _) _
            | exact Box2.set1 (Box2.set0 ((Box2.new _ 0 0 45).below hb5) _) _
            | exact Box2.set1 (Box2.set0 (((Box2.newAt _ (by simp) 0 0 45).below (b_un hb4)).below hb5) _) _
            | exact Box2.set1 (Box2.set0 (((Box2.newAt _ (by simp) 0 0 45).below hb4).below hb5) _) _
            | exact Box2.set1 (Box2.set0 (((Box2.new _ 0 0 45).below (b_un hb4)).below hb5) _) _
            | (repeat (first | exact Below.refl _ _ | assumption | (refine b_st ?_ (by first | exact Nat.le_refl _ | (simp; done) | (simp; omega) | (simp; have := hb4.size; simp at this; omega))) | (refine b_al ?_ (Nat.le_refl _) _) | refine b_dn ?_ | refine b_dr ?_ | (refine b_cl ?_ (Nat.le_refl _) (by assumption))))
        case rest =>
          obtain ⟨B, rfl, rfl, hbox, hbc⟩ := hcut
          obtain ⟨C0, C1, C2, C3⟩ := hbox
          have HO := Lib.hid ((hown.out.alloc (.cells #[.int .i64 x, .int .i64 y, .int .i64 z] 73)).below hbc)
          have KC : wc.cell? ⟨w3.heap.size, 0, none⟩ = some (.int .i64 x) := c_cl (by simp) hbc
          have HBC := (hb.alloc hsz (.cells #[.int .i64 x, .int .i64 y, .int .i64 z] 73)).trans (hbc.mono (by simp; omega))
          have hnb : out.length ≤ 1000000 := by have := HON.out; omega
          clear hbc
          go_wp2_with (at_builtin; refine wpList_append_own _ rfl _ _ 29 rfl w2.heap.size 73 i0 (.agg #[.int .i64 0, .int .i64 0, .int .i64 0]) 3 24 Try.underlying29 hi hz0 hz1 hz2 rfl (by decide) _ _ _ rfl (OwnR.alloc HO.out _) ⟨wc.heap.size, 0, none⟩ 1 1 [.int .i64 x, .int .i64 s1, .int .i64 s2] rfl rfl (rec_news rfl) rec_cells (by unfold maxLen; omega) (by omega) (by have := HBC.size; simp; omega) ?_; intro v5 w5 hown5 hgrow5 _; have HS := Lib.hid (OwnR.snoc hown5); have HB5 := Lib.hid ((HBC.alloc HBC.size (.cells #[.int .i64 x, .int .i64 s1, .int .i64 s2] 73)).grown hgrow5 (by have := HBC.size; simp; omega) (fun q hq => (World.ownsRow.lt HO.out q hq).1)); clear hown5 hgrow5)
          obtain ⟨A5, c5, rfl, _, _⟩ := HS.out.read
          have HL5 := Lib.hid (show (out ++ [(x, s1, s2)]).length = n + 1 by rw [List.length_append, HON.out]; rfl)
          go_wp2
          go_roundw
          case rel => exact ⟨k + 1, n + 1, A5, c5, by omega, by go_num, by rw [HL5.out], Lib.hid (by rw [WP.out]; exact HL5.out), by omega, Lib.hid (by rw [WP.out]; have := HS.out; rw [HL5.out] at this; exact this), HB5.out⟩
          case measure => simp [intOf]; omega
      · have CB := fun W => both_no y z a b W hok
        have WP := Lib.hid (show withinV a b (l.take (k + 1)) = out by rw [WM.out, if_neg hok, List.append_nil])
        obtain ⟨s1, hs1⟩ : ∃ s : Int, s = 0 := ⟨_, rfl⟩
        obtain ⟨s2, hs2⟩ : ∃ s : Int, s = 0 := ⟨_, rfl⟩
        subst hs1 hs2
        clear WM hok
        go_upto_region 10 with fail
        go_cut [11, 12] (fun p o wx => ∃ B : Nat, p = .pointer (some ⟨B, 0, none⟩) ∧ o = .bool false ∧ Box2 wx B 0 0 ∧ Below (w3.alloc (.cells #[.int .i64 x, .int .i64 y, .int .i64 z] 73)).heap.size (w3.alloc (.cells #[.int .i64 x, .int .i64 y, .int .i64 z] 73)) wx)
        case first =>
          go_region_held3 (fun w' => w'.cell? ⟨w3.heap.size, 0, none⟩ = some (.int .i64 x) ∧ w'.cell? ⟨w3.heap.size, 1, none⟩ = some (.int .i64 y) ∧ w'.cell? ⟨w3.heap.size, 2, none⟩ = some (.int .i64 z) ∧ w'.cell? ⟨w.heap.size, 0, none⟩ = some (.int .i64 a) ∧ w'.cell? ⟨w.heap.size, 1, none⟩ = some (.int .i64 b)) (first | exact keep5s (W := (w3.alloc (.cells #[.int .i64 x, .int .i64 y, .int .i64 z] 73))) (by (repeat (first | assumption | exact Below.refl _ _ | (refine b_st ?_ (by first | (simp; done) | (simp; omega))) | (refine b_al ?_ (Nat.le_refl _) _) | refine b_dn ?_ | refine b_dr ?_ | (refine b_cl ?_ (Nat.le_refl _) (by assumption))))) ⟨by simp, by simp, by simp, c_al _ k0, c_al _ k1⟩) (first
            | (go_at_call 52; refine (recspan_any _ _ _ _).mono ?_; rintro e w4 ⟨rfl, hb4⟩; obtain ⟨hcc, hff⟩ := bcell hb4; have hz4 := hb4.size; (try simp at hz4); (try have hq4 : w3.heap.size + 1 < w4.heap.size := (by omega)))
            | (go_at_call 54; refine (CB _).mono ?_; rintro e w5 ⟨rfl, hb5⟩; obtain ⟨hcc5, hff5⟩ := bcell hb5; have hz5 := hb5.size; (try simp at hz5); (try have hq5 : w3.heap.size + 1 < w5.heap.size := (by omega)); (try have hq6 : w4.heap.size < w5.heap.size := (by omega))))
          all_goals (go_wp2_with fail; go_meet; refine ⟨_, rfl, rfl, ?_, ?_⟩)
          all_goals first
            | exact Box2.new _ _ _ _
            | exact Box2.set1 (Box2.set0 ((Box2.new _ 0 0 45).below (b_un hb5)) _) _
            | exact Box2.set1 (Box2.set0 (((Box2.new _ 0 0 45).below hb4).below hb5) _) _
            | exact Box2.set1 (Box2.set0 ((Box2.new _ 0 0 45).below hb5) _) _
            | exact Box2.set1 (Box2.set0 (((Box2.newAt _ (by simp) 0 0 45).below (b_un hb4)).below hb5) _) _
            | exact Box2.set1 (Box2.set0 (((Box2.newAt _ (by simp) 0 0 45).below hb4).below hb5) _) _
            | exact Box2.set1 (Box2.set0 (((Box2.new _ 0 0 45).below (b_un hb4)).below hb5) _) _
            | (repeat (first | exact Below.refl _ _ | assumption | (refine b_st ?_ (by first | exact Nat.le_refl _ | (simp; done) | (simp; omega) | (simp; have := hb4.size; simp at this; omega))) | (refine b_al ?_ (Nat.le_refl _) _) | refine b_dn ?_ | refine b_dr ?_ | (refine b_cl ?_ (Nat.le_refl _) (by assumption))))
        case rest =>
          obtain ⟨B, rfl, rfl, hbox, hbc⟩ := hcut
          have HO := Lib.hid ((hown.out.alloc (.cells #[.int .i64 x, .int .i64 y, .int .i64 z] 73)).below hbc)
          have HBC := (hb.alloc hsz (.cells #[.int .i64 x, .int .i64 y, .int .i64 z] 73)).trans (hbc.mono (by simp; omega))
          clear hbc hbox
          go_wp2
          go_roundw
          case rel => exact ⟨k + 1, n, A', c', by omega, by go_num, rfl, Lib.hid (by rw [WP.out]; exact HON.out), by omega, Lib.hid (by rw [WP.out]; exact HO.out), HBC⟩
          case measure => simp [intOf]; omega
    · have hkl : k = l.length := by omega
      subst hkl
      have HE := Lib.hid (show withinV a b (l.take l.length) = withinV a b l by rw [List.take_of_length_le (Nat.le_refl _)])
      rw [HE.out] at hown HON
      have NM2 := fun W hr => NM A' c' W hr
      rw [HON.out] at NM2
      go_wp2_with (go_at_call 55; (with_reducible refine (NM2 _ hown.out.rd).mono ?_); rintro e w6 ⟨v6, rfl, ho6, hb6⟩; have HO6 := Lib.hid ho6; clear ho6)
      go_ret2
      have hbs := HBW.out.trans (hb.mono HBW.out.size)
      exact ⟨_, rfl, HO6.out.more hbs.size, hbs.trans (hb6.mono hbs.size)⟩

/-- Cut, whatever comes in. -/
theorem cutl_any (A : Option Addr) (c : Nat) (l : List Rc) (a b : Int) (w : World) (h : RdR w A l) (hl : l.length ≤ 1000000) :
    Calls Try.prog 40 #[.slice A l.length c, .agg #[.int .i64 a, .int .i64 b]] w fun e w' => ∃ v, e = .returned (.tuple #[v, .int .i64 (cutV a b l).2]) ∧ OwnR w.heap.size w' v (cutV a b l).1 ∧ Below w.heap.size w w' := by
  unfold cutV
  by_cases h0 : (checkV l).2 = 0
  · rw [if_pos h0]
    by_cases hab : a < b
    · rw [if_pos hab]; exact rcut_ok A c l a b w h hl h0 hab
    · rw [if_neg hab]; exact (rcut_wrong A c l a b w h (by omega) h0 hab).mono fun e w' ⟨he, hb⟩ => ⟨_, he, OwnR.nil _ _, hb⟩
  · rw [if_neg h0]; exact (rcut_bad A c l a b w h (by omega) h0).mono fun e w' ⟨he, hb⟩ => ⟨_, he, OwnR.nil _ _, hb⟩

end Go.Proofs.Ytgmcikajhnnaaaa
