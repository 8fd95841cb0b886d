/- What Of of layer 13 returns. Conditions: the records can be read; at most a million. -/
import Derived.Test.YtlbafgdbemhanaaRows
import Derived.Test.YtlbafgdbemhanaaBase
import Derived.Test.YtlbafgdbemhanaaZ2
import Derived.Test.YtlbafgdbemhanaaBookLim
import Derived.Test.YtlbafgdbemhanaaZ1
import Derived.Test.YtlbafgdbemhanaaRecCheck
import Derived.Test.YtlbafgdbemhanaaRepeat
import Derived.Test.YtlbafgdbemhanaaZ3
import Derived.Test.YtlbafgdbemhanaaMeterRun
import Derived.WalkKit
import Derived.WalkSpells
import Derived.WalkSmall
import Derived.Below
import Derived.Lib.Hide
import Derived.BigQuiet
import Derived.OwnWalk
import Derived.Outline
import Derived.Great.BuildSlice
import Derived.Maps.RangeWalk
import Derived.Deep.DeepCutAuto
import Derived.Deep.RegionHeld3
import Derived.OrdersHeld
namespace Go.Proofs.Ytlbafgdbemhanaa
open Go.RowKit
set_option linter.unusedVariables false

open Classical in
/-- What a timeline comes to: the meter, the set, the error. -/
noncomputable def ofMV (x : Nat → Int) (l : List Rc) : Mt × Nat × Int := if May x then (if (checkV l).2 = 0 then (if beg l = 0 then meterV x .zero (kindsV l) else (.zero, 0, 5)) else (.zero, 0, (checkV l).2)) else (.zero, 0, 14)

theorem beg_at13 {l : List Rc} {y : Int} (h : 0 < l.length) (hy : (l.getD 0 rz).2.1 = y) : beg l = y := by
  cases l with
  | nil => cases h
  | cons r l => exact hy

set_option maxRecDepth 100000 in
set_option maxHeartbeats 4000000 in
theorem of13_book (x : Nat → Int) (A : Option Addr) (c : Nat) (l : List Rc) (w : World) (h : RdR w A l) (hl : l.length ≤ 1000000) (hx : ¬ May x) :
    Calls Try.prog 16 #[.agg (bk x), .slice A l.length c] w fun e w' => e = .returned (.tuple #[.agg (mt .zero), .int .i64 0, .int .i64 14]) ∧ Below w.heap.size w w' := by
  have C1 : ∀ W, Calls Try.prog 33 #[.agg (bk x)] W fun e w' => e = .returned (.int .i64 14) ∧ Below W.heap.size W w' := fun W => by
    have := check7_any x W
    rwa [if_neg hx] at this
  have RB : RdI ((w.alloc (.cells (bk x) 23)).alloc (.cells (mt .zero) 36)) w.heap.size 0 x := (RdI.new x 23 rfl).alloc _
  have BR : Bx ((w.alloc (.cells (bk x) 23)).alloc (.cells (mt .zero) 36)) (w.heap.size + 1) 36 (mt .zero) := Bx.new (W := w.alloc (.cells (bk x) 23)) _ _ (by simp)
  have hB0 : Below w.heap.size w ((w.alloc (.cells (bk x) 23)).alloc (.cells (mt .zero) 36)) := b_al (b_al (Below.refl _ _) (Nat.le_refl _) _) (Nat.le_refl _) _
  have hz0 : ((w.alloc (.cells (bk x) 23)).alloc (.cells (mt .zero) 36)).heap.size = w.heap.size + 2 := by simp
  clear hx
  go_enter Try.func16, Try.ntmps16
  go_wp2_with (first | refine wpList_load_bk (by rfl) 23 _ rfl _ _ rfl x _ (by assumption) Try.underlying23 rfl (by kernel_rfl) ?_ | (go_at_call 33; (with_reducible refine (C1 _).mono ?_); rintro e w1 ⟨rfl, hb1⟩; have BR1 := BR.below hb1; have RB1 := RB.below hb1; have B1 := b_cl hB0 (Nat.le_refl _) hb1) | refine wpList_build_as rfl 36 _ rfl (mt .zero) (by kernel_rfl) ?_ | refine wpList_store_box rfl 36 _ _ rfl (w.heap.size + 1) (mt .zero) rfl rfl 36 (mt .zero) BR1 (by kernel_rfl) rfl (mt_one _) (fun wz u => ?_))
  refine bodyPost_ret (results_box3 Try.results16 _ _ (w.heap.size + 1) 36 (mt .zero) _ (.int .i64 0) (.int .i64 14) rfl u.box rfl rfl Try.underlying36 rfl (by kernel_rfl)) rfl ⟨rfl, ?_⟩
  exact B1.trans (u.bel _ (by omega))

set_option maxRecDepth 100000 in
set_option maxHeartbeats 4000000 in
theorem of13_check (x : Nat → Int) (A : Option Addr) (c : Nat) (l : List Rc) (w : World) (h : RdR w A l) (hl : l.length ≤ 1000000) (hx : May x) (er : Int) (he : (checkV l).2 = er) (hne : er ≠ 0) :
    Calls Try.prog 16 #[.agg (bk x), .slice A l.length c] w fun e w' => e = .returned (.tuple #[.agg (mt .zero), .int .i64 0, .int .i64 er]) ∧ Below w.heap.size w w' := by
  have C1 : ∀ W, Calls Try.prog 33 #[.agg (bk x)] W fun e w' => e = .returned (.int .i64 0) ∧ Below W.heap.size W w' := fun W => by
    have := check7_any x W
    rwa [if_pos hx] at this
  have C2 := fun W h => rcheck_any A c l W h (by omega)
  rw [he] at C2
  generalize ((checkV l).1 : Int) = pl at C2
  have ne : (er != 0) = true := by simpa using hne
  have ne2 : (er == 0) = false := by simpa using hne
  have RB : RdI ((w.alloc (.cells (bk x) 23)).alloc (.cells (mt .zero) 36)) w.heap.size 0 x := (RdI.new x 23 rfl).alloc _
  have BR : Bx ((w.alloc (.cells (bk x) 23)).alloc (.cells (mt .zero) 36)) (w.heap.size + 1) 36 (mt .zero) := Bx.new (W := w.alloc (.cells (bk x) 23)) _ _ (by simp)
  have hB0 : Below w.heap.size w ((w.alloc (.cells (bk x) 23)).alloc (.cells (mt .zero) 36)) := b_al (b_al (Below.refl _ _) (Nat.le_refl _) _) (Nat.le_refl _) _
  have hz0 : ((w.alloc (.cells (bk x) 23)).alloc (.cells (mt .zero) 36)).heap.size = w.heap.size + 2 := by simp
  clear hx he hne
  go_enter Try.func16, Try.ntmps16
  go_wp2_with (first | refine wpList_load_bk (by rfl) 23 _ rfl _ _ rfl x _ (by assumption) Try.underlying23 rfl (by kernel_rfl) ?_ | (go_at_call 33; (with_reducible refine (C1 _).mono ?_); rintro e w1 ⟨rfl, hb1⟩; have BR1 := BR.below hb1; have RB1 := RB.below hb1; have B1 := b_cl hB0 (Nat.le_refl _) hb1) | (go_at_call 34; (with_reducible refine (C2 _ (h.below B1)).mono ?_); rintro e w2 ⟨rfl, hb2⟩; have BR2 := BR1.below hb2; have RB2 := RB1.below hb2; have B2 := b_cl B1 (Nat.le_refl _) hb2) | refine wpList_build_as rfl 36 _ rfl (mt .zero) (by kernel_rfl) ?_ | refine wpList_store_box rfl 36 _ _ rfl (w.heap.size + 1) (mt .zero) rfl rfl 36 (mt .zero) BR2 (by kernel_rfl) rfl (mt_one _) (fun wz u => ?_))
  refine bodyPost_ret (results_box3 Try.results16 _ _ (w.heap.size + 1) 36 (mt .zero) _ (.int .i64 0) (.int .i64 er) rfl u.box rfl rfl Try.underlying36 rfl (by kernel_rfl)) rfl ⟨rfl, ?_⟩
  exact B2.trans (u.bel _ (by omega))

set_option maxRecDepth 100000 in
set_option maxHeartbeats 4000000 in
theorem of13_gap (x : Nat → Int) (A : Option Addr) (c : Nat) (l : List Rc) (w : World) (h : RdR w A l) (hl : l.length ≤ 1000000) (hx : May x) {e : Int} (ht : Tl e l) (h0 : 0 < l.length) (hb : beg l ≠ 0) :
    Calls Try.prog 16 #[.agg (bk x), .slice A l.length c] w fun e w' => e = .returned (.tuple #[.agg (mt .zero), .int .i64 0, .int .i64 5]) ∧ Below w.heap.size w w' := by
  have C1 : ∀ W, Calls Try.prog 33 #[.agg (bk x)] W fun e w' => e = .returned (.int .i64 0) ∧ Below W.heap.size W w' := fun W => by
    have := check7_any x W
    rwa [if_pos hx] at this
  have C2 : ∀ W, RdR W A l → Calls Try.prog 34 #[.slice A l.length c] W fun e w' => e = .returned (.tuple #[.int .i64 0, .int .i64 0]) ∧ Below W.heap.size W w' := fun W h => by
    have := rcheck_any A c l W h (by omega)
    rw [tl_check ht] at this
    exact this
  have g0 : decide ((0 : Int) < (l.length : Int)) = true := decide_eq_true (by omega)
  obtain ⟨b, off, q1, q2, q3, rfl, hbb, hc0, hc1, hc2, hs⟩ := h.at_ h0
  simp only [Nat.zero_mul, Nat.add_zero] at hc0 hc1 hc2
  have ne : (q2 != 0) = true := by
    have := beg_at13 h0 (y := q2) (by rw [hs.out])
    rw [this] at hb
    simpa using hb
  have hlt0 : (0 : Int) < (l.length : Int) := by omega
  have RB : RdI ((w.alloc (.cells (bk x) 23)).alloc (.cells (mt .zero) 36)) w.heap.size 0 x := (RdI.new x 23 rfl).alloc _
  have BR : Bx ((w.alloc (.cells (bk x) 23)).alloc (.cells (mt .zero) 36)) (w.heap.size + 1) 36 (mt .zero) := Bx.new (W := w.alloc (.cells (bk x) 23)) _ _ (by simp)
  have hB0 : Below w.heap.size w ((w.alloc (.cells (bk x) 23)).alloc (.cells (mt .zero) 36)) := b_al (b_al (Below.refl _ _) (Nat.le_refl _) _) (Nat.le_refl _) _
  have hz0 : ((w.alloc (.cells (bk x) 23)).alloc (.cells (mt .zero) 36)).heap.size = w.heap.size + 2 := by simp
  clear hx ht hb hc0 hc2 hs
  go_enter Try.func16, Try.ntmps16
  go_wp2_with (first | refine wpList_load_bk (by rfl) 23 _ rfl _ _ rfl x _ (by assumption) Try.underlying23 rfl (by kernel_rfl) ?_ | (go_at_call 33; (with_reducible refine (C1 _).mono ?_); rintro e w1 ⟨rfl, hb1⟩; have BR1 := BR.below hb1; have RB1 := RB.below hb1; have B1 := b_cl hB0 (Nat.le_refl _) hb1) | (go_at_call 34; (with_reducible refine (C2 _ (h.below B1)).mono ?_); rintro e w2 ⟨rfl, hb2⟩; have BR2 := BR1.below hb2; have RB2 := RB1.below hb2; have B2 := b_cl B1 (Nat.le_refl _) hb2; have hc1 := (B2.cell (p := ⟨b, off + 1, none⟩) hbb).trans hc1) | refine wpList_build_as rfl 36 _ rfl (mt .zero) (by kernel_rfl) ?_ | refine wpList_store_box rfl 36 _ _ rfl (w.heap.size + 1) (mt .zero) rfl rfl 36 (mt .zero) BR2 (by kernel_rfl) rfl (mt_one _) (fun wz u => ?_))
  refine bodyPost_ret (results_box3 Try.results16 _ _ (w.heap.size + 1) 36 (mt .zero) _ (.int .i64 0) (.int .i64 5) rfl u.box rfl rfl Try.underlying36 rfl (by kernel_rfl)) rfl ⟨rfl, ?_⟩
  exact B2.trans (u.bel _ (by omega))

set_option maxRecDepth 100000 in
set_option maxHeartbeats 4000000 in
theorem of13_none (x : Nat → Int) (A : Option Addr) (c : Nat) (l : List Rc) (w : World) (h : RdR w A l) (hl : l.length ≤ 1000000) (hx : May x) {e : Int} (ht : Tl e l) (h0 : l.length = 0) {M : Mt} {N : Nat} {E : Int} (hV : meterV x .zero (kindsV l) = (M, N, E)) :
    Calls Try.prog 16 #[.agg (bk x), .slice A l.length c] w fun e w' => e = .returned (.tuple #[.agg (mt M), .int .i64 (N : Nat), .int .i64 E]) ∧ Below w.heap.size w w' := by
  have C1 : ∀ W, Calls Try.prog 33 #[.agg (bk x)] W fun e w' => e = .returned (.int .i64 0) ∧ Below W.heap.size W w' := fun W => by
    have := check7_any x W
    rwa [if_pos hx] at this
  have C2 : ∀ W, RdR W A l → Calls Try.prog 34 #[.slice A l.length c] W fun e w' => e = .returned (.tuple #[.int .i64 0, .int .i64 0]) ∧ Below W.heap.size W w' := fun W h => by
    have := rcheck_any A c l W h (by omega)
    rw [tl_check ht] at this
    exact this
  have g0 : decide ((0 : Int) < (l.length : Int)) = false := decide_eq_false (by omega)
  have gn0 : ¬ (0 < l.length) := by omega
  clear h0
  obtain ⟨i1, hj, hy0, hy1, hy2⟩ := info_parts info_int
  have RB : RdI ((w.alloc (.cells (bk x) 23)).alloc (.cells (mt .zero) 36)) w.heap.size 0 x := (RdI.new x 23 rfl).alloc _
  have BR : Bx ((w.alloc (.cells (bk x) 23)).alloc (.cells (mt .zero) 36)) (w.heap.size + 1) 36 (mt .zero) := Bx.new (W := w.alloc (.cells (bk x) 23)) _ _ (by simp)
  have hB0 : Below w.heap.size w ((w.alloc (.cells (bk x) 23)).alloc (.cells (mt .zero) 36)) := b_al (b_al (Below.refl _ _) (Nat.le_refl _) _) (Nat.le_refl _) _
  have hz0 : ((w.alloc (.cells (bk x) 23)).alloc (.cells (mt .zero) 36)).heap.size = w.heap.size + 2 := by simp
  go_enter Try.func16, Try.ntmps16
  go_upto_region 9 with (first | refine wpList_load_bk (by rfl) 23 _ rfl _ _ rfl x _ (by assumption) Try.underlying23 rfl (by kernel_rfl) ?_ | (go_at_call 33; (with_reducible refine (C1 _).mono ?_); rintro e w1 ⟨rfl, hb1⟩; have BR1 := BR.below hb1; have RB1 := RB.below hb1; have B1 := b_cl hB0 (Nat.le_refl _) hb1) | (go_at_call 34; (with_reducible refine (C2 _ (h.below B1)).mono ?_); rintro e w2 ⟨rfl, hb2⟩; have BR2 := BR1.below hb2; have RB2 := RB1.below hb2; have B2 := b_cl B1 (Nat.le_refl _) hb2))
  have HX := Lib.hid hx
  have HR := Lib.hid (h.below B2)
  have HT := Lib.hid ht
  have HV := Lib.hid hV
  have hz2 := B2.size
  have hz3 : w.heap.size + 2 ≤ w2.heap.size := by have h1 := hb1.size; have h2 := hb2.size; simp only [World.size_alloc] at h1; omega
  have HB2 := Lib.hid B2
  have HRB := Lib.hid RB2
  have HBR := Lib.hid BR2
  clear hx h ht hV RB BR hB0 hz0 hb1 BR1 RB1 B1 hb2 BR2 RB2 B2 C1 C2 g0 gn0
  go_wp2
  go_loopw [10, 41] (fun v i wr => ∃ (k n : Nat) (A' : Option Addr) (c' : Nat), k ≤ l.length ∧ i = .int .i64 k ∧ v = .slice A' n c' ∧ Hid ((kindsV (l.take k)).length = n) ∧
      Hid (OwnN w2.heap.size wr (.slice A' n c') (kindsV (l.take k))) ∧ Hid (Below w2.heap.size w2 wr)) (fun _ i _ => l.length - (intOf i).toNat)
  case atStart => exact ⟨0, 0, none, 0, Nat.zero_le _, rfl, rfl, Lib.hid rfl, Lib.hid (OwnN.nil _ _), Lib.hid (Below.refl _ _)⟩
  case round =>
    obtain ⟨k, n, A', c', hk, rfl, rfl, HON, hown, hb⟩ := hrel
    obtain ⟨w3, rfl⟩ : ∃ w3 : World, w3 = wr := ⟨_, rfl⟩
    have hsz := hb.out.size
    by_cases hlt : k < l.length
    · obtain ⟨b, off, x1, y, z, rfl, hbb, hc0, hc1, hc2, hs⟩ := HR.out.at_ hlt
      rw [← hb.out.cell (p := ⟨b, _, none⟩) hbb] at hc0 hc1 hc2
      have hbr : b < w3.heap.size := by omega
      have KM := Lib.hid (kinds_more hlt hs.out)
      have KL := Nat.le_trans (kinds_take l (k + 1)) HT.out.short
      have bd : 0 ≤ y ∧ y < z ∧ z ≤ 40320 := by have := HT.out.at_ k hlt; rw [hs.out] at this; exact this.2
      obtain ⟨bd0, bd1, bd2⟩ := bd
      obtain ⟨ks, hks⟩ : ∃ ks, kindsV (l.take k) = ks := ⟨_, rfl⟩
      rw [hks] at HON hown KM
      obtain ⟨m, hm⟩ : ∃ m, (z - y).toNat = m := ⟨_, rfl⟩
      rw [hm] at KM
      have hzy : z = y + (m : Int) := by omega
      have hm1 : 1 ≤ m := by omega
      have hm2 : m ≤ 40320 := by omega
      rw [KM.out, List.length_append, List.length_replicate, HON.out] at KL
      have RP : ∀ W b' off' c', W.cell? ⟨b', off', none⟩ = some (.int .i64 x1) → Calls Try.prog 35 #[.slice (some ⟨b', off', none⟩) 1 c', .int .i64 (z - y)] W fun e w' => ∃ g cap, e = .returned (.slice (some ⟨g, 0, none⟩) m cap) ∧ OwnN W.heap.size w' (.slice (some ⟨g, 0, none⟩) m cap) (List.replicate m x1) ∧ Below W.heap.size W w' := fun W b' off' c' h => by
        have := repeat_any x1 m hm1 (by omega) b' off' c' W h
        rwa [show (z - y : Int) = (m : Int) by omega]
      clear hks hs hzy hm
      go_wp2_with (first
        | (go_at_call 35; go_loud ((with_reducible refine (RP _ _ _ _ (by simp)).mono ?_); rintro e w4 ⟨g, cap, rfl, hrep, hb4⟩; have HRP := Lib.hid hrep; have HB4 := Lib.hid (b_cl (b_al (b_al hb.out (Nat.le_refl _) _) (Nat.le_refl _) _) (Nat.le_refl _) hb4); have HOW := Lib.hid (((hown.out.alloc _).alloc _).below hb4); clear hrep hb4 RP))
        | (at_builtin; go_loud (refine wpList_append_own _ rfl _ _ 59 rfl w2.heap.size 3 i1 (.int .i64 0) 1 8 Try.underlying59 hj hy0 hy1 hy2 rfl (by decide) _ _ _ rfl HOW.out ⟨g, 0, none⟩ m cap ((List.replicate m x1).map (Value.int .i64)) rfl (by simp) (by obtain ⟨A4, c4, e4, h4⟩ := HRP.out.read; simp only [Value.slice.injEq] at e4; obtain ⟨rfl, _, _⟩ := e4; exact h4.news) ints_one (by have := HON.out; unfold maxLen; omega) (by have := HON.out; omega) HB4.out.size ?_; intro v5 w5 hown5 hgrow5 _; have HB5 := Lib.hid (HB4.out.grown hgrow5 HB4.out.size (fun q hq => (World.ownsRow.lt hown.out q hq).1)); have HS := Lib.hid (show OwnN w2.heap.size w5 v5 (ks ++ List.replicate m x1) by unfold OwnN; rw [List.map_append, List.length_append, List.length_replicate]; exact hown5); clear hown5 hgrow5)))
      obtain ⟨A5, c5, rfl, _⟩ := HS.out.read
      go_wp2
      go_roundw
      case rel => exact ⟨k + 1, n + m, A5, c5, by omega, by go_num, by rw [List.length_append, List.length_replicate, HON.out], Lib.hid (by rw [KM.out, List.length_append, List.length_replicate, HON.out]), Lib.hid (by rw [KM.out]; have := HS.out; rw [List.length_append, List.length_replicate, HON.out] at this; exact this), HB5⟩
      case measure => simp [intOf]; omega
    · have hkl : k = l.length := by omega
      subst hkl
      have HE := Lib.hid (show kindsV (l.take l.length) = kindsV l by rw [List.take_of_length_le (Nat.le_refl _)])
      rw [HE.out] at hown HON
      have hlen := HON.out
      subst hlen
      have RN := fun W h => run_any x .zero A' c' (kindsV l) W h (by have := HT.out.short; omega)
      rw [HV.out] at RN
      have RD : RdN w3 A' (kindsV l) := by
        obtain ⟨A4, c4, e4, h4⟩ := hown.out.read
        simp only [Value.slice.injEq] at e4
        obtain ⟨rfl, _, _⟩ := e4
        exact h4
      have RB3 : RdI w3 w.heap.size 0 x := HRB.out.below hb.out
      have BR3 : Bx w3 (w.heap.size + 1) 36 (mt .zero) := HBR.out.below hb.out
      have B3 : Below w.heap.size w w3 := b_cl HB2.out (Nat.le_refl _) hb.out
      go_wp2_with (first
        | refine wpList_load_bk (by rfl) 23 _ rfl _ _ rfl x _ RB3 Try.underlying23 rfl (by kernel_rfl) ?_
        | refine wpList_build_as rfl 36 _ rfl (mt .zero) (by kernel_rfl) ?_
        | (go_at_call 36; (with_reducible refine (RN _ RD).mono ?_); rintro e w6 ⟨rfl, hb6⟩; have BR6 := BR3.below hb6; have B6 := b_cl B3 (Nat.le_refl _) hb6)
        | refine wpList_store_box rfl 36 _ _ rfl (w.heap.size + 1) (mt M) rfl rfl 36 (mt .zero) BR6 (by kernel_rfl) rfl (mt_one _) (fun wz u => ?_))
      refine bodyPost_ret (results_box3 Try.results16 _ _ (w.heap.size + 1) 36 (mt M) _ (.int .i64 (N : Int)) (.int .i64 E) rfl u.box rfl rfl Try.underlying36 rfl (by kernel_rfl)) rfl ⟨rfl, ?_⟩
      exact B6.trans (u.bel _ (by omega))

set_option maxRecDepth 100000 in
set_option maxHeartbeats 4000000 in
theorem of13_some (x : Nat → Int) (A : Option Addr) (c : Nat) (l : List Rc) (w : World) (h : RdR w A l) (hl : l.length ≤ 1000000) (hx : May x) {e : Int} (ht : Tl e l) (h0 : 0 < l.length) (hb0 : beg l = 0) {M : Mt} {N : Nat} {E : Int} (hV : meterV x .zero (kindsV l) = (M, N, E)) :
    Calls Try.prog 16 #[.agg (bk x), .slice A l.length c] w fun e w' => e = .returned (.tuple #[.agg (mt M), .int .i64 (N : Nat), .int .i64 E]) ∧ Below w.heap.size w w' := by
  have C1 : ∀ W, Calls Try.prog 33 #[.agg (bk x)] W fun e w' => e = .returned (.int .i64 0) ∧ Below W.heap.size W w' := fun W => by
    have := check7_any x W
    rwa [if_pos hx] at this
  have C2 : ∀ W, RdR W A l → Calls Try.prog 34 #[.slice A l.length c] W fun e w' => e = .returned (.tuple #[.int .i64 0, .int .i64 0]) ∧ Below W.heap.size W w' := fun W h => by
    have := rcheck_any A c l W h (by omega)
    rw [tl_check ht] at this
    exact this
  have g0 : decide ((0 : Int) < (l.length : Int)) = true := decide_eq_true (by omega)
  have hlt0 : (0 : Int) < (l.length : Int) := by omega
  obtain ⟨b, off, q1, q2, q3, rfl, hbb, hc0, hc1, hc2, hs⟩ := h.at_ h0
  simp only [Nat.zero_mul, Nat.add_zero] at hc0 hc1 hc2
  obtain rfl : q2 = 0 := (beg_at13 h0 (y := q2) (by rw [hs.out])).symm.trans hb0
  clear hc0 hc2 hs hb0
  obtain ⟨i1, hj, hy0, hy1, hy2⟩ := info_parts info_int
  have RB : RdI ((w.alloc (.cells (bk x) 23)).alloc (.cells (mt .zero) 36)) w.heap.size 0 x := (RdI.new x 23 rfl).alloc _
  have BR : Bx ((w.alloc (.cells (bk x) 23)).alloc (.cells (mt .zero) 36)) (w.heap.size + 1) 36 (mt .zero) := Bx.new (W := w.alloc (.cells (bk x) 23)) _ _ (by simp)
  have hB0 : Below w.heap.size w ((w.alloc (.cells (bk x) 23)).alloc (.cells (mt .zero) 36)) := b_al (b_al (Below.refl _ _) (Nat.le_refl _) _) (Nat.le_refl _) _
  have hz0 : ((w.alloc (.cells (bk x) 23)).alloc (.cells (mt .zero) 36)).heap.size = w.heap.size + 2 := by simp
  go_enter Try.func16, Try.ntmps16
  go_upto_region 9 with (first | refine wpList_load_bk (by rfl) 23 _ rfl _ _ rfl x _ (by assumption) Try.underlying23 rfl (by kernel_rfl) ?_ | (go_at_call 33; (with_reducible refine (C1 _).mono ?_); rintro e w1 ⟨rfl, hb1⟩; have BR1 := BR.below hb1; have RB1 := RB.below hb1; have B1 := b_cl hB0 (Nat.le_refl _) hb1) | (go_at_call 34; (with_reducible refine (C2 _ (h.below B1)).mono ?_); rintro e w2 ⟨rfl, hb2⟩; have BR2 := BR1.below hb2; have RB2 := RB1.below hb2; have B2 := b_cl B1 (Nat.le_refl _) hb2; have hc1 := (B2.cell (p := ⟨b, off + 1, none⟩) hbb).trans hc1))
  have HX := Lib.hid hx
  have HR := Lib.hid (h.below B2)
  have HT := Lib.hid ht
  have HV := Lib.hid hV
  have hz2 := B2.size
  have hz3 : w.heap.size + 2 ≤ w2.heap.size := by have h1 := hb1.size; have h2 := hb2.size; simp only [World.size_alloc] at h1; omega
  have HB2 := Lib.hid B2
  have HRB := Lib.hid RB2
  have HBR := Lib.hid BR2
  clear hx h ht hV RB BR hB0 hz0 hb1 BR1 RB1 B1 hb2 BR2 RB2 B2 C1 C2 g0 hlt0 h0 hbb hc1
  go_wp2
  go_loopw [10, 41] (fun v i wr => ∃ (k n : Nat) (A' : Option Addr) (c' : Nat), k ≤ l.length ∧ i = .int .i64 k ∧ v = .slice A' n c' ∧ Hid ((kindsV (l.take k)).length = n) ∧
      Hid (OwnN w2.heap.size wr (.slice A' n c') (kindsV (l.take k))) ∧ Hid (Below w2.heap.size w2 wr)) (fun _ i _ => l.length - (intOf i).toNat)
  case atStart => exact ⟨0, 0, none, 0, Nat.zero_le _, rfl, rfl, Lib.hid rfl, Lib.hid (OwnN.nil _ _), Lib.hid (Below.refl _ _)⟩
  case round =>
    obtain ⟨k, n, A', c', hk, rfl, rfl, HON, hown, hb⟩ := hrel
    obtain ⟨w3, rfl⟩ : ∃ w3 : World, w3 = wr := ⟨_, rfl⟩
    have hsz := hb.out.size
    by_cases hlt : k < l.length
    · obtain ⟨b2, off2, x1, y, z, he2, hbb, hc0, hc1, hc2, hs⟩ := HR.out.at_ hlt
      simp only [Option.some.injEq, Addr.mk.injEq, and_true] at he2
      obtain ⟨rfl, rfl⟩ := he2
      rw [← hb.out.cell (p := ⟨b, _, none⟩) hbb] at hc0 hc1 hc2
      have hbr : b < w3.heap.size := by omega
      have KM := Lib.hid (kinds_more hlt hs.out)
      have KL := Nat.le_trans (kinds_take l (k + 1)) HT.out.short
      have bd : 0 ≤ y ∧ y < z ∧ z ≤ 40320 := by have := HT.out.at_ k hlt; rw [hs.out] at this; exact this.2
      obtain ⟨bd0, bd1, bd2⟩ := bd
      obtain ⟨ks, hks⟩ : ∃ ks, kindsV (l.take k) = ks := ⟨_, rfl⟩
      rw [hks] at HON hown KM
      obtain ⟨m, hm⟩ : ∃ m, (z - y).toNat = m := ⟨_, rfl⟩
      rw [hm] at KM
      have hzy : z = y + (m : Int) := by omega
      have hm1 : 1 ≤ m := by omega
      have hm2 : m ≤ 40320 := by omega
      rw [KM.out, List.length_append, List.length_replicate, HON.out] at KL
      have RP : ∀ W b' off' c', W.cell? ⟨b', off', none⟩ = some (.int .i64 x1) → Calls Try.prog 35 #[.slice (some ⟨b', off', none⟩) 1 c', .int .i64 (z - y)] W fun e w' => ∃ g cap, e = .returned (.slice (some ⟨g, 0, none⟩) m cap) ∧ OwnN W.heap.size w' (.slice (some ⟨g, 0, none⟩) m cap) (List.replicate m x1) ∧ Below W.heap.size W w' := fun W b' off' c' h => by
        have := repeat_any x1 m hm1 (by omega) b' off' c' W h
        rwa [show (z - y : Int) = (m : Int) by omega]
      clear hks hs hzy hm
      go_wp2_with (first
        | (go_at_call 35; go_loud ((with_reducible refine (RP _ _ _ _ (by simp)).mono ?_); rintro e w4 ⟨g, cap, rfl, hrep, hb4⟩; have HRP := Lib.hid hrep; have HB4 := Lib.hid (b_cl (b_al (b_al hb.out (Nat.le_refl _) _) (Nat.le_refl _) _) (Nat.le_refl _) hb4); have HOW := Lib.hid (((hown.out.alloc _).alloc _).below hb4); clear hrep hb4 RP))
        | (at_builtin; go_loud (refine wpList_append_own _ rfl _ _ 59 rfl w2.heap.size 3 i1 (.int .i64 0) 1 8 Try.underlying59 hj hy0 hy1 hy2 rfl (by decide) _ _ _ rfl HOW.out ⟨g, 0, none⟩ m cap ((List.replicate m x1).map (Value.int .i64)) rfl (by simp) (by obtain ⟨A4, c4, e4, h4⟩ := HRP.out.read; simp only [Value.slice.injEq] at e4; obtain ⟨rfl, _, _⟩ := e4; exact h4.news) ints_one (by have := HON.out; unfold maxLen; omega) (by have := HON.out; omega) HB4.out.size ?_; intro v5 w5 hown5 hgrow5 _; have HB5 := Lib.hid (HB4.out.grown hgrow5 HB4.out.size (fun q hq => (World.ownsRow.lt hown.out q hq).1)); have HS := Lib.hid (show OwnN w2.heap.size w5 v5 (ks ++ List.replicate m x1) by unfold OwnN; rw [List.map_append, List.length_append, List.length_replicate]; exact hown5); clear hown5 hgrow5)))
      obtain ⟨A5, c5, rfl, _⟩ := HS.out.read
      go_wp2
      go_roundw
      case rel => exact ⟨k + 1, n + m, A5, c5, by omega, by go_num, by rw [List.length_append, List.length_replicate, HON.out], Lib.hid (by rw [KM.out, List.length_append, List.length_replicate, HON.out]), Lib.hid (by rw [KM.out]; have := HS.out; rw [List.length_append, List.length_replicate, HON.out] at this; exact this), HB5⟩
      case measure => simp [intOf]; omega
    · have hkl : k = l.length := by omega
      subst hkl
      have HE := Lib.hid (show kindsV (l.take l.length) = kindsV l by rw [List.take_of_length_le (Nat.le_refl _)])
      rw [HE.out] at hown HON
      have hlen := HON.out
      subst hlen
      have RN := fun W h => run_any x .zero A' c' (kindsV l) W h (by have := HT.out.short; omega)
      rw [HV.out] at RN
      have RD : RdN w3 A' (kindsV l) := by
        obtain ⟨A4, c4, e4, h4⟩ := hown.out.read
        simp only [Value.slice.injEq] at e4
        obtain ⟨rfl, _, _⟩ := e4
        exact h4
      have RB3 : RdI w3 w.heap.size 0 x := HRB.out.below hb.out
      have BR3 : Bx w3 (w.heap.size + 1) 36 (mt .zero) := HBR.out.below hb.out
      have B3 : Below w.heap.size w w3 := b_cl HB2.out (Nat.le_refl _) hb.out
      go_wp2_with (first
        | refine wpList_load_bk (by rfl) 23 _ rfl _ _ rfl x _ RB3 Try.underlying23 rfl (by kernel_rfl) ?_
        | refine wpList_build_as rfl 36 _ rfl (mt .zero) (by kernel_rfl) ?_
        | (go_at_call 36; (with_reducible refine (RN _ RD).mono ?_); rintro e w6 ⟨rfl, hb6⟩; have BR6 := BR3.below hb6; have B6 := b_cl B3 (Nat.le_refl _) hb6)
        | refine wpList_store_box rfl 36 _ _ rfl (w.heap.size + 1) (mt M) rfl rfl 36 (mt .zero) BR6 (by kernel_rfl) rfl (mt_one _) (fun wz u => ?_))
      refine bodyPost_ret (results_box3 Try.results16 _ _ (w.heap.size + 1) 36 (mt M) _ (.int .i64 (N : Int)) (.int .i64 E) rfl u.box rfl rfl Try.underlying36 rfl (by kernel_rfl)) rfl ⟨rfl, ?_⟩
      exact B6.trans (u.bel _ (by omega))

theorem of13_any (x : Nat → Int) (A : Option Addr) (c : Nat) (l : List Rc) (w : World) (h : RdR w A l) (hl : l.length ≤ 1000000) :
    Calls Try.prog 16 #[.agg (bk x), .slice A l.length c] w fun e w' => e = .returned (.tuple #[.agg (mt (ofMV x l).1), .int .i64 ((ofMV x l).2.1 : Nat), .int .i64 (ofMV x l).2.2]) ∧ Below w.heap.size w w' := by
  unfold ofMV
  by_cases hx : May x
  case neg => rw [if_neg hx]; exact of13_book x A c l w h hl hx
  rw [if_pos hx]
  by_cases he : (checkV l).2 = 0
  case neg => rw [if_neg he]; exact of13_check x A c l w h hl hx _ rfl he
  rw [if_pos he]
  have ht := check_tl he
  by_cases h0 : l.length = 0
  · have : beg l = 0 := by rw [List.eq_nil_of_length_eq_zero h0]; rfl
    rw [if_pos this]
    exact of13_none x A c l w h hl hx ht h0 rfl
  by_cases hb : beg l = 0
  · rw [if_pos hb]
    exact of13_some x A c l w h hl hx ht (by omega) hb rfl
  · rw [if_neg hb]
    exact of13_gap x A c l w h hl hx ht (by omega) hb

end Go.Proofs.Ytlbafgdbemhanaa
