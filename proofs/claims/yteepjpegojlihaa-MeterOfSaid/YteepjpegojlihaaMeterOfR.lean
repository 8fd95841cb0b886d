/- What the document's own Of of layer 13 returns. Conditions: the records can be read; at most a million. -/
import Derived.Test.YteepjpegojlihaaRows
import Derived.Test.YteepjpegojlihaaBase
import Derived.Test.YteepjpegojlihaaRow
import Derived.Test.YteepjpegojlihaaBookRow
import Derived.Test.YteepjpegojlihaaBookLim
import Derived.Test.YteepjpegojlihaaBookLaws
import Derived.Test.YteepjpegojlihaaRecMath
import Derived.Test.YteepjpegojlihaaRecHeap
import Derived.Test.YteepjpegojlihaaBox
import Derived.Test.YteepjpegojlihaaSpellMath
import Derived.Test.YteepjpegojlihaaMeterMath
import Derived.Test.YteepjpegojlihaaMeterRun
import Derived.Test.YteepjpegojlihaaMeterRRun
import Derived.Test.YteepjpegojlihaaMeterOf0
import Derived.Test.YteepjpegojlihaaRecCheckR
import Derived.Test.YteepjpegojlihaaRecSmall
import Derived.Test.YteepjpegojlihaaRecKinds
import Derived.Test.YteepjpegojlihaaBookMayR
import Derived.WalkKit
import Derived.WalkSpells
import Derived.WalkSmall
import Derived.Below
import Derived.Lib.Hide
import Derived.BigQuiet
import Derived.OwnWalk
import Derived.Outline
import Derived.Great.BuildSlice
import Derived.Maps.RangeWalk
import Derived.Deep.DeepCutAuto
import Derived.Deep.RegionHeld3
import Derived.OrdersHeld
namespace Go.Proofs.Yteepjpegojlihaa
open Go.RowKit
set_option linter.unusedVariables false

theorem rdi_other {W W' : World} {b off g : Nat} {x : Nat → Int} {T : TypeId} {cs : Array Value} (h : RdI W b off x) (u : Upd W g T cs W') (hne : b ≠ g) : RdI W' b off x :=
  ⟨by rw [u.size]; exact h.1, fun i hi => (u.cell (p := ⟨b, off + i, none⟩) hne).trans (h.2 i hi)⟩

set_option maxRecDepth 100000 in
set_option maxHeartbeats 4000000 in
theorem refof13_book (x : Nat → Int) (A : Option Addr) (c : Nat) (l : List Rc) (w : World) (h : RdR w A l) (hl : l.length ≤ 1000000) (hx : ¬ May x) :
    Calls Try.prog 14 #[.agg (bk x), .slice A l.length c] w fun e w' => e = .returned (.tuple #[.agg (mt .zero), .int .i64 0, .int .i64 14]) ∧ Below w.heap.size w w' := by
  have C1 : ∀ W, Calls Try.prog 16 #[.agg (bk x)] W fun e w' => e = .returned (.bool false) ∧ Below W.heap.size W w' := fun W => by
    have := refmay_any x W
    rwa [if_neg hx] at this
  have RB : RdI ((w.alloc (.cells (bk x) 23)).alloc (.cells (mt .zero) 25)) w.heap.size 0 x := (RdI.new x 23 rfl).alloc _
  have BR : Bx ((w.alloc (.cells (bk x) 23)).alloc (.cells (mt .zero) 25)) (w.heap.size + 1) 25 (mt .zero) := Bx.new (W := w.alloc (.cells (bk x) 23)) _ _ (by simp)
  have hB0 : Below w.heap.size w ((w.alloc (.cells (bk x) 23)).alloc (.cells (mt .zero) 25)) := b_al (b_al (Below.refl _ _) (Nat.le_refl _) _) (Nat.le_refl _) _
  clear hx
  go_enter Try.func14, Try.ntmps14
  go_wp2_with (first | refine wpList_load_bk (by rfl) 23 _ rfl _ _ rfl x _ (by assumption) Try.underlying23 rfl (by kernel_rfl) ?_ | (go_at_call 16; (with_reducible refine (C1 _).mono ?_); rintro e w1 ⟨rfl, hb1⟩; have BR1 := BR.below hb1; have RB1 := RB.below hb1; have B1 := b_cl hB0 (Nat.le_refl _) hb1) | refine wpList_build_as rfl 25 _ rfl (mt .zero) (by kernel_rfl) ?_ | refine wpList_store_box rfl 25 _ _ rfl (w.heap.size + 1) (mt .zero) rfl rfl 25 (mt .zero) BR1 (by kernel_rfl) rfl (mt_one _) (fun wz u => ?_))
  refine bodyPost_ret (results_box3 Try.results14 _ _ (w.heap.size + 1) 25 (mt .zero) _ (.int .i64 0) (.int .i64 14) rfl u.box rfl rfl Try.underlying25 rfl (by kernel_rfl)) rfl ⟨rfl, ?_⟩
  exact B1.trans (u.bel _ (by omega))

set_option maxRecDepth 100000 in
set_option maxHeartbeats 4000000 in
theorem refof13_check (x : Nat → Int) (A : Option Addr) (c : Nat) (l : List Rc) (w : World) (h : RdR w A l) (hl : l.length ≤ 1000000) (hx : May x) (er : Int) (he : (checkV l).2 = er) (hne : er ≠ 0) :
    Calls Try.prog 14 #[.agg (bk x), .slice A l.length c] w fun e w' => e = .returned (.tuple #[.agg (mt .zero), .int .i64 0, .int .i64 er]) ∧ Below w.heap.size w w' := by
  have C1 : ∀ W, Calls Try.prog 16 #[.agg (bk x)] W fun e w' => e = .returned (.bool true) ∧ Below W.heap.size W w' := fun W => by
    have := refmay_any x W
    rwa [if_pos hx] at this
  have C2 := fun W h => refrcheck_any A c l W h (by omega)
  rw [he] at C2
  generalize ((checkV l).1 : Int) = pl at C2
  have ne : (er != 0) = true := by simpa using hne
  have ne2 : (er == 0) = false := by simpa using hne
  have RB : RdI ((w.alloc (.cells (bk x) 23)).alloc (.cells (mt .zero) 25)) w.heap.size 0 x := (RdI.new x 23 rfl).alloc _
  have BR : Bx ((w.alloc (.cells (bk x) 23)).alloc (.cells (mt .zero) 25)) (w.heap.size + 1) 25 (mt .zero) := Bx.new (W := w.alloc (.cells (bk x) 23)) _ _ (by simp)
  have hB0 : Below w.heap.size w ((w.alloc (.cells (bk x) 23)).alloc (.cells (mt .zero) 25)) := b_al (b_al (Below.refl _ _) (Nat.le_refl _) _) (Nat.le_refl _) _
  clear hx he hne
  go_enter Try.func14, Try.ntmps14
  go_wp2_with (first | refine wpList_load_bk (by rfl) 23 _ rfl _ _ rfl x _ (by assumption) Try.underlying23 rfl (by kernel_rfl) ?_ | (go_at_call 16; (with_reducible refine (C1 _).mono ?_); rintro e w1 ⟨rfl, hb1⟩; have BR1 := BR.below hb1; have RB1 := RB.below hb1; have B1 := b_cl hB0 (Nat.le_refl _) hb1) | (go_at_call 25; (with_reducible refine (C2 _ (h.below B1)).mono ?_); rintro e w2 ⟨rfl, hb2⟩; have BR2 := BR1.below hb2; have RB2 := RB1.below hb2; have B2 := b_cl B1 (Nat.le_refl _) hb2) | refine wpList_build_as rfl 25 _ rfl (mt .zero) (by kernel_rfl) ?_ | refine wpList_store_box rfl 25 _ _ rfl (w.heap.size + 1) (mt .zero) rfl rfl 25 (mt .zero) BR2 (by kernel_rfl) rfl (mt_one _) (fun wz u => ?_))
  refine bodyPost_ret (results_box3 Try.results14 _ _ (w.heap.size + 1) 25 (mt .zero) _ (.int .i64 0) (.int .i64 er) rfl u.box rfl rfl Try.underlying25 rfl (by kernel_rfl)) rfl ⟨rfl, ?_⟩
  exact B2.trans (u.bel _ (by omega))

set_option maxRecDepth 100000 in
set_option maxHeartbeats 4000000 in
theorem refof13_gap (x : Nat → Int) (A : Option Addr) (c : Nat) (l : List Rc) (w : World) (h : RdR w A l) (hl : l.length ≤ 1000000) (hx : May x) {e : Int} (ht : Tl e l) (hb : beg l ≠ 0) :
    Calls Try.prog 14 #[.agg (bk x), .slice A l.length c] w fun e w' => e = .returned (.tuple #[.agg (mt .zero), .int .i64 0, .int .i64 5]) ∧ Below w.heap.size w w' := by
  have C1 : ∀ W, Calls Try.prog 16 #[.agg (bk x)] W fun e w' => e = .returned (.bool true) ∧ Below W.heap.size W w' := fun W => by
    have := refmay_any x W
    rwa [if_pos hx] at this
  have C2 : ∀ W, RdR W A l → Calls Try.prog 25 #[.slice A l.length c] W fun e w' => e = .returned (.tuple #[.int .i64 0, .int .i64 0]) ∧ Below W.heap.size W w' := fun W h => by
    have := refrcheck_any A c l W h (by omega)
    rw [tl_check ht] at this
    exact this
  have C3 := fun W h => refbeg_any A c l.length l W (Lib.hid rfl) h (by omega)
  generalize beg l = bl at C3 hb
  have ne : (bl != 0) = true := by simpa using hb
  have ne2 : (bl == 0) = false := by simpa using hb
  have RB : RdI ((w.alloc (.cells (bk x) 23)).alloc (.cells (mt .zero) 25)) w.heap.size 0 x := (RdI.new x 23 rfl).alloc _
  have BR : Bx ((w.alloc (.cells (bk x) 23)).alloc (.cells (mt .zero) 25)) (w.heap.size + 1) 25 (mt .zero) := Bx.new (W := w.alloc (.cells (bk x) 23)) _ _ (by simp)
  have hB0 : Below w.heap.size w ((w.alloc (.cells (bk x) 23)).alloc (.cells (mt .zero) 25)) := b_al (b_al (Below.refl _ _) (Nat.le_refl _) _) (Nat.le_refl _) _
  clear hx ht hb
  go_enter Try.func14, Try.ntmps14
  go_wp2_with (first | refine wpList_load_bk (by rfl) 23 _ rfl _ _ rfl x _ (by assumption) Try.underlying23 rfl (by kernel_rfl) ?_ | (go_at_call 16; (with_reducible refine (C1 _).mono ?_); rintro e w1 ⟨rfl, hb1⟩; have BR1 := BR.below hb1; have RB1 := RB.below hb1; have B1 := b_cl hB0 (Nat.le_refl _) hb1) | (go_at_call 25; (with_reducible refine (C2 _ (h.below B1)).mono ?_); rintro e w2 ⟨rfl, hb2⟩; have BR2 := BR1.below hb2; have RB2 := RB1.below hb2; have B2 := b_cl B1 (Nat.le_refl _) hb2) | (go_at_call 26; (with_reducible refine (C3 _ (h.below B2)).mono ?_); rintro e w9 ⟨rfl, rfl⟩) | refine wpList_build_as rfl 25 _ rfl (mt .zero) (by kernel_rfl) ?_ | refine wpList_store_box rfl 25 _ _ rfl (w.heap.size + 1) (mt .zero) rfl rfl 25 (mt .zero) BR2 (by kernel_rfl) rfl (mt_one _) (fun wz u => ?_))
  refine bodyPost_ret (results_box3 Try.results14 _ _ (w.heap.size + 1) 25 (mt .zero) _ (.int .i64 0) (.int .i64 5) rfl u.box rfl rfl Try.underlying25 rfl (by kernel_rfl)) rfl ⟨rfl, ?_⟩
  exact B2.trans (u.bel _ (by omega))

set_option maxRecDepth 100000 in
set_option maxHeartbeats 4000000 in
theorem refof13_main (x : Nat → Int) (A : Option Addr) (c : Nat) (l : List Rc) (w : World) (h : RdR w A l) (hl : l.length ≤ 1000000) (hx : May x) {e : Int} (ht : Tl e l) (hb0 : beg l = 0) {M : Mt} {N : Nat} {E : Int} (hV : meterV x .zero (kindsV l) = (M, N, E)) :
    Calls Try.prog 14 #[.agg (bk x), .slice A l.length c] w fun e w' => e = .returned (.tuple #[.agg (mt M), .int .i64 (N : Nat), .int .i64 E]) ∧ Below w.heap.size w w' := by
  have C1 : ∀ W, Calls Try.prog 16 #[.agg (bk x)] W fun e w' => e = .returned (.bool true) ∧ Below W.heap.size W w' := fun W => by
    have := refmay_any x W
    rwa [if_pos hx] at this
  have C2 : ∀ W, RdR W A l → Calls Try.prog 25 #[.slice A l.length c] W fun e w' => e = .returned (.tuple #[.int .i64 0, .int .i64 0]) ∧ Below W.heap.size W w' := fun W h => by
    have := refrcheck_any A c l W h (by omega)
    rw [tl_check ht] at this
    exact this
  have C3 := fun W h => refbeg_any A c l.length l W (Lib.hid rfl) h (by omega)
  rw [hb0] at C3
  have KI := fun W h => refkinds_any A c l W h ht (by omega)
  have RN : ∀ W A' c', RdN W A' (kindsV l) → Calls Try.prog 8 #[.agg (bk x), .agg (mt .zero), .slice A' (kindsV l).length c'] W fun e w' => e = .returned (.tuple #[.agg (mt M), .int .i64 (N : Int), .int .i64 E]) ∧ Below W.heap.size W w' := fun W A' c' h => by
    have := refrun_any x .zero A' c' (kindsV l) W h (by have := ht.short; omega)
    rwa [hV] at this
  have RB : RdI ((w.alloc (.cells (bk x) 23)).alloc (.cells (mt .zero) 25)) w.heap.size 0 x := (RdI.new x 23 rfl).alloc _
  have BR : Bx ((w.alloc (.cells (bk x) 23)).alloc (.cells (mt .zero) 25)) (w.heap.size + 1) 25 (mt .zero) := Bx.new (W := w.alloc (.cells (bk x) 23)) _ _ (by simp)
  have hB0 : Below w.heap.size w ((w.alloc (.cells (bk x) 23)).alloc (.cells (mt .zero) 25)) := b_al (b_al (Below.refl _ _) (Nat.le_refl _) _) (Nat.le_refl _) _
  clear hx hV
  go_enter Try.func14, Try.ntmps14
  go_upto_region 8 with (first | refine wpList_load_bk (by rfl) 23 _ rfl _ _ rfl x _ (by assumption) Try.underlying23 rfl (by kernel_rfl) ?_ | (go_at_call 16; (with_reducible refine (C1 _).mono ?_); rintro e w1 ⟨rfl, hb1⟩; have BR1 := BR.below hb1; have RB1 := RB.below hb1; have B1 := b_cl hB0 (Nat.le_refl _) hb1) | (go_at_call 25; (with_reducible refine (C2 _ (h.below B1)).mono ?_); rintro e w2 ⟨rfl, hb2⟩; have BR2 := BR1.below hb2; have RB2 := RB1.below hb2; have B2 := b_cl B1 (Nat.le_refl _) hb2) | (go_at_call 26; (with_reducible refine (C3 _ (h.below B2)).mono ?_); rintro e w9 ⟨rfl, rfl⟩))
  have HR := Lib.hid h
  have hz3 : w.heap.size + 2 ≤ w2.heap.size := by have h1 := hb1.size; have h2 := hb2.size; simp only [World.size_alloc] at h1; omega
  have HB2 := Lib.hid B2
  have BR3 : Bx w2.drew (w.heap.size + 1) 25 (mt .zero) := BR2.drew
  have S0 : Below w.heap.size w w2.drew ∧ RdI w2.drew w.heap.size 0 x := ⟨b_dr B2, RB2⟩
  clear h ht RB BR hB0 hb1 BR1 RB1 B1 hb2 BR2 RB2 B2 C1 C2 C3
  generalize kindsV l = ks at KI RN
  refine wp_region_noPanic ?_
  refine wp_region_held_drew (S := fun w' => Below w.heap.size w w' ∧ RdI w' w.heap.size 0 x) (by kernel_rfl) ?_ (fun hHeld => ?_)
  · exact S0
  refine wpAnyH_take (i := 0) (oi := ⟨some 26, _, _, _, _, _⟩) (v := .agg (bk x)) rfl (by kernel_rfl) (by kernel_rfl) (by kernel_rfl) (fun _ _ _ h => h) (yieldsIf_exec (by rfl) (fun w' hSw => exec_load w.heap.size 0 x _ w' rfl rfl hSw.2 Try.underlying23 rfl (by kernel_rfl))) (by assumption) ?_
  (try simp only [Act.put, List.setIfInBounds_toArray, List.set_cons_zero, List.set_cons_succ])
  refine wpAnyH_take (i := 1) (oi := ⟨some 27, _, _, _, _, _⟩) (v := .agg (mt .zero)) rfl (by kernel_rfl) (by kernel_rfl) (by kernel_rfl) (fun _ _ _ h => h) (yieldsIf_exec (by rfl) (fun w' hSw => exec_build _ w' rfl (by kernel_rfl))) (by assumption) ?_
  (try simp only [Act.put, List.setIfInBounds_toArray, List.set_cons_zero, List.set_cons_succ])
  refine wpAnyH_take (i := 2) (oi := ⟨some 28, _, _, _, _, _⟩) (v := ?_) rfl (by kernel_rfl) (by kernel_rfl) (by kernel_rfl) (fun _ _ _ h => h) (Or.inl ⟨by rfl, ?_⟩) (by assumption) ?_
  rotate_left
  · (intro w' hSw; clear hSw; go_simp; try (with_reducible rfl))
  (try simp only [Act.put, List.setIfInBounds_toArray, List.set_cons_zero, List.set_cons_succ])
  refine wpAnyH_ready (rs := [3]) (by kernel_rfl) (by simp) ?_
  refine AllReadyH.cons (o := ⟨some 29, _, _, _, _, _⟩) rfl (fun K hK => ?_) AllReadyH.nil
  go_simp
  (go_at_call 27; (with_reducible refine (KI _ (HR.out.below hHeld.1)).mono ?_); rintro e w4 ⟨v4, rfl, hk4, hb4⟩; obtain ⟨A4, c4, rfl, rd4⟩ := hk4.read; have BR4 := BR3.below hb4; have S4 := And.intro (b_tr hHeld.1 hb4) (hHeld.2.below hb4))
  go_wp2_with fail
  refine hK.out _ _ S4 (fun hHeld => ?_)
  clear hK K
  (try simp only [Act.put, List.setIfInBounds_toArray, List.set_cons_zero, List.set_cons_succ])
  refine wpAnyH_ready (rs := [4]) (by kernel_rfl) (by simp) ?_
  refine AllReadyH.cons (o := ⟨some 30, _, _, _, _, _⟩) rfl (fun K hK => ?_) AllReadyH.nil
  go_simp
  (go_at_call 8; (with_reducible refine (RN _ _ _ rd4).mono ?_); rintro e w5 ⟨rfl, hb5⟩; have BR5 := BR4.below hb5; have S5 := And.intro (b_tr hHeld.1 hb5) (hHeld.2.below hb5))
  go_wp2_with fail
  refine hK.out _ _ S5 (fun hHeld => ?_)
  clear hK K
  (try simp only [Act.put, List.setIfInBounds_toArray, List.set_cons_zero, List.set_cons_succ])
  refine wpAnyH_take (i := 5) (oi := ⟨some 31, _, _, _, _, _⟩) (v := ?_) rfl (by kernel_rfl) (by kernel_rfl) (by kernel_rfl) (fun _ _ _ h => h) (Or.inl ⟨by rfl, ?_⟩) (by assumption) ?_
  rotate_left
  · (intro w' hSw; clear hSw; go_simp; try (with_reducible rfl))
  (try simp only [Act.put, List.setIfInBounds_toArray, List.set_cons_zero, List.set_cons_succ])
  refine wpAnyH_take (i := 6) (oi := ⟨some 32, _, _, _, _, _⟩) (v := ?_) rfl (by kernel_rfl) (by kernel_rfl) (by kernel_rfl) (fun _ _ _ h => h) (Or.inl ⟨by rfl, ?_⟩) (by assumption) ?_
  rotate_left
  · (intro w' hSw; clear hSw; go_simp; try (with_reducible rfl))
  (try simp only [Act.put, List.setIfInBounds_toArray, List.set_cons_zero, List.set_cons_succ])
  refine wpAnyH_take (i := 7) (oi := ⟨some 33, _, _, _, _, _⟩) (v := ?_) rfl (by kernel_rfl) (by kernel_rfl) (by kernel_rfl) (fun _ _ _ h => h) (Or.inl ⟨by rfl, ?_⟩) (by assumption) ?_
  rotate_left
  · (intro w' hSw; clear hSw; go_simp; try (with_reducible rfl))
  (try simp only [Act.put, List.setIfInBounds_toArray, List.set_cons_zero, List.set_cons_succ])
  refine wpAnyH_ready (rs := [8]) (by kernel_rfl) (by simp) ?_
  refine AllReadyH.cons (o := ⟨none, _, _, _, _, _⟩) rfl (fun K hK => ?_) AllReadyH.nil
  refine wp_store_any 25 _ _ rfl (w.heap.size + 1) (mt M) rfl rfl 25 (mt .zero) BR5 (by kernel_rfl) rfl (mt_one _) (fun w6 u => ?_)
  have B6 : Below w.heap.size w w6 := hHeld.1.trans (u.bel _ (by omega))
  refine hK.out _ _ ⟨B6, rdi_other hHeld.2 u (by omega)⟩ (fun hHeld => ?_)
  clear hK K
  (try simp only [Act.put])
  refine wpAnyH_take (i := 9) (oi := ⟨some 5, _, _, _, _, _⟩) (v := ?_) rfl (by kernel_rfl) (by kernel_rfl) (by kernel_rfl) (fun _ _ _ h => h) (Or.inl ⟨by rfl, ?_⟩) (by assumption) ?_
  rotate_left
  · (intro w' hSw; clear hSw; go_simp; try (with_reducible rfl))
  (try simp only [Act.put, List.setIfInBounds_toArray, List.set_cons_zero, List.set_cons_succ])
  refine wpAnyH_take (i := 10) (oi := ⟨some 6, _, _, _, _, _⟩) (v := ?_) rfl (by kernel_rfl) (by kernel_rfl) (by kernel_rfl) (fun _ _ _ h => h) (Or.inl ⟨by rfl, ?_⟩) (by assumption) ?_
  rotate_left
  · (intro w' hSw; clear hSw; go_simp; try (with_reducible rfl))
  (try simp only [Act.put, List.setIfInBounds_toArray, List.set_cons_zero, List.set_cons_succ])
  refine wpAnyH_done (by kernel_rfl) ?_ _
  refine NoPanic.normal ?_
  go_wp2_with fail
  refine bodyPost_ret (results_box3 Try.results14 _ _ (w.heap.size + 1) 25 (mt M) _ (.int .i64 (N : Int)) (.int .i64 E) rfl u.box rfl rfl Try.underlying25 rfl (by kernel_rfl)) rfl ⟨rfl, B6⟩

theorem refof13_any (x : Nat → Int) (A : Option Addr) (c : Nat) (l : List Rc) (w : World) (h : RdR w A l) (hl : l.length ≤ 1000000) :
    Calls Try.prog 14 #[.agg (bk x), .slice A l.length c] w fun e w' => e = .returned (.tuple #[.agg (mt (ofMV x l).1), .int .i64 ((ofMV x l).2.1 : Nat), .int .i64 (ofMV x l).2.2]) ∧ Below w.heap.size w w' := by
  unfold ofMV
  by_cases hx : May x
  case neg => rw [if_neg hx]; exact refof13_book x A c l w h hl hx
  rw [if_pos hx]
  by_cases he : (checkV l).2 = 0
  case neg => rw [if_neg he]; exact refof13_check x A c l w h hl hx _ rfl he
  rw [if_pos he]
  have ht := check_tl he
  by_cases hb : beg l = 0
  · rw [if_pos hb]
    exact refof13_main x A c l w h hl hx ht hb rfl
  · rw [if_neg hb]
    exact refof13_gap x A c l w h hl hx ht hb

end Go.Proofs.Yteepjpegojlihaa
