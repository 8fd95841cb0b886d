/- DutyLaxer of layer 16 answers true at every input: what a book accepts, one that is nowhere stricter accepts; the begin of what is accepted is accepted; so is what rests on. Conditions: none beyond the statement's own. -/
import Derived.Test.YtlbafgdbemhanaaRows
import Derived.Test.YtlbafgdbemhanaaBase
import Derived.Test.YtlbafgdbemhanaaZ2
import Derived.Test.YtlbafgdbemhanaaBookLim
import Derived.Test.YtlbafgdbemhanaaBookMayR
import Derived.Test.YtlbafgdbemhanaaZ3
import Derived.Test.YtlbafgdbemhanaaZ1
import Derived.Test.YtlbafgdbemhanaaDutySet
import Derived.Test.YtlbafgdbemhanaaDutyAudit
import Derived.Test.YtlbafgdbemhanaaDutyAlive
import Derived.Test.YtlbafgdbemhanaaBookTightR
import Derived.Test.YtlbafgdbemhanaaRecSmall
import Derived.Test.YtlbafgdbemhanaaDutyUpto
import Derived.Test.YtlbafgdbemhanaaZ5
import Derived.WalkKit
import Derived.WalkSmall
import Derived.WalkSpells
import Derived.ProofKit
import Derived.OpenShut
import Derived.ShutString
import Derived.ChangeOld
import Derived.Below
import Derived.Lib.Hide
import Derived.OwnWalk
import Derived.BigQuiet
import Derived.Outline
import Derived.Great.BuildSlice
import Derived.Maps.RangeWalk
import Derived.Deep.DeepCutAuto
import Derived.OrdersHeld
import Derived.Deep.RegionHeld3
namespace Go.Proofs.Ytlbafgdbemhanaa.dutyLaxer
open Go.ChangeShapes Go.WideShapes Go.ChangeAt Go.RowKit
open Go.ChangeMaps (open_string shut_string)
set_option linter.unusedVariables false

theorem own : ownKnob Try.prog.godebug = none := by kernel_rfl
theorem laidOut : laidOutB Try.prog = true := by kernel_rfl

set_option maxRecDepth 100000 in
set_option maxHeartbeats 4000000 in
theorem walk (w : World) (x0 y0 : Nat → Int) (A1 : Option Addr) (c1 : Nat) (l1 : List Rc) (r1 : RdR w A1 l1) (z1 : A1 = none → c1 = 0) (a2 : Int) (w2 : (Lit.int .i64 a2).wf = true) :
    Calls Try.prog 7 #[.agg (bk2 x0 y0), .slice A1 l1.length c1, .int .i64 a2] w fun e w' => e = .returned (.bool true) ∧ Below w.heap.size w w' := by
  obtain ⟨n, hn⟩ : ∃ n, l1.length = n := ⟨_, rfl⟩
  rw [hn]
  obtain ⟨RX0, RY0⟩ := RdI.two (w := w) (g := w.heap.size) x0 y0 44 rfl
  have B0 : Below w.heap.size w (w.alloc (.cells (bk2 x0 y0) 44)) := b_al (Below.refl _ _) (Nat.le_refl _) _
  have h0 := r1.below B0
  by_cases hbig : 60 < n
  · have dn : decide ((60 : Int) < (n : Int)) = true := decide_eq_true (by omega)
    clear hn
    go_enter Try.func7, Try.ntmps7
    go_wp2_with (first | go_skip | (go_at_call 9; (with_reducible refine (alive16_any _).mono ?_); rintro e w99 ⟨rfl, hb99⟩))
    go_ret
    exact ⟨rfl, b_cl B0 (Nat.le_refl _) hb99⟩
  have dn : decide ((60 : Int) < (n : Int)) = false := decide_eq_false (by omega)
  have AX := fun W h => accepts16_any x0 A1 c1 n l1 W hn h (by omega)
  by_cases hacc : acceptsV x0 l1 = true
  case neg =>
    rw [Bool.not_eq_true] at hacc
    rw [hacc] at AX
    clear hn hacc
    go_enter Try.func7, Try.ntmps7
    go_wp2_with (first | go_skip | refine wpList_load_bk (by rfl) 23 _ rfl _ _ rfl x0 _ (RX0) Try.underlying23 rfl (by kernel_rfl) ?_ | (go_at_call 13; (with_reducible refine (AX _ h0).mono ?_); rintro e w1 ⟨rfl, hb1⟩) | (go_at_call 9; (with_reducible refine (alive16_any _).mono ?_); rintro e w99 ⟨rfl, hb99⟩))
    go_ret
    exact ⟨rfl, b_cl (b_cl B0 (Nat.le_refl _) hb1) (Nat.le_refl _) hb99⟩
  have hup := accepts_upto a2 hacc
  have hulen := upto_len l1 a2
  have hlax := fun g hy => accepts_lax (x := x0) (y := y0) (l := l1) g hy hacc
  have hrest := fun hf => accepts_rest (x := x0) (l := l1) hacc hf
  rw [hacc] at AX
  have TG := fun W => reftighter7_any x0 y0 W
  have MY := fun W => refmay_any y0 W
  have AY := fun W h => accepts16_any y0 A1 c1 n l1 W hn h (by omega)
  have UP := fun W h => upto_any A1 c1 n l1 a2 W hn h (by omega)
  have FI := fun W h => reffin_any A1 c1 n l1 W (Lib.hid hn) h (by omega)
  have AU : ∀ A c W, RdR W A (uptoV l1 a2) → Calls Try.prog 13 #[.agg (bk x0), .slice A (uptoV l1 a2).length c] W fun e w' => e = .returned (.bool true) ∧ Below W.heap.size W w' := fun A c W h => by
    have := accepts16_any x0 A c _ (uptoV l1 a2) W rfl h (by omega)
    rwa [hup] at this
  have AR : ∀ A c W, fin l1 ≠ 40320 → RdR W A (l1 ++ [(0, fin l1, 40320)]) → Calls Try.prog 13 #[.agg (bk x0), .slice A (n + 1) c] W fun e w' => e = .returned (.bool true) ∧ Below W.heap.size W w' := fun A c W hf h => by
    have := accepts16_any x0 A c (n + 1) (l1 ++ [(0, fin l1, 40320)]) W (by rw [List.length_append, hn]; rfl) h (by omega)
    rwa [hrest hf] at this
  have HN := Lib.hid hn
  have HULEN := Lib.hid hulen
  have hfin : 0 ≤ fin l1 ∧ fin l1 ≤ 40320 := (fin_zero (accepts_iff.1 hacc).2.1).2
  obtain ⟨ed, hed⟩ : ∃ ed, fin l1 = ed := ⟨_, rfl⟩
  rw [hed] at FI AR hfin
  obtain ⟨ul, hul⟩ : ∃ ul, uptoV l1 a2 = ul := ⟨_, rfl⟩
  rw [hul] at UP AU
  clear hup hulen hrest hn hacc hed hul HULEN
  go_enter Try.func7, Try.ntmps7
  go_upto_region 3 with (first | go_skip | refine wpList_load_bk (by rfl) 23 _ rfl _ _ rfl x0 _ (RX0) Try.underlying23 rfl (by kernel_rfl) ?_ | (go_at_call 13; (with_reducible refine (AX _ h0).mono ?_); rintro e w1 ⟨rfl, hb1⟩))
  have RX1 := RX0.below hb1
  have RY1 := RY0.below hb1
  have h1 := h0.below hb1
  have B1 := b_cl B0 (Nat.le_refl _) hb1
  clear hb1 RX0 RY0 h0 B0 AX
  (try go_frame)
  go_cut [36] (fun u36 wx => u36 = .bool false ∧ Below w1.heap.size w1 wx)
  case first =>
    by_cases hg : Tig x0 y0
    case neg =>
      simp only [if_neg hg] at TG
      clear hg
      go_wp2_with (first | go_skip | refine wpList_load_bk (by rfl) 23 _ rfl _ _ rfl x0 _ (RX1) Try.underlying23 rfl (by kernel_rfl) ?_ | refine wpList_load_bk (by rfl) 23 _ rfl _ _ rfl y0 _ (RY1) Try.underlying23 rfl (by kernel_rfl) ?_ | (go_at_call 19; (with_reducible refine (TG _).mono ?_); rintro e w2 ⟨rfl, hb2⟩))
      go_meet
      exact ⟨rfl, hb2⟩
    simp only [if_pos hg] at TG
    by_cases hm : May y0
    case neg =>
      simp only [if_neg hm] at MY
      clear hg hm
      go_wp2_with (first | go_skip | refine wpList_load_bk (by rfl) 23 _ rfl _ _ rfl x0 _ (RX1) Try.underlying23 rfl (by kernel_rfl) ?_ | refine wpList_load_bk (by rfl) 23 _ rfl _ _ rfl y0 _ (RY1) Try.underlying23 rfl (by kernel_rfl) ?_ | (go_at_call 19; (with_reducible refine (TG _).mono ?_); rintro e w2 ⟨rfl, hb2⟩; have RY2 := RY1.below hb2; clear RY1) | refine wpList_load_bk (by rfl) 23 _ rfl _ _ rfl y0 _ (RY2) Try.underlying23 rfl (by kernel_rfl) ?_ | (go_at_call 20; (with_reducible refine (MY _).mono ?_); rintro e w3 ⟨rfl, hb3⟩))
      go_meet
      exact ⟨rfl, b_cl hb2 (Nat.le_refl _) hb3⟩
    simp only [if_pos hm] at MY
    rw [hlax hg hm] at AY
    clear hg hm
    go_wp2_with (first | go_skip | refine wpList_load_bk (by rfl) 23 _ rfl _ _ rfl x0 _ (RX1) Try.underlying23 rfl (by kernel_rfl) ?_ | refine wpList_load_bk (by rfl) 23 _ rfl _ _ rfl y0 _ (RY1) Try.underlying23 rfl (by kernel_rfl) ?_ | (go_at_call 19; (with_reducible refine (TG _).mono ?_); rintro e w2 ⟨rfl, hb2⟩; have RY2 := RY1.below hb2; have h2 := h1.below hb2; clear RY1) | refine wpList_load_bk (by rfl) 23 _ rfl _ _ rfl y0 _ (RY2) Try.underlying23 rfl (by kernel_rfl) ?_ | (go_at_call 20; (with_reducible refine (MY _).mono ?_); rintro e w3 ⟨rfl, hb3⟩; have RY3 := RY2.below hb3; have h3 := h2.below hb3; clear RY2) | refine wpList_load_bk (by rfl) 23 _ rfl _ _ rfl y0 _ (RY3) Try.underlying23 rfl (by kernel_rfl) ?_ | (go_at_call 13; (with_reducible refine (AY _ h3).mono ?_); rintro e w4 ⟨rfl, hb4⟩))
    go_meet
    exact ⟨rfl, b_cl (b_cl hb2 (Nat.le_refl _) hb3) (Nat.le_refl _) hb4⟩
  case rest =>
  obtain ⟨rfl, hbe⟩ := hcut
  rename World => w2
  have RX2 := RX1.below hbe
  have h2 := h1.below hbe
  have B2 := b_cl B1 (Nat.le_refl _) hbe
  clear hbe RX1 RY1 h1 B1 TG MY AY hlax
  go_upto_region 5 with (first | go_skip)
  (try go_frame)
  go_cut [43] (fun u43 wx => u43 = .bool false ∧ Below w2.heap.size w2 wx)
  case first =>
    refine wp_region_noPanic ?_
    refine wp_region_held_drew (S := fun w' => Below w2.heap.size w2 w') (by kernel_rfl) ?_ (fun hHeld => ?_)
    · exact b_dr (Below.refl _ _)
    refine wpAnyH_take (i := 0) (oi := ⟨some 37, _, _, _, _, _⟩) (v := ?_) rfl (by kernel_rfl) (by kernel_rfl) (by kernel_rfl) (fun _ _ _ h => h) (Or.inl ⟨by rfl, ?_⟩) (by assumption) ?_
    rotate_left
    · (intro w' hSw; clear hSw; go_simp; try (with_reducible rfl))
    (try simp only [Act.put, List.setIfInBounds_toArray, List.set_cons_zero, List.set_cons_succ])
    refine wpAnyH_take (i := 1) (oi := ⟨some 38, _, _, _, _, _⟩) (v := .agg (bk x0)) rfl (by kernel_rfl) (by kernel_rfl) (by kernel_rfl) (fun _ _ _ h => h) (Or.inl ⟨by rfl, fun w' hSw => exec_load w.heap.size 0 x0 _ w' rfl rfl (RX2.below hSw) Try.underlying23 rfl (by kernel_rfl)⟩) (by assumption) ?_
    (try simp only [Act.put, List.setIfInBounds_toArray, List.set_cons_zero, List.set_cons_succ])
    refine wpAnyH_take (i := 2) (oi := ⟨some 39, _, _, _, _, _⟩) (v := ?_) rfl (by kernel_rfl) (by kernel_rfl) (by kernel_rfl) (fun _ _ _ h => h) (Or.inl ⟨by rfl, ?_⟩) (by assumption) ?_
    rotate_left
    · (intro w' hSw; clear hSw; go_simp; try (with_reducible rfl))
    (try simp only [Act.put, List.setIfInBounds_toArray, List.set_cons_zero, List.set_cons_succ])
    refine wpAnyH_take (i := 3) (oi := ⟨some 40, _, _, _, _, _⟩) (v := ?_) rfl (by kernel_rfl) (by kernel_rfl) (by kernel_rfl) (fun _ _ _ h => h) (Or.inl ⟨by rfl, ?_⟩) (by assumption) ?_
    rotate_left
    · (intro w' hSw; clear hSw; go_simp; try (with_reducible rfl))
    (try simp only [Act.put, List.setIfInBounds_toArray, List.set_cons_zero, List.set_cons_succ])
    refine wpAnyH_ready (rs := [4]) (by kernel_rfl) (by simp) ?_
    refine AllReadyH.cons (o := ⟨some 41, _, _, _, _, _⟩) rfl (fun K hK => ?_) AllReadyH.nil
    go_simp
    (go_at_call 18; (with_reducible refine (UP w2.drew (h2.below (b_dr (Below.refl _ _)))).mono ?_); rintro e w3 ⟨v3, rfl, ho3, hb3⟩; obtain ⟨A3, c3, rfl, hr3, _⟩ := ho3.read)
    go_wp2_with fail
    refine hK.out _ _ (b_cl hHeld (Nat.le_refl _) (by assumption)) (fun hHeld => ?_)
    clear hK K
    (try simp only [Act.put, List.setIfInBounds_toArray, List.set_cons_zero, List.set_cons_succ])
    refine wpAnyH_ready (rs := [5]) (by kernel_rfl) (by simp) ?_
    refine AllReadyH.cons (o := ⟨some 42, _, _, _, _, _⟩) rfl (fun K hK => ?_) AllReadyH.nil
    go_simp
    (go_at_call 13; (with_reducible refine (AU _ _ _ hr3).mono ?_); rintro e w4 ⟨rfl, hb4⟩)
    go_wp2_with fail
    refine hK.out _ _ (b_cl hHeld (Nat.le_refl _) (by assumption)) (fun hHeld => ?_)
    clear hK K
    (try simp only [Act.put, List.setIfInBounds_toArray, List.set_cons_zero, List.set_cons_succ])
    refine wpAnyH_take (i := 6) (oi := ⟨some 43, _, _, _, _, _⟩) (v := ?_) rfl (by kernel_rfl) (by kernel_rfl) (by kernel_rfl) (fun _ _ _ h => h) (Or.inl ⟨by rfl, ?_⟩) (by assumption) ?_
    rotate_left
    · (intro w' hSw; clear hSw; go_simp; try (with_reducible rfl))
    (try simp only [Act.put, List.setIfInBounds_toArray, List.set_cons_zero, List.set_cons_succ])
    refine wpAnyH_done (by kernel_rfl) ?_ _
    refine NoPanic.normal ?_
    go_wp2_with fail
    go_meet
    exact ⟨rfl, hHeld⟩
  case rest =>
  obtain ⟨rfl, hbe⟩ := hcut
  rename World => w3
  have RX3 := RX2.below hbe
  have h3 := h2.below hbe
  have B3 := b_cl B2 (Nat.le_refl _) hbe
  clear hbe RX2 h2 B2 UP AU
  by_cases he : ed = 40320
  case pos =>
    have dz : (ed == 40320) = true := by simpa using he
    clear he AR
    go_wp2_with (first | go_skip | (go_at_call 17; (with_reducible refine (FI _ h3).mono ?_); rintro e w4 ⟨rfl, rfl⟩) | (go_at_call 9; (with_reducible refine (alive16_any _).mono ?_); rintro e w99 ⟨rfl, hb99⟩))
    go_ret
    exact ⟨rfl, b_cl B3 (Nat.le_refl _) hb99⟩
  case neg =>
    have dz : (ed == 40320) = false := by simpa using he
    have HE := Lib.hid he
    clear he
    have hgw : w.heap.size ≤ w3.heap.size := B3.size
    obtain ⟨i0, hi, hz0, hz1, hz2⟩ := info_parts info_rec
    go_wp2_with (first
      | go_skip
      | (go_at_call 17; (with_reducible refine (FI _ h3).mono ?_); rintro e w4 ⟨rfl, rfl⟩)
      | (at_builtin; refine append_recs16 rfl _ _ rfl w3.heap.size _ [] l1 rfl (OwnR.nil _ _) A1 n c1 rfl HN.out h3 z1 (by simp; omega) (Nat.le_refl _) ?_; intro v5 w5 ho5 hg5; have HO5 := Lib.hid (show OwnR w3.heap.size w5 v5 l1 from ho5); have hb5 : Below w3.heap.size w3 w5 := (Below.refl _ _).grown hg5 (Nat.le_refl _) (fun k hk => by cases hk); have hz5 := hb5.size; clear ho5 hg5 h3)
      | (at_builtin; refine wpList_append_own _ rfl _ _ 24 rfl w3.heap.size 48 i0 (.agg #[.int .i64 0, .int .i64 0, .int .i64 0]) 3 24 Try.underlying24 hi hz0 hz1 hz2 rfl (by decide) _ _ _ rfl (OwnR.alloc HO5.out _) ⟨w5.heap.size, 0, none⟩ 1 1 [.int .i64 0, .int .i64 ed, .int .i64 40320] rfl rfl (rec_news rfl) rec_cells (by have := HN.out; unfold maxLen; omega) (by have := HN.out; omega) (by simp; omega) ?_; intro v6 w6 hown6 hgrow6 _; have HO6 := Lib.hid (OwnR.snoc hown6); have hb6 : Below w3.heap.size w3 w6 := (b_al hb5 (Nat.le_refl _) _).grown hgrow6 (by simp; omega) (fun k hk => (World.ownsRow.lt HO5.out k hk).1); have RX6 := RX3.below hb6; clear hown6 hgrow6; obtain ⟨A6, c6, rfl, hr6, _⟩ := HO6.out.read; have HR6 := Lib.hid hr6; rw [List.length_append, HN.out, List.length_singleton])
      | refine wpList_load_bk (by rfl) 23 _ rfl _ _ rfl x0 _ (RX6) Try.underlying23 rfl (by kernel_rfl) ?_
      | (go_at_call 13; (with_reducible refine (AR _ _ _ HE.out HR6.out).mono ?_); rintro e w7 ⟨rfl, hb7⟩)
      | (go_at_call 9; (with_reducible refine (alive16_any _).mono ?_); rintro e w99 ⟨rfl, hb99⟩))
    go_ret
    exact ⟨rfl, b_cl (b_cl (B3.trans (hb6.mono hgw)) (Nat.le_refl _) hb7) (Nat.le_refl _) hb99⟩

set_option maxRecDepth 100000 in
theorem lifted (os : Os) (started : os.Started) (H : Type) (enc : TypeId × Value → H) :
    ReturnsInHanded {} Try.checked os 7 .any (Rows.dutyLaxerSpec.pre6 enc Try.prog Try.f7 Rows.dutyLaxerRow.domain false) (Rows.dutyLaxerSpec.post enc Try.prog Try.f7 false true false false) := by
  refine returnsInHanded_of_change (C := Try.checked) own started (by kernel_rfl) Try.func7
    (ChangeSpec.witness6 (enc := enc) (C := Try.checked) false ⟨#[], #[.agg #[.int .i64 0, .int .i64 0, .int .i64 0, .int .i64 0, .int .i64 0, .int .i64 0, .int .i64 0, .int .i64 0, .int .i64 0, .int .i64 0, .int .i64 0, .int .i64 0, .int .i64 0, .int .i64 0, .int .i64 0, .int .i64 0, .int .i64 0, .int .i64 0, .int .i64 0, .int .i64 0, .int .i64 0, .int .i64 0, .int .i64 0, .int .i64 0, .int .i64 0, .int .i64 0, .int .i64 0, .int .i64 0, .int .i64 0, .int .i64 0, .int .i64 0, .int .i64 0, .int .i64 0, .int .i64 0, .int .i64 0, .int .i64 0, .int .i64 0, .int .i64 0], .slice none 0 0, .int .i64 0], []⟩ 8 (by kernel_rfl) (by kernel_rfl) (by kernel_rfl) (by kernel_rfl)) ?_
  intro W base args ds gs before hval0 hW hcnd _
  have hval : ∀ (j : Nat) t v, Try.f7.params[j]? = some t → args[j]? = some v → Value.okWide Try.prog W .any base t v := hval0
  have hW' := hW
  obtain ⟨p, q, hA0, hV, rfl, hfz, hnd⟩ := hW
  have hA : DataW.TrodAll enc Try.prog W 0 (fun _ => true) true Try.f7.params.toList args.toList ds p := hA0
  rw [Try.params7] at hA hval
  obtain ⟨v0, vs0, d0, ds0, p0, q0, hargs, rfl, rfl, h0, r0⟩ := trodAll_cons hA
  obtain ⟨v1, vs1, d1, ds1, p1, q1, rfl, rfl, rfl, h1, r1⟩ := trodAll_cons r0
  obtain ⟨v2, vs2, d2, ds2, p2, q2, rfl, rfl, rfl, h2, r2⟩ := trodAll_cons r1
  obtain ⟨rfl, rfl, rfl⟩ := trodAll_nil r2
  obtain rfl : args = #[v0, v1, v2] := by cases args; simp_all
  obtain ⟨rfl, rfl⟩ := trodVars_none hV
  have k0 := h0
  have lt0 : ∀ x ∈ p0, x.block < W.heap.size := by obtain ⟨m, hm⟩ := k0; exact DataW.trod_lt m _ _ _ hm
  obtain ⟨x0, y0, rfl⟩ := open_books (hval 0 44 v0 rfl rfl) h0
  have k1 := h1
  have lt1 : ∀ x ∈ p1, x.block < W.heap.size := by obtain ⟨m, hm⟩ := k1; exact DataW.trod_lt m _ _ _ hm
  obtain ⟨A1, n1, c1, l1, rfl, rfl, rd1, zz1⟩ := open_recs (hval 1 24 v1 rfl rfl) h1
  obtain ⟨a2, rfl, rfl, rfl, w2⟩ := open_int Try.underlying3 (hval 2 3 v2 rfl rfl) h2
  clear hA0 hval0
  refine (walk W x0 y0 A1 c1 l1 rd1 zz1 a2 w2).mono fun e W' ⟨he, bel⟩ => ?_
  subst he
  exact ⟨_, rfl, _, _, _, [], _, [], hW', trodAll_mk1 (shut_bool Try.underlying4 _), (trodAll_cons_mk (Below.trod laidOut (by kernel_rfl) (of_decide_eq_true (by kernel_rfl)) k0 bel lt0) (trodAll_cons_mk (Below.trod laidOut (by kernel_rfl) (of_decide_eq_true (by kernel_rfl)) k1 bel lt1) (trodAll_cons_mk (shut_int Try.underlying3 w2) trodAll_mk0))), rfl, bel.frame _, fun h => by cases h⟩

theorem over : Rows.dutyLaxerRow.holds Try.pinned (OpenSpec.ofChange Rows.dutyLaxerSpec) :=
  OpenClaim.holds_of_wide 7 Try.f7 rfl rfl rfl rfl rfl rfl rfl ⟨rfl, rfl, rfl, rfl, rfl⟩ rfl rfl rfl rfl rfl (by kernel_rfl) Try.func7 (by kernel_rfl)
    (of_decide_eq_true (by kernel_rfl)) (by unfold Func.isWrapper; first | (rw [if_pos (by decide +kernel)]; kernel_rfl) | (rw [if_neg (by decide +kernel)]; exact ⟨rfl, rfl⟩))
    (fun os started H enc _ => lifted os started H enc)

theorem proved : Rows.DutyLaxerSaid := over
#print axioms proved
end Go.Proofs.Ytlbafgdbemhanaa.dutyLaxer
