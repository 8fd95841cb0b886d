/- What the document answers for layer 25: Play. Conditions: the tasks and the label are right, all can be read. -/
import Derived.Test.YtolbihfnogbjaaaRows
import Derived.Test.YtolbihfnogbjaaaBase
import Derived.Test.YtolbihfnogbjaaaZ2
import Derived.Test.YtolbihfnogbjaaaBookLim
import Derived.Test.YtolbihfnogbjaaaZ1
import Derived.Test.YtolbihfnogbjaaaZ4
import Derived.Test.YtolbihfnogbjaaaZ6
import Derived.Test.YtolbihfnogbjaaaZ3
import Derived.Test.YtolbihfnogbjaaaErrandChk
import Derived.Test.YtolbihfnogbjaaaZ7
import Derived.Test.YtolbihfnogbjaaaErrandSpot
import Derived.Test.YtolbihfnogbjaaaZ8
import Derived.Test.YtolbihfnogbjaaaZ9
import Derived.Test.YtolbihfnogbjaaaLabelRef
import Derived.WalkKit
import Derived.WalkSpells
import Derived.WalkSmall
import Derived.Below
import Derived.Lib.Hide
import Derived.BigQuiet
import Derived.OwnWalk
import Derived.Outline
import Derived.Maps.RangeWalk
import Derived.Deep.DeepCutAuto
import Derived.OrdersHeld
import Derived.Deep.RegionHeld3
namespace Go.Proofs.Ytolbihfnogbjaaa
open Go.RowKit

set_option linter.unusedVariables false

set_option maxRecDepth 100000 in
set_option maxHeartbeats 8000000 in
theorem refplay25_any (x : Nat → Int) (A : Option Addr) (n c : Nat) (l : List Tk) (hn : l.length = n) (a : Lb) (A2 : Option Addr) (n2 c2 : Nat) (ks : List Int) (hn2 : ks.length = n2) (hb2 : n2 ≤ 1000000) (w : World) (r2 : RdN w A2 ks) (h : RdK w A l) (few : Few l) (hl : n ≤ 2001) (ok : ∀ t ∈ l, TkOk t) (hx : May x) (hr : RightL l a) :
    Calls Try.prog 16 #[.agg (bk x), .slice A n c, .agg (lb a), .slice A2 n2 c2] w fun e w' => e = .returned (.tuple #[.agg (lb (playL x l a ks).1), .bool (playL x l a ks).2]) ∧ Below w.heap.size w w' := by
  have XB : Bx (((w.alloc (.cells (bk x) 23)).alloc (.cells (lb a) 30)).alloc (.cells (#[.int .i64 0, .int .i64 0, .bool false, .int .i64 0, .int .i64 0, .int .i64 0, .int .i64 0, .bool false, .int .i64 0, .int .i64 0, .bool false, .int .i64 0, .int .i64 0, .int .i64 0, .int .i64 0, .int .i64 0, .int .i64 0]) 30)) (w.heap.size) 23 (bk x) := ((Bx.new (W := w) _ _ (by simp)).alloc _).alloc _
  have XL : Bx (((w.alloc (.cells (bk x) 23)).alloc (.cells (lb a) 30)).alloc (.cells (#[.int .i64 0, .int .i64 0, .bool false, .int .i64 0, .int .i64 0, .int .i64 0, .int .i64 0, .bool false, .int .i64 0, .int .i64 0, .bool false, .int .i64 0, .int .i64 0, .int .i64 0, .int .i64 0, .int .i64 0, .int .i64 0]) 30)) (w.heap.size + 1) 30 (lb a) := (Bx.new (W := (w.alloc (.cells (bk x) 23))) _ _ (by simp)).alloc _
  have XP : Bx (((w.alloc (.cells (bk x) 23)).alloc (.cells (lb a) 30)).alloc (.cells (#[.int .i64 0, .int .i64 0, .bool false, .int .i64 0, .int .i64 0, .int .i64 0, .int .i64 0, .bool false, .int .i64 0, .int .i64 0, .bool false, .int .i64 0, .int .i64 0, .int .i64 0, .int .i64 0, .int .i64 0, .int .i64 0]) 30)) (w.heap.size + 1 + 1) 30 (#[.int .i64 0, .int .i64 0, .bool false, .int .i64 0, .int .i64 0, .int .i64 0, .int .i64 0, .bool false, .int .i64 0, .int .i64 0, .bool false, .int .i64 0, .int .i64 0, .int .i64 0, .int .i64 0, .int .i64 0, .int .i64 0]) := (Bx.new (W := ((w.alloc (.cells (bk x) 23)).alloc (.cells (lb a) 30))) _ _ (by simp))
  have B0 : Below w.heap.size w (((w.alloc (.cells (bk x) 23)).alloc (.cells (lb a) 30)).alloc (.cells (#[.int .i64 0, .int .i64 0, .bool false, .int .i64 0, .int .i64 0, .int .i64 0, .int .i64 0, .bool false, .int .i64 0, .int .i64 0, .bool false, .int .i64 0, .int .i64 0, .int .i64 0, .int .i64 0, .int .i64 0, .int .i64 0]) 30)) := b_al (b_al (b_al (Below.refl _ _) (Nat.le_refl _) _) (Nat.le_refl _) _) (Nat.le_refl _) _
  have HK := Lib.hid h
  have HR2 := Lib.hid r2
  have HN2 := Lib.hid hn2
  have HX := Lib.hid (show ∀ b k W, RightL l b → (0 ≤ k ∧ k ≤ 3) → RdK W A l → Calls Try.prog 11 #[.agg (bk x), .slice A n c, .agg (lb b), .int .i64 k] W fun e w' => e = .returned (.tuple #[.agg (lb (stepV25 x l b k).1), .bool (stepV25 x l b k).2]) ∧ Below W.heap.size W w' from fun b k W hb hk h => refstep25_any x A n c l hn b k W h few hl ok hx hb hk)
  have HG := Lib.hid (show ∀ b k, RightL l b → goes x l b k → RightL l (nextB x l b k) from fun b k hb g => (goes_on ok hb g).1)
  have HR := Lib.hid hr
  obtain ⟨V, hV⟩ : ∃ V, playL x l a ks = V := ⟨_, rfl⟩
  have HV := Lib.hid hV
  rw [hV]
  clear h few hl ok hx hr r2 hn2 hV hn
  go_enter Try.func16, Try.ntmps16
  go_wp2
  generalize (((w.alloc (.cells (bk x) 23)).alloc (.cells (lb a) 30)).alloc (.cells (#[.int .i64 0, .int .i64 0, .bool false, .int .i64 0, .int .i64 0, .int .i64 0, .int .i64 0, .bool false, .int .i64 0, .int .i64 0, .bool false, .int .i64 0, .int .i64 0, .int .i64 0, .int .i64 0, .int .i64 0, .int .i64 0]) 30)) = w0 at *
  go_loopw [10] (fun i wr => ∃ (k : Nat) (b : Lb), k ≤ n2 ∧ i = .int .i64 k ∧ Hid (RightL l b) ∧ Hid (playL x l b (ks.drop k) = V) ∧ Bx wr (w.heap.size + 1) 30 (lb b) ∧ Hid (Below w.heap.size w wr ∧ Bx wr (w.heap.size + 1 + 1) 30 (lb lz) ∧ Bx wr w.heap.size 23 (bk x))) (fun i _ => n2 - (intOf i).toNat)
  case atStart => exact ⟨0, a, Nat.zero_le _, rfl, HR, Lib.hid (by rw [List.drop_zero]; exact HV.out), XL, Lib.hid ⟨B0, XP, XB⟩⟩
  case round =>
    clear XL XP XB
    obtain ⟨k, b, hk, rfl, HRb, HVb, XLb, HW⟩ := hrel
    obtain ⟨bel, XPr, XBr⟩ := HW.out
    have lt1 := XPr.lt
    have HKr := Lib.hid (HK.out.below bel)
    have rn := HR2.out.below bel
    by_cases hlt : k < n2
    · have gk : (k : Int) < (n2 : Int) := by omega
      obtain ⟨b2, o2, d, rfl, hb2, c2', hd⟩ := rn.at_ (k := k) (by rw [HN2.out]; exact hlt)
      have HD := Lib.hid (show ks.drop k = d :: ks.drop (k + 1) from drop_at hd.out)
      clear rn
      by_cases d0 : d < 0
      · have HVn : Hid ((lz, false) = V) := Lib.hid (by have := HVb.out; rw [HD.out, playL_no (fun g => by have := g.1; omega)] at this; exact this)
        obtain ⟨v1, v2⟩ := V
        go_wp2_with (first
          | go_skip
          | refine wpList_build_as rfl 30 _ rfl (lb lz) (by kernel_rfl) ?_
          | (refine wpList_store_box rfl 30 _ _ rfl (w.heap.size + 1 + 1) (lb lz) rfl rfl 30 (lb lz) (XPr) (by kernel_rfl) rfl (lb_one _) (fun w9 u9 => ?_); have XP9 := u9.box; have HB9 := Lib.hid (bel.trans (u9.bel _ (by omega)))))
        refine bodyPost_ret (v := .tuple #[.agg (lb lz), .bool false]) (results_box2 Try.results16 _ _ (w.heap.size + 1 + 1) 30 (lb lz) _ _ rfl XP9 rfl Try.underlying30 rfl (by kernel_rfl)) rfl ⟨?_, HB9.out⟩
        have e := HVn.out
        injection e with e1 e2
        rw [← e1, ← e2]
      have m0 : ¬ d < 0 := d0
      by_cases d3 : 3 < d
      · have HVn : Hid ((lz, false) = V) := Lib.hid (by have := HVb.out; rw [HD.out, playL_no (fun g => by have := g.1; omega)] at this; exact this)
        obtain ⟨v1, v2⟩ := V
        go_wp2_with (first
          | go_skip
          | refine wpList_build_as rfl 30 _ rfl (lb lz) (by kernel_rfl) ?_
          | (refine wpList_store_box rfl 30 _ _ rfl (w.heap.size + 1 + 1) (lb lz) rfl rfl 30 (lb lz) (XPr) (by kernel_rfl) rfl (lb_one _) (fun w9 u9 => ?_); have XP9 := u9.box; have HB9 := Lib.hid (bel.trans (u9.bel _ (by omega)))))
        refine bodyPost_ret (v := .tuple #[.agg (lb lz), .bool false]) (results_box2 Try.results16 _ _ (w.heap.size + 1 + 1) 30 (lb lz) _ _ rfl XP9 rfl Try.underlying30 rfl (by kernel_rfl)) rfl ⟨?_, HB9.out⟩
        have e := HVn.out
        injection e with e1 e2
        rw [← e1, ← e2]
      have CS := fun W (h : RdK W A l) => HX.out b d W HRb.out (by omega) h
      by_cases g : goes x l b d
      · rw [stepV25_yes g] at CS
        have HGb := Lib.hid (HG.out b d HRb.out g)
        have HVn : Hid (playL x l (nextB x l b d) (ks.drop (k + 1)) = V) := Lib.hid (by have := HVb.out; rw [HD.out, playL_yes g] at this; exact this)
        generalize nextB x l b d = nb at CS HGb HVn
        clear g
        go_upto_region 6 with fail
        (try go_frame)
        refine wp_region_noPanic ?_
        refine wp_region_held_drew (S := fun w' => Below wr.heap.size wr w') (by kernel_rfl) ?_ (fun hHeld => ?_)
        · exact b_dr (Below.refl _ _)
        refine wpAnyH_take (i := 0) (oi := ⟨some 33, _, _, _, _, _⟩) (v := .agg (bk x)) rfl (by kernel_rfl) (by kernel_rfl) (by kernel_rfl) (fun _ _ _ h => h) (Or.inl ⟨by rfl, fun w' hSw => exec_load_box (w.heap.size) 23 (bk x) _ w' rfl rfl (XBr.keep hSw XBr.lt) Try.underlying23 rfl (by kernel_rfl)⟩) (by assumption) ?_
        (try simp only [Act.put, List.setIfInBounds_toArray, List.set_cons_zero, List.set_cons_succ])
        refine wpAnyH_take (i := 1) (oi := ⟨some 34, _, _, _, _, _⟩) (v := ?_) rfl (by kernel_rfl) (by kernel_rfl) (by kernel_rfl) (fun _ _ _ h => h) (Or.inl ⟨by rfl, ?_⟩) (by assumption) ?_
        rotate_left
        · (intro w' hSw; clear hSw; go_simp; try (with_reducible rfl))
        (try simp only [Act.put, List.setIfInBounds_toArray, List.set_cons_zero, List.set_cons_succ])
        refine wpAnyH_take (i := 2) (oi := ⟨some 35, _, _, _, _, _⟩) (v := .agg (lb b)) rfl (by kernel_rfl) (by kernel_rfl) (by kernel_rfl) (fun _ _ _ h => h) (Or.inl ⟨by rfl, fun w' hSw => exec_load_box (w.heap.size + 1) 30 (lb b) _ w' rfl rfl (XLb.keep hSw XLb.lt) Try.underlying30 rfl (by kernel_rfl)⟩) (by assumption) ?_
        (try simp only [Act.put, List.setIfInBounds_toArray, List.set_cons_zero, List.set_cons_succ])
        refine wpAnyH_take (i := 3) (oi := ⟨some 36, _, _, _, _, _⟩) (v := ?_) rfl (by kernel_rfl) (by kernel_rfl) (by kernel_rfl) (fun _ _ _ h => h) (Or.inl ⟨by rfl, ?_⟩) (by assumption) ?_
        rotate_left
        · (intro w' hSw; clear hSw; go_simp; try (with_reducible rfl))
        (try simp only [Act.put, List.setIfInBounds_toArray, List.set_cons_zero, List.set_cons_succ])
        refine wpAnyH_take (i := 4) (oi := ⟨some 37, _, _, _, _, _⟩) (v := ?_) rfl (by kernel_rfl) (by kernel_rfl) (by kernel_rfl) (fun _ _ _ h => h) (Or.inl ⟨by rfl, ?_⟩) (by assumption) ?_
        rotate_left
        · (intro w' hSw; clear hSw; go_simp; try (with_reducible rfl))
        (try simp only [Act.put, List.setIfInBounds_toArray, List.set_cons_zero, List.set_cons_succ])
        refine wpAnyH_take (i := 5) (oi := ⟨some 38, _, _, _, _, _⟩) (v := ?_) rfl (by kernel_rfl) (by kernel_rfl) (by kernel_rfl) (fun _ _ _ h => h) (Or.inl ⟨by rfl, ?_⟩) (by assumption) ?_
        rotate_left
        · (intro w' hSw; clear hSw; go_simp; try (with_reducible rfl))
        (try simp only [Act.put, List.setIfInBounds_toArray, List.set_cons_zero, List.set_cons_succ])
        refine wpAnyH_take (i := 6) (oi := ⟨some 39, _, _, _, _, _⟩) (v := ?_) rfl (by kernel_rfl) (by kernel_rfl) (by kernel_rfl) (fun _ _ _ h => h) (Or.inl ⟨by rfl, ?_⟩) (by assumption) ?_
        rotate_left
        · (intro w' hSw; have q : w'.cell? ⟨b2, o2 + k, none⟩ = some (.int .i64 d) := (hSw.cell (p := ⟨b2, _, none⟩) hb2).trans c2'; clear hSw; go_simp; try (with_reducible rfl))
        (try simp only [Act.put, List.setIfInBounds_toArray, List.set_cons_zero, List.set_cons_succ])
        refine wpAnyH_ready (rs := [7, 11]) (by kernel_rfl) (by simp) ?_
        refine AllReadyH.cons (o := ⟨some 40, _, _, _, _, _⟩) rfl (fun K hK => ?_) (AllReadyH.cons (o := ⟨some 11, _, _, _, _, _⟩) rfl (fun K hK => ?_) AllReadyH.nil)
        ·
          go_simp
          (go_at_call 11; (with_reducible refine (CS _ (HKr.out.below hHeld)).mono ?_); rintro e w3 ⟨rfl, hb3⟩)
          go_wp2_with fail
          refine hK.out _ _ (b_cl hHeld (Nat.le_refl _) (by assumption)) (fun hHeld => ?_)
          clear hK K
          (try simp only [Act.put, List.setIfInBounds_toArray, List.set_cons_zero, List.set_cons_succ])
          refine wpAnyH_take (i := 8) (oi := ⟨some 32, _, _, _, _, _⟩) (v := ?_) rfl (by kernel_rfl) (by kernel_rfl) (by kernel_rfl) (fun _ _ _ h => h) (Or.inl ⟨by rfl, ?_⟩) (by assumption) ?_
          rotate_left
          · (intro w' hSw; clear hSw; go_simp; try (with_reducible rfl))
          (try simp only [Act.put, List.setIfInBounds_toArray, List.set_cons_zero, List.set_cons_succ])
          refine wpAnyH_take (i := 9) (oi := ⟨some 41, _, _, _, _, _⟩) (v := ?_) rfl (by kernel_rfl) (by kernel_rfl) (by kernel_rfl) (fun _ _ _ h => h) (Or.inl ⟨by rfl, ?_⟩) (by assumption) ?_
          rotate_left
          · (intro w' hSw; clear hSw; go_simp; try (with_reducible rfl))
          (try simp only [Act.put, List.setIfInBounds_toArray, List.set_cons_zero, List.set_cons_succ])
          refine wpAnyH_take (i := 10) (oi := ⟨some 42, _, _, _, _, _⟩) (v := ?_) rfl (by kernel_rfl) (by kernel_rfl) (by kernel_rfl) (fun _ _ _ h => h) (Or.inl ⟨by rfl, ?_⟩) (by assumption) ?_
          rotate_left
          · (intro w' hSw; clear hSw; go_simp; try (with_reducible rfl))
          (try simp only [Act.put, List.setIfInBounds_toArray, List.set_cons_zero, List.set_cons_succ])
          refine wpAnyH_ready (rs := [11]) (by kernel_rfl) (by simp) ?_
          refine AllReadyH.cons (o := ⟨some 11, _, _, _, _, _⟩) rfl (fun K hK => ?_) AllReadyH.nil
          refine wp_alloc_any 30 (lb lz) (by kernel_rfl) (fun g W' hg hA hbA => ?_)
          have hgN := Nat.le_trans hHeld.size hg
          refine hK.out _ _ (b_cl hHeld (Nat.le_refl _) hbA) (fun hHeld => ?_)
          clear hK K hbA hg
          (try simp only [Act.put, List.setIfInBounds_toArray, List.set_cons_zero, List.set_cons_succ])
          refine wpAnyH_ready (rs := [12]) (by kernel_rfl) (by simp) ?_
          refine AllReadyH.cons (o := ⟨none, _, _, _, _, _⟩) rfl (fun K hK => ?_) AllReadyH.nil
          refine wp_store_any 30 _ _ rfl g (lb nb) rfl rfl 30 (lb lz) hA (by kernel_rfl) rfl (lb_one _) (fun W' u => ?_)
          refine hK.out _ _ (hHeld.trans (u.bel _ hgN)) (fun hHeld => ?_)
          clear hK K
          (try simp only [Act.put])
          refine wpAnyH_take (i := 13) (oi := ⟨some 12, _, _, _, _, _⟩) (v := ?_) rfl (by kernel_rfl) (by kernel_rfl) (by kernel_rfl) (fun _ _ _ h => h) (Or.inl ⟨by rfl, ?_⟩) (by assumption) ?_
          rotate_left
          · (intro w' hSw; clear hSw; go_simp; try (with_reducible rfl))
          (try simp only [Act.put, List.setIfInBounds_toArray, List.set_cons_zero, List.set_cons_succ])
          refine wpAnyH_done (by kernel_rfl) ?_ _
          refine NoPanic.normal ?_
          have XB1 := XBr.keep hHeld XBr.lt
          have XL1 := XLb.keep hHeld XLb.lt
          have XP1 := XPr.keep hHeld XPr.lt
          have XG1 := u.box
          have bel1 := Lib.hid (b_cl bel (Nat.le_refl _) hHeld)
          go_wp2_with (first
            | go_skip
            | refine wpList_load_box (by rfl) 30 _ rfl (g) rfl 30 (lb nb) _ XG1 Try.underlying30 rfl (by kernel_rfl) ?_
            | (refine wpList_store_box rfl 30 _ _ rfl (w.heap.size + 1) (lb nb) rfl rfl 30 (lb b) XL1 (by kernel_rfl) rfl (lb_one _) (fun w5 u5 => ?_); have XL5 := u5.box; have XP5 := u5.bx XP1 (by omega); have XB5 := u5.bx XB1 (by omega)))
          go_roundw
          case rel => exact ⟨k + 1, nb, by omega, by go_num, HGb, HVn, XL5, Lib.hid ⟨bel1.out.trans (u5.bel _ (by omega)), XP5, XB5⟩⟩
          case measure => simp [intOf]; omega
        ·
          refine wp_alloc_any 30 (lb lz) (by kernel_rfl) (fun g W' hg hA hbA => ?_)
          have hgN := Nat.le_trans hHeld.size hg
          refine hK.out _ _ (b_cl hHeld (Nat.le_refl _) hbA) (fun hHeld => ?_)
          clear hK K hbA hg
          (try simp only [Act.put, List.setIfInBounds_toArray, List.set_cons_zero, List.set_cons_succ])
          refine wpAnyH_ready (rs := [7]) (by kernel_rfl) (by simp) ?_
          refine AllReadyH.cons (o := ⟨some 40, _, _, _, _, _⟩) rfl (fun K hK => ?_) AllReadyH.nil
          go_simp
          (go_at_call 11; (with_reducible refine (CS _ (HKr.out.below hHeld)).mono ?_); rintro e w3 ⟨rfl, hb3⟩)
          go_wp2_with fail
          refine hK.out _ _ (b_cl hHeld (Nat.le_refl _) (by assumption)) (fun hHeld => ?_)
          replace hA := hA.below (by assumption)
          clear hK K
          (try simp only [Act.put, List.setIfInBounds_toArray, List.set_cons_zero, List.set_cons_succ])
          refine wpAnyH_take (i := 8) (oi := ⟨some 32, _, _, _, _, _⟩) (v := ?_) rfl (by kernel_rfl) (by kernel_rfl) (by kernel_rfl) (fun _ _ _ h => h) (Or.inl ⟨by rfl, ?_⟩) (by assumption) ?_
          rotate_left
          · (intro w' hSw; clear hSw; go_simp; try (with_reducible rfl))
          (try simp only [Act.put, List.setIfInBounds_toArray, List.set_cons_zero, List.set_cons_succ])
          refine wpAnyH_take (i := 9) (oi := ⟨some 41, _, _, _, _, _⟩) (v := ?_) rfl (by kernel_rfl) (by kernel_rfl) (by kernel_rfl) (fun _ _ _ h => h) (Or.inl ⟨by rfl, ?_⟩) (by assumption) ?_
          rotate_left
          · (intro w' hSw; clear hSw; go_simp; try (with_reducible rfl))
          (try simp only [Act.put, List.setIfInBounds_toArray, List.set_cons_zero, List.set_cons_succ])
          refine wpAnyH_take (i := 10) (oi := ⟨some 42, _, _, _, _, _⟩) (v := ?_) rfl (by kernel_rfl) (by kernel_rfl) (by kernel_rfl) (fun _ _ _ h => h) (Or.inl ⟨by rfl, ?_⟩) (by assumption) ?_
          rotate_left
          · (intro w' hSw; clear hSw; go_simp; try (with_reducible rfl))
          (try simp only [Act.put, List.setIfInBounds_toArray, List.set_cons_zero, List.set_cons_succ])
          refine wpAnyH_ready (rs := [12]) (by kernel_rfl) (by simp) ?_
          refine AllReadyH.cons (o := ⟨none, _, _, _, _, _⟩) rfl (fun K hK => ?_) AllReadyH.nil
          refine wp_store_any 30 _ _ rfl g (lb nb) rfl rfl 30 (lb lz) hA (by kernel_rfl) rfl (lb_one _) (fun W' u => ?_)
          refine hK.out _ _ (hHeld.trans (u.bel _ hgN)) (fun hHeld => ?_)
          clear hK K
          (try simp only [Act.put])
          refine wpAnyH_take (i := 13) (oi := ⟨some 12, _, _, _, _, _⟩) (v := ?_) rfl (by kernel_rfl) (by kernel_rfl) (by kernel_rfl) (fun _ _ _ h => h) (Or.inl ⟨by rfl, ?_⟩) (by assumption) ?_
          rotate_left
          · (intro w' hSw; clear hSw; go_simp; try (with_reducible rfl))
          (try simp only [Act.put, List.setIfInBounds_toArray, List.set_cons_zero, List.set_cons_succ])
          refine wpAnyH_done (by kernel_rfl) ?_ _
          refine NoPanic.normal ?_
          have XB1 := XBr.keep hHeld XBr.lt
          have XL1 := XLb.keep hHeld XLb.lt
          have XP1 := XPr.keep hHeld XPr.lt
          have XG1 := u.box
          have bel1 := Lib.hid (b_cl bel (Nat.le_refl _) hHeld)
          go_wp2_with (first
            | go_skip
            | refine wpList_load_box (by rfl) 30 _ rfl (g) rfl 30 (lb nb) _ XG1 Try.underlying30 rfl (by kernel_rfl) ?_
            | (refine wpList_store_box rfl 30 _ _ rfl (w.heap.size + 1) (lb nb) rfl rfl 30 (lb b) XL1 (by kernel_rfl) rfl (lb_one _) (fun w5 u5 => ?_); have XL5 := u5.box; have XP5 := u5.bx XP1 (by omega); have XB5 := u5.bx XB1 (by omega)))
          go_roundw
          case rel => exact ⟨k + 1, nb, by omega, by go_num, HGb, HVn, XL5, Lib.hid ⟨bel1.out.trans (u5.bel _ (by omega)), XP5, XB5⟩⟩
          case measure => simp [intOf]; omega
      · rw [stepV25_no g] at CS
        have HVn : Hid ((lz, false) = V) := Lib.hid (by have := HVb.out; rw [HD.out, playL_no g] at this; exact this)
        obtain ⟨v1, v2⟩ := V
        clear g
        go_upto_region 6 with fail
        (try go_frame)
        refine wp_region_noPanic ?_
        refine wp_region_held_drew (S := fun w' => Below wr.heap.size wr w') (by kernel_rfl) ?_ (fun hHeld => ?_)
        · exact b_dr (Below.refl _ _)
        refine wpAnyH_take (i := 0) (oi := ⟨some 33, _, _, _, _, _⟩) (v := .agg (bk x)) rfl (by kernel_rfl) (by kernel_rfl) (by kernel_rfl) (fun _ _ _ h => h) (Or.inl ⟨by rfl, fun w' hSw => exec_load_box (w.heap.size) 23 (bk x) _ w' rfl rfl (XBr.keep hSw XBr.lt) Try.underlying23 rfl (by kernel_rfl)⟩) (by assumption) ?_
        (try simp only [Act.put, List.setIfInBounds_toArray, List.set_cons_zero, List.set_cons_succ])
        refine wpAnyH_take (i := 1) (oi := ⟨some 34, _, _, _, _, _⟩) (v := ?_) rfl (by kernel_rfl) (by kernel_rfl) (by kernel_rfl) (fun _ _ _ h => h) (Or.inl ⟨by rfl, ?_⟩) (by assumption) ?_
        rotate_left
        · (intro w' hSw; clear hSw; go_simp; try (with_reducible rfl))
        (try simp only [Act.put, List.setIfInBounds_toArray, List.set_cons_zero, List.set_cons_succ])
        refine wpAnyH_take (i := 2) (oi := ⟨some 35, _, _, _, _, _⟩) (v := .agg (lb b)) rfl (by kernel_rfl) (by kernel_rfl) (by kernel_rfl) (fun _ _ _ h => h) (Or.inl ⟨by rfl, fun w' hSw => exec_load_box (w.heap.size + 1) 30 (lb b) _ w' rfl rfl (XLb.keep hSw XLb.lt) Try.underlying30 rfl (by kernel_rfl)⟩) (by assumption) ?_
        (try simp only [Act.put, List.setIfInBounds_toArray, List.set_cons_zero, List.set_cons_succ])
        refine wpAnyH_take (i := 3) (oi := ⟨some 36, _, _, _, _, _⟩) (v := ?_) rfl (by kernel_rfl) (by kernel_rfl) (by kernel_rfl) (fun _ _ _ h => h) (Or.inl ⟨by rfl, ?_⟩) (by assumption) ?_
        rotate_left
        · (intro w' hSw; clear hSw; go_simp; try (with_reducible rfl))
        (try simp only [Act.put, List.setIfInBounds_toArray, List.set_cons_zero, List.set_cons_succ])
        refine wpAnyH_take (i := 4) (oi := ⟨some 37, _, _, _, _, _⟩) (v := ?_) rfl (by kernel_rfl) (by kernel_rfl) (by kernel_rfl) (fun _ _ _ h => h) (Or.inl ⟨by rfl, ?_⟩) (by assumption) ?_
        rotate_left
        · (intro w' hSw; clear hSw; go_simp; try (with_reducible rfl))
        (try simp only [Act.put, List.setIfInBounds_toArray, List.set_cons_zero, List.set_cons_succ])
        refine wpAnyH_take (i := 5) (oi := ⟨some 38, _, _, _, _, _⟩) (v := ?_) rfl (by kernel_rfl) (by kernel_rfl) (by kernel_rfl) (fun _ _ _ h => h) (Or.inl ⟨by rfl, ?_⟩) (by assumption) ?_
        rotate_left
        · (intro w' hSw; clear hSw; go_simp; try (with_reducible rfl))
        (try simp only [Act.put, List.setIfInBounds_toArray, List.set_cons_zero, List.set_cons_succ])
        refine wpAnyH_take (i := 6) (oi := ⟨some 39, _, _, _, _, _⟩) (v := ?_) rfl (by kernel_rfl) (by kernel_rfl) (by kernel_rfl) (fun _ _ _ h => h) (Or.inl ⟨by rfl, ?_⟩) (by assumption) ?_
        rotate_left
        · (intro w' hSw; have q : w'.cell? ⟨b2, o2 + k, none⟩ = some (.int .i64 d) := (hSw.cell (p := ⟨b2, _, none⟩) hb2).trans c2'; clear hSw; go_simp; try (with_reducible rfl))
        (try simp only [Act.put, List.setIfInBounds_toArray, List.set_cons_zero, List.set_cons_succ])
        refine wpAnyH_ready (rs := [7, 11]) (by kernel_rfl) (by simp) ?_
        refine AllReadyH.cons (o := ⟨some 40, _, _, _, _, _⟩) rfl (fun K hK => ?_) (AllReadyH.cons (o := ⟨some 11, _, _, _, _, _⟩) rfl (fun K hK => ?_) AllReadyH.nil)
        ·
          go_simp
          (go_at_call 11; (with_reducible refine (CS _ (HKr.out.below hHeld)).mono ?_); rintro e w3 ⟨rfl, hb3⟩)
          go_wp2_with fail
          refine hK.out _ _ (b_cl hHeld (Nat.le_refl _) (by assumption)) (fun hHeld => ?_)
          clear hK K
          (try simp only [Act.put, List.setIfInBounds_toArray, List.set_cons_zero, List.set_cons_succ])
          refine wpAnyH_take (i := 8) (oi := ⟨some 32, _, _, _, _, _⟩) (v := ?_) rfl (by kernel_rfl) (by kernel_rfl) (by kernel_rfl) (fun _ _ _ h => h) (Or.inl ⟨by rfl, ?_⟩) (by assumption) ?_
          rotate_left
          · (intro w' hSw; clear hSw; go_simp; try (with_reducible rfl))
          (try simp only [Act.put, List.setIfInBounds_toArray, List.set_cons_zero, List.set_cons_succ])
          refine wpAnyH_take (i := 9) (oi := ⟨some 41, _, _, _, _, _⟩) (v := ?_) rfl (by kernel_rfl) (by kernel_rfl) (by kernel_rfl) (fun _ _ _ h => h) (Or.inl ⟨by rfl, ?_⟩) (by assumption) ?_
          rotate_left
          · (intro w' hSw; clear hSw; go_simp; try (with_reducible rfl))
          (try simp only [Act.put, List.setIfInBounds_toArray, List.set_cons_zero, List.set_cons_succ])
          refine wpAnyH_take (i := 10) (oi := ⟨some 42, _, _, _, _, _⟩) (v := ?_) rfl (by kernel_rfl) (by kernel_rfl) (by kernel_rfl) (fun _ _ _ h => h) (Or.inl ⟨by rfl, ?_⟩) (by assumption) ?_
          rotate_left
          · (intro w' hSw; clear hSw; go_simp; try (with_reducible rfl))
          (try simp only [Act.put, List.setIfInBounds_toArray, List.set_cons_zero, List.set_cons_succ])
          refine wpAnyH_ready (rs := [11]) (by kernel_rfl) (by simp) ?_
          refine AllReadyH.cons (o := ⟨some 11, _, _, _, _, _⟩) rfl (fun K hK => ?_) AllReadyH.nil
          refine wp_alloc_any 30 (lb lz) (by kernel_rfl) (fun g W' hg hA hbA => ?_)
          have hgN := Nat.le_trans hHeld.size hg
          refine hK.out _ _ (b_cl hHeld (Nat.le_refl _) hbA) (fun hHeld => ?_)
          clear hK K hbA hg
          (try simp only [Act.put, List.setIfInBounds_toArray, List.set_cons_zero, List.set_cons_succ])
          refine wpAnyH_ready (rs := [12]) (by kernel_rfl) (by simp) ?_
          refine AllReadyH.cons (o := ⟨none, _, _, _, _, _⟩) rfl (fun K hK => ?_) AllReadyH.nil
          refine wp_store_any 30 _ _ rfl g (lb lz) rfl rfl 30 (lb lz) hA (by kernel_rfl) rfl (lb_one _) (fun W' u => ?_)
          refine hK.out _ _ (hHeld.trans (u.bel _ hgN)) (fun hHeld => ?_)
          clear hK K
          (try simp only [Act.put])
          refine wpAnyH_take (i := 13) (oi := ⟨some 12, _, _, _, _, _⟩) (v := ?_) rfl (by kernel_rfl) (by kernel_rfl) (by kernel_rfl) (fun _ _ _ h => h) (Or.inl ⟨by rfl, ?_⟩) (by assumption) ?_
          rotate_left
          · (intro w' hSw; clear hSw; go_simp; try (with_reducible rfl))
          (try simp only [Act.put, List.setIfInBounds_toArray, List.set_cons_zero, List.set_cons_succ])
          refine wpAnyH_done (by kernel_rfl) ?_ _
          refine NoPanic.normal ?_
          have XB1 := XBr.keep hHeld XBr.lt
          have XL1 := XLb.keep hHeld XLb.lt
          have XP1 := XPr.keep hHeld XPr.lt
          have XG1 := u.box
          have bel1 := Lib.hid (b_cl bel (Nat.le_refl _) hHeld)
          go_wp2_with (first
            | go_skip
            | refine wpList_build_as rfl 30 _ rfl (lb lz) (by kernel_rfl) ?_
            | (refine wpList_store_box rfl 30 _ _ rfl (w.heap.size + 1 + 1) (lb lz) rfl rfl 30 (lb lz) (XP1) (by kernel_rfl) rfl (lb_one _) (fun w9 u9 => ?_); have XP9 := u9.box; have HB9 := Lib.hid (bel1.out.trans (u9.bel _ (by omega)))))
          refine bodyPost_ret (v := .tuple #[.agg (lb lz), .bool false]) (results_box2 Try.results16 _ _ (w.heap.size + 1 + 1) 30 (lb lz) _ _ rfl XP9 rfl Try.underlying30 rfl (by kernel_rfl)) rfl ⟨?_, HB9.out⟩
          have e := HVn.out
          injection e with e1 e2
          rw [← e1, ← e2]
        ·
          refine wp_alloc_any 30 (lb lz) (by kernel_rfl) (fun g W' hg hA hbA => ?_)
          have hgN := Nat.le_trans hHeld.size hg
          refine hK.out _ _ (b_cl hHeld (Nat.le_refl _) hbA) (fun hHeld => ?_)
          clear hK K hbA hg
          (try simp only [Act.put, List.setIfInBounds_toArray, List.set_cons_zero, List.set_cons_succ])
          refine wpAnyH_ready (rs := [7]) (by kernel_rfl) (by simp) ?_
          refine AllReadyH.cons (o := ⟨some 40, _, _, _, _, _⟩) rfl (fun K hK => ?_) AllReadyH.nil
          go_simp
          (go_at_call 11; (with_reducible refine (CS _ (HKr.out.below hHeld)).mono ?_); rintro e w3 ⟨rfl, hb3⟩)
          go_wp2_with fail
          refine hK.out _ _ (b_cl hHeld (Nat.le_refl _) (by assumption)) (fun hHeld => ?_)
          replace hA := hA.below (by assumption)
          clear hK K
          (try simp only [Act.put, List.setIfInBounds_toArray, List.set_cons_zero, List.set_cons_succ])
          refine wpAnyH_take (i := 8) (oi := ⟨some 32, _, _, _, _, _⟩) (v := ?_) rfl (by kernel_rfl) (by kernel_rfl) (by kernel_rfl) (fun _ _ _ h => h) (Or.inl ⟨by rfl, ?_⟩) (by assumption) ?_
          rotate_left
          · (intro w' hSw; clear hSw; go_simp; try (with_reducible rfl))
          (try simp only [Act.put, List.setIfInBounds_toArray, List.set_cons_zero, List.set_cons_succ])
          refine wpAnyH_take (i := 9) (oi := ⟨some 41, _, _, _, _, _⟩) (v := ?_) rfl (by kernel_rfl) (by kernel_rfl) (by kernel_rfl) (fun _ _ _ h => h) (Or.inl ⟨by rfl, ?_⟩) (by assumption) ?_
          rotate_left
          · (intro w' hSw; clear hSw; go_simp; try (with_reducible rfl))
          (try simp only [Act.put, List.setIfInBounds_toArray, List.set_cons_zero, List.set_cons_succ])
          refine wpAnyH_take (i := 10) (oi := ⟨some 42, _, _, _, _, _⟩) (v := ?_) rfl (by kernel_rfl) (by kernel_rfl) (by kernel_rfl) (fun _ _ _ h => h) (Or.inl ⟨by rfl, ?_⟩) (by assumption) ?_
          rotate_left
          · (intro w' hSw; clear hSw; go_simp; try (with_reducible rfl))
          (try simp only [Act.put, List.setIfInBounds_toArray, List.set_cons_zero, List.set_cons_succ])
          refine wpAnyH_ready (rs := [12]) (by kernel_rfl) (by simp) ?_
          refine AllReadyH.cons (o := ⟨none, _, _, _, _, _⟩) rfl (fun K hK => ?_) AllReadyH.nil
          refine wp_store_any 30 _ _ rfl g (lb lz) rfl rfl 30 (lb lz) hA (by kernel_rfl) rfl (lb_one _) (fun W' u => ?_)
          refine hK.out _ _ (hHeld.trans (u.bel _ hgN)) (fun hHeld => ?_)
          clear hK K
          (try simp only [Act.put])
          refine wpAnyH_take (i := 13) (oi := ⟨some 12, _, _, _, _, _⟩) (v := ?_) rfl (by kernel_rfl) (by kernel_rfl) (by kernel_rfl) (fun _ _ _ h => h) (Or.inl ⟨by rfl, ?_⟩) (by assumption) ?_
          rotate_left
          · (intro w' hSw; clear hSw; go_simp; try (with_reducible rfl))
          (try simp only [Act.put, List.setIfInBounds_toArray, List.set_cons_zero, List.set_cons_succ])
          refine wpAnyH_done (by kernel_rfl) ?_ _
          refine NoPanic.normal ?_
          have XB1 := XBr.keep hHeld XBr.lt
          have XL1 := XLb.keep hHeld XLb.lt
          have XP1 := XPr.keep hHeld XPr.lt
          have XG1 := u.box
          have bel1 := Lib.hid (b_cl bel (Nat.le_refl _) hHeld)
          go_wp2_with (first
            | go_skip
            | refine wpList_build_as rfl 30 _ rfl (lb lz) (by kernel_rfl) ?_
            | (refine wpList_store_box rfl 30 _ _ rfl (w.heap.size + 1 + 1) (lb lz) rfl rfl 30 (lb lz) (XP1) (by kernel_rfl) rfl (lb_one _) (fun w9 u9 => ?_); have XP9 := u9.box; have HB9 := Lib.hid (bel1.out.trans (u9.bel _ (by omega)))))
          refine bodyPost_ret (v := .tuple #[.agg (lb lz), .bool false]) (results_box2 Try.results16 _ _ (w.heap.size + 1 + 1) 30 (lb lz) _ _ rfl XP9 rfl Try.underlying30 rfl (by kernel_rfl)) rfl ⟨?_, HB9.out⟩
          have e := HVn.out
          injection e with e1 e2
          rw [← e1, ← e2]
    · have gk : ¬ (k : Int) < (n2 : Int) := by omega
      have HVn : Hid ((b, true) = V) := Lib.hid (by have := HVb.out; rw [List.drop_of_length_le (by rw [HN2.out]; omega)] at this; exact this)
      obtain ⟨v1, v2⟩ := V
      clear rn
      go_wp2_with (first
        | go_skip
        | refine wpList_load_box (by rfl) 30 _ rfl (w.heap.size + 1) rfl 30 (lb b) _ XLb Try.underlying30 rfl (by kernel_rfl) ?_
        | (refine wpList_store_box rfl 30 _ _ rfl (w.heap.size + 1 + 1) (lb b) rfl rfl 30 (lb lz) (XPr) (by kernel_rfl) rfl (lb_one _) (fun w9 u9 => ?_); have XP9 := u9.box; have HB9 := Lib.hid (bel.trans (u9.bel _ (by omega)))))
      refine bodyPost_ret (v := .tuple #[.agg (lb b), .bool true]) (results_box2 Try.results16 _ _ (w.heap.size + 1 + 1) 30 (lb b) _ _ rfl XP9 rfl Try.underlying30 rfl (by kernel_rfl)) rfl ⟨?_, HB9.out⟩
      have e := HVn.out
      injection e with e1 e2
      rw [← e1, ← e2]

end Go.Proofs.Ytolbihfnogbjaaa
