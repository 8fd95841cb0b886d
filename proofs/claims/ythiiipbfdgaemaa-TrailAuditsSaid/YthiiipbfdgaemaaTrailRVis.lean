/- What the document's own Visits of layer 20 returns, where nothing is wrong. Conditions: the tasks and records can be read and may be, and the spot is right. -/
import Derived.Test.YthiiipbfdgaemaaRows
import Derived.Test.YthiiipbfdgaemaaZ1
import Derived.Test.YthiiipbfdgaemaaZ2
import Derived.Test.YthiiipbfdgaemaaErrandPast
import Derived.Test.YthiiipbfdgaemaaErrandFits
import Derived.Test.YthiiipbfdgaemaaErrandSpot
import Derived.Test.YthiiipbfdgaemaaErrandLeftC
import Derived.Test.YthiiipbfdgaemaaErrandOverC
import Derived.Test.YthiiipbfdgaemaaZ4
import Derived.Test.YthiiipbfdgaemaaRecSmall
import Derived.Test.YthiiipbfdgaemaaErrandRStep
import Derived.Test.YthiiipbfdgaemaaTrailLeaf
import Derived.Test.YthiiipbfdgaemaaTrailVis
import Derived.WalkKit
import Derived.WalkSpells
import Derived.WalkSmall
import Derived.Below
import Derived.Lib.Hide
import Derived.Outline
import Derived.Deep.DeepCutAuto
import Derived.OwnWalk
import Derived.BigQuiet
import Derived.Deep.QuietTactic
import Derived.Deep.LoopGhost
import Derived.WalkMore
import Derived.OrdersHeld
import Derived.Deep.RegionHeld3
import Derived.OneCell
import Derived.Laws.AppendOwn
import Derived.Maps.RangeWalk
namespace Go.Proofs.Ythiiipbfdgaemaa
open Go.RowKit

theorem bool4_one (a b c d : Bool) : (#[.bool a, .bool b, .bool c, .bool d] : Array Value).all (·.oneCell') = true := by simp [Value.oneCell']
theorem OwnN.chg {base g : Nat} {t : TypeId} {cs : Array Value} {w w' : World} {v : Value} {l : List Int} (h : OwnN base w v l) (u : Chg w g t cs w') (hg : g < base) : OwnN base w' v l :=
  row_block h fun k hk => u.other k (by have := (World.ownsRow.lt h k hk).1; omega) (World.ownsRow.lt h k hk).2

theorem visS_more {l : List Tk} {ks : List Int} {k : Nat} {x m : Int} {st : Pt × Int × List Vt} (hx : ks[k]? = some x) : visS l (ks.take (k + 1)) m st = visT l x (m + k) (visS l (ks.take k) m st) := by
  have hk := (List.getElem?_eq_some_iff.1 hx).1
  rw [List.take_add_one, hx, Option.toList_some, visS_append, List.length_take, Nat.min_eq_left (by omega)]
  rfl

theorem visT_no {l : List Tk} {k m : Int} {s : Pt} {b : Int} {o : List Vt} (h : ¬ (k = 2 ∧ CanW l s)) : visT l k m (s, b, o) = (stepT l s k, b, o) := by unfold visT; rw [if_neg h]
theorem visT_go {l : List Tk} {k m : Int} {s : Pt} {b q : Int} {o : List Vt} (h : k = 2 ∧ CanW l s) (hq : (if s.2.2 = 0 then m else b) = q) (hn : ¬ s.1 < (stepT l s k).1) : visT l k m (s, b, o) = (stepT l s k, q, o) := by
  unfold visT
  simp only
  rw [if_pos h, hq, if_neg hn, if_neg (fun c => hn c.1)]
theorem visT_end {l : List Tk} {k m : Int} {s : Pt} {b q : Int} {o : List Vt} (h : k = 2 ∧ CanW l s) (hq : (if s.2.2 = 0 then m else b) = q) (hn : s.1 < (stepT l s k).1) (h0 : 0 ≤ q) : visT l k m (s, b, o) = (stepT l s k, -1, o ++ [(s.1, q, m + 1)]) := by
  unfold visT
  simp only
  rw [if_pos h, hq, if_pos hn, if_pos ⟨hn, h0⟩]
theorem visT_none {l : List Tk} {k m : Int} {s : Pt} {b q : Int} {o : List Vt} (h : k = 2 ∧ CanW l s) (hq : (if s.2.2 = 0 then m else b) = q) (hn : s.1 < (stepT l s k).1) (h0 : ¬ 0 ≤ q) : visT l k m (s, b, o) = (stepT l s k, -1, o) := by
  unfold visT
  simp only
  rw [if_pos h, hq, if_pos hn, if_neg (fun c => h0 c.2)]

set_option maxRecDepth 20000 in
set_option maxHeartbeats 2000000 in
theorem rvisits20_any (A : Option Addr) (n c : Nat) (l : List Tk) (hn : l.length = n) (i x y : Int) (A' : Option Addr) (n' c' : Nat) (r : List Rc) (hn' : r.length = n') (w : World) (h : RdK w A l) (hf : Few l) (hr : RdR w A' r) (hl : n' ≤ 4611686018427387904)
    (ck : checkT l = 0) (fit : Fits l (i, x, y)) (tl : Tl (beg r) r) {M : Nat} (hM : (visS l (kindsV r) (beg r) ((i, x, y), -1, [])).2.2.length = M) :
    Calls Try.prog 18 #[.slice A n c, .agg #[.int .i64 i, .int .i64 x, .int .i64 y], .slice A' n' c'] w fun e w' => ∃ A2 c2, e = .returned (.slice A2 M c2) ∧ RdF w' A2 (visS l (kindsV r) (beg r) ((i, x, y), -1, [])).2.2 ∧ Below w.heap.size w w' := by
  obtain ⟨ok, hl2⟩ := checkt_zero ck
  have CK := fun W (h : RdR W A' r) => refkinds_any A' c' r W h tl (by omega)
  rw [hn'] at CK
  have CB := fun W (h : RdR W A' r) => refbeg_any A' c' n' r W (Lib.hid hn') h hl
  have tb := tl.bd
  obtain ⟨N1, hN1⟩ : ∃ N1, (kindsV r).length = N1 := ⟨_, rfl⟩
  rw [hN1] at tb
  have HKL := Lib.hid hN1
  have HN := Lib.hid hn
  have HF := Lib.hid fit
  have OK := Lib.hid ok
  have HK := Lib.hid (RdKn.of h)
  have HR := Lib.hid hr
  have HMM := Lib.hid hM
  have HFW := Lib.hid hf
  obtain ⟨m0, hm0⟩ : ∃ m0, beg r = m0 := ⟨_, rfl⟩
  have HM0 := Lib.hid hm0
  rw [hm0] at CB tb
  obtain ⟨tb0, tb1⟩ := tb
  rw [hn] at hl2
  have HS0 := Lib.hid (show Bx (w.alloc (.cells #[.int .i64 i, .int .i64 x, .int .i64 y] 24)) w.heap.size 24 #[.int .i64 i, .int .i64 x, .int .i64 y] from Bx.new (W := w) _ _ rfl)
  have HB0 := Lib.hid (show Below w.heap.size w (w.alloc (.cells #[.int .i64 i, .int .i64 x, .int .i64 y] 24)) by (repeat (first | exact Below.refl _ _ | (refine b_st ?_ (by first | (simp; done) | (simp; omega))) | (refine b_al ?_ (Nat.le_refl _) _) | refine b_dn ?_ | refine b_dr ?_ | (refine b_cl ?_ (Nat.le_refl _) (by assumption)))))
  have lw : (w.alloc (.cells #[.int .i64 i, .int .i64 x, .int .i64 y] 24)).heap.size = w.heap.size + 1 := by simp
  obtain ⟨i0, hi, hz0, hz1, hz2⟩ := info_parts info_rvis
  clear h hr hn hn' hf ck fit tl ok hM hN1 hm0
  go_enter Try.func18, Try.ntmps18
  go_upto_region 1 with fail
  generalize (w.alloc (.cells #[.int .i64 i, .int .i64 x, .int .i64 y] 24)) = W0 at *
  go_upto_region 4 with (first | (go_at_call 29; refine (CK _ (HR.out.below HB0.out)).mono ?_; rintro e w1 ⟨vk, rfl, hown, hb1⟩; obtain ⟨A1, c1, rfl, _⟩ := hown.read; have hown2 := hown; rw [HKL.out]; have HOK := Lib.hid hown; have HB1 := Lib.hid (b_cl HB0.out (Nat.le_refl _) hb1); have HS1 := Lib.hid (HS0.out.below hb1); have HR1 := Lib.hid ((HR.out.below HB0.out).below hb1); clear hown hown2 hb1) | (go_at_call 30; refine (CB _ HR1.out).mono ?_; rintro e w1' ⟨rfl, rfl⟩))
  rw [lw] at HOK
  have ls1 := HS1.out.lt
  have HC1 := Lib.hid (Chg.refl HS1.out)
  go_wp2_with fail
  go_loopg [9, 10, 11] N1 (fun g s9 s10 s11 wr => ∃ (k m : Nat) (A2 : Option Addr) (c2 : Nat) (a u v b : Int) (o : List Vt), k + g = N1 ∧ s11 = .int .i64 (k : Int) ∧ s10 = .int .i64 b ∧ s9 = .slice A2 m c2 ∧ Hid (visS l ((kindsV r).take (k)) (beg r) ((i, x, y), -1, []) = ((a, u, v), b, o)) ∧ Hid (o.length = m) ∧ Hid (OwnT 48 (w1.heap.size) wr (.slice A2 m c2) o) ∧ Chg w1 (w.heap.size) 24 #[.int .i64 a, .int .i64 u, .int .i64 v] wr)
  case atStart => exact ⟨0, 0, none, 0, i, x, y, -1, [], by omega, rfl, rfl, rfl, Lib.hid rfl, Lib.hid rfl, Lib.hid (OwnT.nil _ _ _), HC1.out⟩
  case round =>
    clear HC1
    obtain ⟨k, m, A2, c2, a, u, v, b, o, hkg, rfl, rfl, rfl, HV, HOL, HO, HC⟩ := hrel
    obtain ⟨w3, rfl⟩ : ∃ w3 : World, w3 = wr := ⟨_, rfl⟩
    have HCH0 := Lib.hid HC
    clear HC
    by_cases hlt : k < N1
    · have HKd := Lib.hid (HOK.out.chg HCH0.out (Nat.lt_succ_self _))
      obtain ⟨A4, c4, hA4, hrd⟩ := HKd.out.read
      injection hA4 with hA5 hA6 hA7
      subst hA5 hA7
      obtain ⟨bb, off, q, rfl, hbb, hcell, hq⟩ := hrd.at_ (k := k) (by rw [HKL.out]; exact hlt)
      clear hrd hA6
      have fs := runS_fits OK.out ((kindsV r).take k) (beg r) ((i, x, y), none4) HF.out
      have es := vis_spot l ((kindsV r).take k) (beg r) (i, x, y) (-1) [] none4
      rw [HV.out] at es
      rw [← es] at fs
      obtain ⟨fa, fb, fx0, fx1, fy0, fy1⟩ := fits_cells OK.out fs
      obtain ⟨at_, hat⟩ : ∃ at_ : Int, m0 + (k : Int) = at_ := ⟨_, rfl⟩
      obtain ⟨⟨a2, u2, v2⟩, h2⟩ : ∃ s2 : Pt, stepT l (a, u, v) q = s2 := ⟨_, rfl⟩
      obtain ⟨q0, hq0⟩ : ∃ q0, b0 l (a, u, v) q = q0 := ⟨_, rfl⟩
      obtain ⟨q1, hq1⟩ : ∃ q1, b1 l (a, u, v) q = q1 := ⟨_, rfl⟩
      obtain ⟨q2, hq2⟩ : ∃ q2, b2 l (a, u, v) at_ q = q2 := ⟨_, rfl⟩
      obtain ⟨q3, hq3⟩ : ∃ q3, b3 (a, u, v) q = q3 := ⟨_, rfl⟩
      have CS := fun W (h : RdK W A l) => refstep19_any A n c l HN.out a u v at_ q W h HFW.out hl2 OK.out fs
      rw [h2, hq0, hq1, hq2, hq3] at CS
      unfold sp3 at CS
      simp only at CS
      have HNX0 := Lib.hid (show visS l ((kindsV r).take (k + 1)) (beg r) ((i, x, y), -1, []) = visT l q at_ ((a, u, v), b, o) by rw [visS_more hq.out, HV.out, HM0.out, hat])
      have HST := Lib.hid h2
      have HQ1 := Lib.hid hq1
      have HFS := Lib.hid fs
      have HK4 := Lib.hid ((HK.out.below HB1.out).below (HCH0.out.bel _ (Nat.le_refl _) (Nat.le_of_lt ls1))).rd
      have HBS0 := Lib.hid HCH0.out.box
      have gat : IntKind.i64.wrap at_ = at_ := IntWalk.i64_in _ ⟨by omega, by omega⟩
      have gk : (k : Int) < (N1 : Int) := by omega
      have at0 : 0 ≤ at_ := by omega
      have at1 : at_ < 40320 := by omega
      have hol := vis_len l ((kindsV r).take k) (beg r) (i, x, y) (-1) []
      rw [HV.out, List.length_take, HKL.out] at hol
      simp only [List.length_nil] at hol
      rw [HOL.out] at hol
      clear hq es h2 hq0 hq1 hq2 hq3 fs fa fb fx0 fx1 fy0 fy1
      go_upto_region 8 with fail
      (try go_frame)
      go_cut [12, 13] (fun u12 u13 wx => ∃ RA RB : Nat, u12 = .pointer (some ⟨RA, 0, none⟩) ∧ u13 = .pointer (some ⟨RB, 0, none⟩) ∧ Bx wx RA 24 #[.int .i64 a2, .int .i64 u2, .int .i64 v2] ∧ Bx wx RB 72 #[.bool q0, .bool q1, .bool q2, .bool q3] ∧ w3.heap.size ≤ RA ∧ w3.heap.size ≤ RB ∧ Below w3.heap.size w3 wx)
      case first =>
        clear HO HV HOL HNX0
        refine wp_region_noPanic ?_
        refine wp_region_held_drew (S := fun w' => Below w3.heap.size w3 w') (by kernel_rfl) ?_ (fun hHeld => ?_)
        · exact b_dr (Below.refl _ _)
        refine wpAnyH_take (i := 0) (oi := ⟨some 25, _, _, _, _, _⟩) (v := ?_) rfl (by kernel_rfl) (by kernel_rfl) (by kernel_rfl) (fun _ _ _ h => h) (Or.inl ⟨by rfl, ?_⟩) (by assumption) ?_
        rotate_left
        · (intro w' hSw; clear hSw; go_simp; try (with_reducible rfl))
        (try simp only [Act.put, List.setIfInBounds_toArray, List.set_cons_zero, List.set_cons_succ])
        refine wpAnyH_take (i := 1) (oi := ⟨some 26, _, _, _, _, _⟩) (v := .agg #[.int .i64 a, .int .i64 u, .int .i64 v]) rfl (by kernel_rfl) (by kernel_rfl) (by kernel_rfl) (fun _ _ _ h => h) (Or.inl ⟨by rfl, fun w' hSw => exec_load_box (w.heap.size) 24 #[.int .i64 a, .int .i64 u, .int .i64 v] _ w' rfl rfl (HBS0.out.below hSw) Try.underlying24 rfl size_spot⟩) (by assumption) ?_
        (try simp only [Act.put, List.setIfInBounds_toArray, List.set_cons_zero, List.set_cons_succ])
        refine wpAnyH_take (i := 2) (oi := ⟨some 27, _, _, _, _, _⟩) (v := ?_) rfl (by kernel_rfl) (by kernel_rfl) (by kernel_rfl) (fun _ _ _ h => h) (Or.inl ⟨by rfl, ?_⟩) (by assumption) ?_
        rotate_left
        · (intro w' hSw; clear hSw; go_simp; try (with_reducible rfl))
        (try simp only [Act.put, List.setIfInBounds_toArray, List.set_cons_zero, List.set_cons_succ])
        refine wpAnyH_take (i := 3) (oi := ⟨some 28, _, _, _, _, _⟩) (v := ?_) rfl (by kernel_rfl) (by kernel_rfl) (by kernel_rfl) (fun _ _ _ h => h) (Or.inl ⟨by rfl, ?_⟩) (by assumption) ?_
        rotate_left
        · (intro w' hSw; clear hSw; go_simp; try (with_reducible rfl))
        (try simp only [Act.put, List.setIfInBounds_toArray, List.set_cons_zero, List.set_cons_succ])
        refine wpAnyH_take (i := 4) (oi := ⟨some 29, _, _, _, _, _⟩) (v := ?_) rfl (by kernel_rfl) (by kernel_rfl) (by kernel_rfl) (fun _ _ _ h => h) (Or.inl ⟨by rfl, ?_⟩) (by assumption) ?_
        rotate_left
        · (intro w' hSw; clear hSw; go_simp; try (with_reducible rfl))
        (try simp only [Act.put, List.setIfInBounds_toArray, List.set_cons_zero, List.set_cons_succ])
        refine wpAnyH_take (i := 5) (oi := ⟨some 30, _, _, _, _, _⟩) (v := ?_) rfl (by kernel_rfl) (by kernel_rfl) (by kernel_rfl) (fun _ _ _ h => h) (Or.inl ⟨by rfl, ?_⟩) (by assumption) ?_
        rotate_left
        · (intro w' hSw; clear hSw; go_simp; try (with_reducible rfl))
        (try simp only [Act.put, List.setIfInBounds_toArray, List.set_cons_zero, List.set_cons_succ])
        refine wpAnyH_take (i := 6) (oi := ⟨some 31, _, _, _, _, _⟩) (v := ?_) rfl (by kernel_rfl) (by kernel_rfl) (by kernel_rfl) (fun _ _ _ h => h) (Or.inl ⟨by rfl, ?_⟩) (by assumption) ?_
        rotate_left
        · (intro w' hSw; clear hSw; go_simp; try (with_reducible rfl))
        (try simp only [Act.put, List.setIfInBounds_toArray, List.set_cons_zero, List.set_cons_succ])
        refine wpAnyH_take (i := 7) (oi := ⟨some 32, _, _, _, _, _⟩) (v := ?_) rfl (by kernel_rfl) (by kernel_rfl) (by kernel_rfl) (fun _ _ _ h => h) (Or.inl ⟨by rfl, ?_⟩) (by assumption) ?_
        rotate_left
        · (intro w' hSw; clear hSw; go_simp; try (with_reducible rfl))
        (try simp only [Act.put, List.setIfInBounds_toArray, List.set_cons_zero, List.set_cons_succ])
        refine wpAnyH_take (i := 8) (oi := ⟨some 33, _, _, _, _, _⟩) (v := ?_) rfl (by kernel_rfl) (by kernel_rfl) (by kernel_rfl) (fun _ _ _ h => h) (Or.inl ⟨by rfl, ?_⟩) (by assumption) ?_
        rotate_left
        · (intro w' hSw; have := c_cl hcell hSw; clear hSw; go_simp; try (with_reducible rfl))
        (try simp only [Act.put, List.setIfInBounds_toArray, List.set_cons_zero, List.set_cons_succ])
        refine wpAnyH_ready (rs := [9, 13, 14]) (by kernel_rfl) (by simp) ?_
        refine AllReadyH.cons (o := ⟨some 34, _, _, _, _, _⟩) rfl (fun K hK => ?_) (AllReadyH.cons (o := ⟨some 12, _, _, _, _, _⟩) rfl (fun K hK => ?_) (AllReadyH.cons (o := ⟨some 13, _, _, _, _, _⟩) rfl (fun K hK => ?_) AllReadyH.nil))
        ·
          go_simp
          (go_at_call 31; refine (CS _ (HK4.out.below hHeld)).mono ?_; rintro e wf ⟨rfl, hbf⟩)
          go_wp2_with fail
          refine hK.out _ _ (b_cl hHeld (Nat.le_refl _) (by assumption)) (fun hHeld => ?_)
          clear hK K hbf
          (try simp only [Act.put, List.setIfInBounds_toArray, List.set_cons_zero, List.set_cons_succ])
          refine wpAnyH_take (i := 10) (oi := ⟨some 24, _, _, _, _, _⟩) (v := ?_) rfl (by kernel_rfl) (by kernel_rfl) (by kernel_rfl) (fun _ _ _ h => h) (Or.inl ⟨by rfl, ?_⟩) (by assumption) ?_
          rotate_left
          · (intro w' hSw; clear hSw; go_simp; try (with_reducible rfl))
          (try simp only [Act.put, List.setIfInBounds_toArray, List.set_cons_zero, List.set_cons_succ])
          refine wpAnyH_take (i := 11) (oi := ⟨some 35, _, _, _, _, _⟩) (v := ?_) rfl (by kernel_rfl) (by kernel_rfl) (by kernel_rfl) (fun _ _ _ h => h) (Or.inl ⟨by rfl, ?_⟩) (by assumption) ?_
          rotate_left
          · (intro w' hSw; clear hSw; go_simp; try (with_reducible rfl))
          (try simp only [Act.put, List.setIfInBounds_toArray, List.set_cons_zero, List.set_cons_succ])
          refine wpAnyH_take (i := 12) (oi := ⟨some 36, _, _, _, _, _⟩) (v := ?_) rfl (by kernel_rfl) (by kernel_rfl) (by kernel_rfl) (fun _ _ _ h => h) (Or.inl ⟨by rfl, ?_⟩) (by assumption) ?_
          rotate_left
          · (intro w' hSw; clear hSw; go_simp; try (with_reducible rfl))
          (try simp only [Act.put, List.setIfInBounds_toArray, List.set_cons_zero, List.set_cons_succ])
          refine wpAnyH_ready (rs := [13, 14]) (by kernel_rfl) (by simp) ?_
          refine AllReadyH.cons (o := ⟨some 12, _, _, _, _, _⟩) rfl (fun K hK => ?_) (AllReadyH.cons (o := ⟨some 13, _, _, _, _, _⟩) rfl (fun K hK => ?_) AllReadyH.nil)
          ·
            refine wp_alloc_any 24 #[.int .i64 0, .int .i64 0, .int .i64 0] (by kernel_rfl) (fun gA WA hg hA hbA => ?_)
            have hgNA := Nat.le_trans hHeld.size hg
            refine hK.out _ _ (b_cl hHeld (Nat.le_refl _) hbA) (fun hHeld => ?_)
            clear hK K hbA hg
            (try simp only [Act.put, List.setIfInBounds_toArray, List.set_cons_zero, List.set_cons_succ])
            refine wpAnyH_ready (rs := [14]) (by kernel_rfl) (by simp) ?_
            refine AllReadyH.cons (o := ⟨some 13, _, _, _, _, _⟩) rfl (fun K hK => ?_) AllReadyH.nil
            refine wp_alloc_any 72 #[.bool false, .bool false, .bool false, .bool false] (by kernel_rfl) (fun gB WB hg hB hbA => ?_)
            have hgNB := Nat.le_trans hHeld.size hg
            have hne := Nat.ne_of_lt (Nat.lt_of_lt_of_le (hA.lt) hg)
            replace hA := hA.below hbA
            refine hK.out _ _ (b_cl hHeld (Nat.le_refl _) hbA) (fun hHeld => ?_)
            clear hK K hbA hg
            (try simp only [Act.put, List.setIfInBounds_toArray, List.set_cons_zero, List.set_cons_succ])
            refine wpAnyH_ready (rs := [15]) (by kernel_rfl) (by simp) ?_
            refine AllReadyH.cons (o := ⟨none, _, _, _, _, _⟩) rfl (fun K hK => ?_) AllReadyH.nil
            refine wp_store_any 24 _ _ rfl gA #[.int .i64 a2, .int .i64 u2, .int .i64 v2] rfl rfl 24 #[.int .i64 0, .int .i64 0, .int .i64 0] hA (by kernel_rfl) rfl (one3 _ _ _) (fun W8 u8 => ?_)
            refine hK.out _ _ (hHeld.trans (u8.bel _ hgNA)) (fun hHeld => ?_)
            clear hK K
            (try simp only [Act.put])
            replace hB := u8.bx hB (by omega)
            refine wpAnyH_ready (rs := [16]) (by kernel_rfl) (by simp) ?_
            refine AllReadyH.cons (o := ⟨none, _, _, _, _, _⟩) rfl (fun K hK => ?_) AllReadyH.nil
            refine wp_store_any 72 _ _ rfl gB #[.bool q0, .bool q1, .bool q2, .bool q3] rfl rfl 72 #[.bool false, .bool false, .bool false, .bool false] hB (by kernel_rfl) rfl (bool4_one _ _ _ _) (fun W9 u9 => ?_)
            refine hK.out _ _ (hHeld.trans (u9.bel _ hgNB)) (fun hHeld => ?_)
            clear hK K
            (try simp only [Act.put])
            refine wpAnyH_done (by kernel_rfl) ?_ _
            refine NoPanic.normal ?_
            go_wp2_with fail
            go_meet
            exact ⟨gA, gB, rfl, rfl, u9.bx u8.box (by omega), u9.box, hgNA, hgNB, hHeld⟩
          ·
            refine wp_alloc_any 72 #[.bool false, .bool false, .bool false, .bool false] (by kernel_rfl) (fun gB WB hg hB hbA => ?_)
            have hgNB := Nat.le_trans hHeld.size hg
            refine hK.out _ _ (b_cl hHeld (Nat.le_refl _) hbA) (fun hHeld => ?_)
            clear hK K hbA hg
            (try simp only [Act.put, List.setIfInBounds_toArray, List.set_cons_zero, List.set_cons_succ])
            refine wpAnyH_ready (rs := [13]) (by kernel_rfl) (by simp) ?_
            refine AllReadyH.cons (o := ⟨some 12, _, _, _, _, _⟩) rfl (fun K hK => ?_) AllReadyH.nil
            refine wp_alloc_any 24 #[.int .i64 0, .int .i64 0, .int .i64 0] (by kernel_rfl) (fun gA WA hg hA hbA => ?_)
            have hgNA := Nat.le_trans hHeld.size hg
            have hne := Nat.ne_of_lt (Nat.lt_of_lt_of_le (hB.lt) hg)
            replace hB := hB.below hbA
            refine hK.out _ _ (b_cl hHeld (Nat.le_refl _) hbA) (fun hHeld => ?_)
            clear hK K hbA hg
            (try simp only [Act.put, List.setIfInBounds_toArray, List.set_cons_zero, List.set_cons_succ])
            refine wpAnyH_ready (rs := [15]) (by kernel_rfl) (by simp) ?_
            refine AllReadyH.cons (o := ⟨none, _, _, _, _, _⟩) rfl (fun K hK => ?_) AllReadyH.nil
            refine wp_store_any 24 _ _ rfl gA #[.int .i64 a2, .int .i64 u2, .int .i64 v2] rfl rfl 24 #[.int .i64 0, .int .i64 0, .int .i64 0] hA (by kernel_rfl) rfl (one3 _ _ _) (fun W8 u8 => ?_)
            refine hK.out _ _ (hHeld.trans (u8.bel _ hgNA)) (fun hHeld => ?_)
            clear hK K
            (try simp only [Act.put])
            replace hB := u8.bx hB (by omega)
            refine wpAnyH_ready (rs := [16]) (by kernel_rfl) (by simp) ?_
            refine AllReadyH.cons (o := ⟨none, _, _, _, _, _⟩) rfl (fun K hK => ?_) AllReadyH.nil
            refine wp_store_any 72 _ _ rfl gB #[.bool q0, .bool q1, .bool q2, .bool q3] rfl rfl 72 #[.bool false, .bool false, .bool false, .bool false] hB (by kernel_rfl) rfl (bool4_one _ _ _ _) (fun W9 u9 => ?_)
            refine hK.out _ _ (hHeld.trans (u9.bel _ hgNB)) (fun hHeld => ?_)
            clear hK K
            (try simp only [Act.put])
            refine wpAnyH_done (by kernel_rfl) ?_ _
            refine NoPanic.normal ?_
            go_wp2_with fail
            go_meet
            exact ⟨gA, gB, rfl, rfl, u9.bx u8.box (by omega), u9.box, hgNA, hgNB, hHeld⟩
        ·
          refine wp_alloc_any 24 #[.int .i64 0, .int .i64 0, .int .i64 0] (by kernel_rfl) (fun gA WA hg hA hbA => ?_)
          have hgNA := Nat.le_trans hHeld.size hg
          refine hK.out _ _ (b_cl hHeld (Nat.le_refl _) hbA) (fun hHeld => ?_)
          clear hK K hbA hg
          (try simp only [Act.put, List.setIfInBounds_toArray, List.set_cons_zero, List.set_cons_succ])
          refine wpAnyH_ready (rs := [9, 14]) (by kernel_rfl) (by simp) ?_
          refine AllReadyH.cons (o := ⟨some 34, _, _, _, _, _⟩) rfl (fun K hK => ?_) (AllReadyH.cons (o := ⟨some 13, _, _, _, _, _⟩) rfl (fun K hK => ?_) AllReadyH.nil)
          ·
            go_simp
            (go_at_call 31; refine (CS _ (HK4.out.below hHeld)).mono ?_; rintro e wf ⟨rfl, hbf⟩)
            go_wp2_with fail
            refine hK.out _ _ (b_cl hHeld (Nat.le_refl _) (by assumption)) (fun hHeld => ?_)
            replace hA := hA.below hbf
            clear hK K hbf
            (try simp only [Act.put, List.setIfInBounds_toArray, List.set_cons_zero, List.set_cons_succ])
            refine wpAnyH_take (i := 10) (oi := ⟨some 24, _, _, _, _, _⟩) (v := ?_) rfl (by kernel_rfl) (by kernel_rfl) (by kernel_rfl) (fun _ _ _ h => h) (Or.inl ⟨by rfl, ?_⟩) (by assumption) ?_
            rotate_left
            · (intro w' hSw; clear hSw; go_simp; try (with_reducible rfl))
            (try simp only [Act.put, List.setIfInBounds_toArray, List.set_cons_zero, List.set_cons_succ])
            refine wpAnyH_take (i := 11) (oi := ⟨some 35, _, _, _, _, _⟩) (v := ?_) rfl (by kernel_rfl) (by kernel_rfl) (by kernel_rfl) (fun _ _ _ h => h) (Or.inl ⟨by rfl, ?_⟩) (by assumption) ?_
            rotate_left
            · (intro w' hSw; clear hSw; go_simp; try (with_reducible rfl))
            (try simp only [Act.put, List.setIfInBounds_toArray, List.set_cons_zero, List.set_cons_succ])
            refine wpAnyH_take (i := 12) (oi := ⟨some 36, _, _, _, _, _⟩) (v := ?_) rfl (by kernel_rfl) (by kernel_rfl) (by kernel_rfl) (fun _ _ _ h => h) (Or.inl ⟨by rfl, ?_⟩) (by assumption) ?_
            rotate_left
            · (intro w' hSw; clear hSw; go_simp; try (with_reducible rfl))
            (try simp only [Act.put, List.setIfInBounds_toArray, List.set_cons_zero, List.set_cons_succ])
            refine wpAnyH_ready (rs := [14]) (by kernel_rfl) (by simp) ?_
            refine AllReadyH.cons (o := ⟨some 13, _, _, _, _, _⟩) rfl (fun K hK => ?_) AllReadyH.nil
            refine wp_alloc_any 72 #[.bool false, .bool false, .bool false, .bool false] (by kernel_rfl) (fun gB WB hg hB hbA => ?_)
            have hgNB := Nat.le_trans hHeld.size hg
            have hne := Nat.ne_of_lt (Nat.lt_of_lt_of_le (hA.lt) hg)
            replace hA := hA.below hbA
            refine hK.out _ _ (b_cl hHeld (Nat.le_refl _) hbA) (fun hHeld => ?_)
            clear hK K hbA hg
            (try simp only [Act.put, List.setIfInBounds_toArray, List.set_cons_zero, List.set_cons_succ])
            refine wpAnyH_ready (rs := [15]) (by kernel_rfl) (by simp) ?_
            refine AllReadyH.cons (o := ⟨none, _, _, _, _, _⟩) rfl (fun K hK => ?_) AllReadyH.nil
            refine wp_store_any 24 _ _ rfl gA #[.int .i64 a2, .int .i64 u2, .int .i64 v2] rfl rfl 24 #[.int .i64 0, .int .i64 0, .int .i64 0] hA (by kernel_rfl) rfl (one3 _ _ _) (fun W8 u8 => ?_)
            refine hK.out _ _ (hHeld.trans (u8.bel _ hgNA)) (fun hHeld => ?_)
            clear hK K
            (try simp only [Act.put])
            replace hB := u8.bx hB (by omega)
            refine wpAnyH_ready (rs := [16]) (by kernel_rfl) (by simp) ?_
            refine AllReadyH.cons (o := ⟨none, _, _, _, _, _⟩) rfl (fun K hK => ?_) AllReadyH.nil
            refine wp_store_any 72 _ _ rfl gB #[.bool q0, .bool q1, .bool q2, .bool q3] rfl rfl 72 #[.bool false, .bool false, .bool false, .bool false] hB (by kernel_rfl) rfl (bool4_one _ _ _ _) (fun W9 u9 => ?_)
            refine hK.out _ _ (hHeld.trans (u9.bel _ hgNB)) (fun hHeld => ?_)
            clear hK K
            (try simp only [Act.put])
            refine wpAnyH_done (by kernel_rfl) ?_ _
            refine NoPanic.normal ?_
            go_wp2_with fail
            go_meet
            exact ⟨gA, gB, rfl, rfl, u9.bx u8.box (by omega), u9.box, hgNA, hgNB, hHeld⟩
          ·
            refine wp_alloc_any 72 #[.bool false, .bool false, .bool false, .bool false] (by kernel_rfl) (fun gB WB hg hB hbA => ?_)
            have hgNB := Nat.le_trans hHeld.size hg
            have hne := Nat.ne_of_lt (Nat.lt_of_lt_of_le (hA.lt) hg)
            replace hA := hA.below hbA
            refine hK.out _ _ (b_cl hHeld (Nat.le_refl _) hbA) (fun hHeld => ?_)
            clear hK K hbA hg
            (try simp only [Act.put, List.setIfInBounds_toArray, List.set_cons_zero, List.set_cons_succ])
            refine wpAnyH_ready (rs := [9]) (by kernel_rfl) (by simp) ?_
            refine AllReadyH.cons (o := ⟨some 34, _, _, _, _, _⟩) rfl (fun K hK => ?_) AllReadyH.nil
            go_simp
            (go_at_call 31; refine (CS _ (HK4.out.below hHeld)).mono ?_; rintro e wf ⟨rfl, hbf⟩)
            go_wp2_with fail
            refine hK.out _ _ (b_cl hHeld (Nat.le_refl _) (by assumption)) (fun hHeld => ?_)
            replace hA := hA.below hbf
            replace hB := hB.below hbf
            clear hK K hbf
            (try simp only [Act.put, List.setIfInBounds_toArray, List.set_cons_zero, List.set_cons_succ])
            refine wpAnyH_take (i := 10) (oi := ⟨some 24, _, _, _, _, _⟩) (v := ?_) rfl (by kernel_rfl) (by kernel_rfl) (by kernel_rfl) (fun _ _ _ h => h) (Or.inl ⟨by rfl, ?_⟩) (by assumption) ?_
            rotate_left
            · (intro w' hSw; clear hSw; go_simp; try (with_reducible rfl))
            (try simp only [Act.put, List.setIfInBounds_toArray, List.set_cons_zero, List.set_cons_succ])
            refine wpAnyH_take (i := 11) (oi := ⟨some 35, _, _, _, _, _⟩) (v := ?_) rfl (by kernel_rfl) (by kernel_rfl) (by kernel_rfl) (fun _ _ _ h => h) (Or.inl ⟨by rfl, ?_⟩) (by assumption) ?_
            rotate_left
            · (intro w' hSw; clear hSw; go_simp; try (with_reducible rfl))
            (try simp only [Act.put, List.setIfInBounds_toArray, List.set_cons_zero, List.set_cons_succ])
            refine wpAnyH_take (i := 12) (oi := ⟨some 36, _, _, _, _, _⟩) (v := ?_) rfl (by kernel_rfl) (by kernel_rfl) (by kernel_rfl) (fun _ _ _ h => h) (Or.inl ⟨by rfl, ?_⟩) (by assumption) ?_
            rotate_left
            · (intro w' hSw; clear hSw; go_simp; try (with_reducible rfl))
            (try simp only [Act.put, List.setIfInBounds_toArray, List.set_cons_zero, List.set_cons_succ])
            refine wpAnyH_ready (rs := [15]) (by kernel_rfl) (by simp) ?_
            refine AllReadyH.cons (o := ⟨none, _, _, _, _, _⟩) rfl (fun K hK => ?_) AllReadyH.nil
            refine wp_store_any 24 _ _ rfl gA #[.int .i64 a2, .int .i64 u2, .int .i64 v2] rfl rfl 24 #[.int .i64 0, .int .i64 0, .int .i64 0] hA (by kernel_rfl) rfl (one3 _ _ _) (fun W8 u8 => ?_)
            refine hK.out _ _ (hHeld.trans (u8.bel _ hgNA)) (fun hHeld => ?_)
            clear hK K
            (try simp only [Act.put])
            replace hB := u8.bx hB (by omega)
            refine wpAnyH_ready (rs := [16]) (by kernel_rfl) (by simp) ?_
            refine AllReadyH.cons (o := ⟨none, _, _, _, _, _⟩) rfl (fun K hK => ?_) AllReadyH.nil
            refine wp_store_any 72 _ _ rfl gB #[.bool q0, .bool q1, .bool q2, .bool q3] rfl rfl 72 #[.bool false, .bool false, .bool false, .bool false] hB (by kernel_rfl) rfl (bool4_one _ _ _ _) (fun W9 u9 => ?_)
            refine hK.out _ _ (hHeld.trans (u9.bel _ hgNB)) (fun hHeld => ?_)
            clear hK K
            (try simp only [Act.put])
            refine wpAnyH_done (by kernel_rfl) ?_ _
            refine NoPanic.normal ?_
            go_wp2_with fail
            go_meet
            exact ⟨gA, gB, rfl, rfl, u9.bx u8.box (by omega), u9.box, hgNA, hgNB, hHeld⟩
        ·
          refine wp_alloc_any 72 #[.bool false, .bool false, .bool false, .bool false] (by kernel_rfl) (fun gB WB hg hB hbA => ?_)
          have hgNB := Nat.le_trans hHeld.size hg
          refine hK.out _ _ (b_cl hHeld (Nat.le_refl _) hbA) (fun hHeld => ?_)
          clear hK K hbA hg
          (try simp only [Act.put, List.setIfInBounds_toArray, List.set_cons_zero, List.set_cons_succ])
          refine wpAnyH_ready (rs := [9, 13]) (by kernel_rfl) (by simp) ?_
          refine AllReadyH.cons (o := ⟨some 34, _, _, _, _, _⟩) rfl (fun K hK => ?_) (AllReadyH.cons (o := ⟨some 12, _, _, _, _, _⟩) rfl (fun K hK => ?_) AllReadyH.nil)
          ·
            go_simp
            (go_at_call 31; refine (CS _ (HK4.out.below hHeld)).mono ?_; rintro e wf ⟨rfl, hbf⟩)
            go_wp2_with fail
            refine hK.out _ _ (b_cl hHeld (Nat.le_refl _) (by assumption)) (fun hHeld => ?_)
            replace hB := hB.below hbf
            clear hK K hbf
            (try simp only [Act.put, List.setIfInBounds_toArray, List.set_cons_zero, List.set_cons_succ])
            refine wpAnyH_take (i := 10) (oi := ⟨some 24, _, _, _, _, _⟩) (v := ?_) rfl (by kernel_rfl) (by kernel_rfl) (by kernel_rfl) (fun _ _ _ h => h) (Or.inl ⟨by rfl, ?_⟩) (by assumption) ?_
            rotate_left
            · (intro w' hSw; clear hSw; go_simp; try (with_reducible rfl))
            (try simp only [Act.put, List.setIfInBounds_toArray, List.set_cons_zero, List.set_cons_succ])
            refine wpAnyH_take (i := 11) (oi := ⟨some 35, _, _, _, _, _⟩) (v := ?_) rfl (by kernel_rfl) (by kernel_rfl) (by kernel_rfl) (fun _ _ _ h => h) (Or.inl ⟨by rfl, ?_⟩) (by assumption) ?_
            rotate_left
            · (intro w' hSw; clear hSw; go_simp; try (with_reducible rfl))
            (try simp only [Act.put, List.setIfInBounds_toArray, List.set_cons_zero, List.set_cons_succ])
            refine wpAnyH_take (i := 12) (oi := ⟨some 36, _, _, _, _, _⟩) (v := ?_) rfl (by kernel_rfl) (by kernel_rfl) (by kernel_rfl) (fun _ _ _ h => h) (Or.inl ⟨by rfl, ?_⟩) (by assumption) ?_
            rotate_left
            · (intro w' hSw; clear hSw; go_simp; try (with_reducible rfl))
            (try simp only [Act.put, List.setIfInBounds_toArray, List.set_cons_zero, List.set_cons_succ])
            refine wpAnyH_ready (rs := [13]) (by kernel_rfl) (by simp) ?_
            refine AllReadyH.cons (o := ⟨some 12, _, _, _, _, _⟩) rfl (fun K hK => ?_) AllReadyH.nil
            refine wp_alloc_any 24 #[.int .i64 0, .int .i64 0, .int .i64 0] (by kernel_rfl) (fun gA WA hg hA hbA => ?_)
            have hgNA := Nat.le_trans hHeld.size hg
            have hne := Nat.ne_of_lt (Nat.lt_of_lt_of_le (hB.lt) hg)
            replace hB := hB.below hbA
            refine hK.out _ _ (b_cl hHeld (Nat.le_refl _) hbA) (fun hHeld => ?_)
            clear hK K hbA hg
            (try simp only [Act.put, List.setIfInBounds_toArray, List.set_cons_zero, List.set_cons_succ])
            refine wpAnyH_ready (rs := [15]) (by kernel_rfl) (by simp) ?_
            refine AllReadyH.cons (o := ⟨none, _, _, _, _, _⟩) rfl (fun K hK => ?_) AllReadyH.nil
            refine wp_store_any 24 _ _ rfl gA #[.int .i64 a2, .int .i64 u2, .int .i64 v2] rfl rfl 24 #[.int .i64 0, .int .i64 0, .int .i64 0] hA (by kernel_rfl) rfl (one3 _ _ _) (fun W8 u8 => ?_)
            refine hK.out _ _ (hHeld.trans (u8.bel _ hgNA)) (fun hHeld => ?_)
            clear hK K
            (try simp only [Act.put])
            replace hB := u8.bx hB (by omega)
            refine wpAnyH_ready (rs := [16]) (by kernel_rfl) (by simp) ?_
            refine AllReadyH.cons (o := ⟨none, _, _, _, _, _⟩) rfl (fun K hK => ?_) AllReadyH.nil
            refine wp_store_any 72 _ _ rfl gB #[.bool q0, .bool q1, .bool q2, .bool q3] rfl rfl 72 #[.bool false, .bool false, .bool false, .bool false] hB (by kernel_rfl) rfl (bool4_one _ _ _ _) (fun W9 u9 => ?_)
            refine hK.out _ _ (hHeld.trans (u9.bel _ hgNB)) (fun hHeld => ?_)
            clear hK K
            (try simp only [Act.put])
            refine wpAnyH_done (by kernel_rfl) ?_ _
            refine NoPanic.normal ?_
            go_wp2_with fail
            go_meet
            exact ⟨gA, gB, rfl, rfl, u9.bx u8.box (by omega), u9.box, hgNA, hgNB, hHeld⟩
          ·
            refine wp_alloc_any 24 #[.int .i64 0, .int .i64 0, .int .i64 0] (by kernel_rfl) (fun gA WA hg hA hbA => ?_)
            have hgNA := Nat.le_trans hHeld.size hg
            have hne := Nat.ne_of_lt (Nat.lt_of_lt_of_le (hB.lt) hg)
            replace hB := hB.below hbA
            refine hK.out _ _ (b_cl hHeld (Nat.le_refl _) hbA) (fun hHeld => ?_)
            clear hK K hbA hg
            (try simp only [Act.put, List.setIfInBounds_toArray, List.set_cons_zero, List.set_cons_succ])
            refine wpAnyH_ready (rs := [9]) (by kernel_rfl) (by simp) ?_
            refine AllReadyH.cons (o := ⟨some 34, _, _, _, _, _⟩) rfl (fun K hK => ?_) AllReadyH.nil
            go_simp
            (go_at_call 31; refine (CS _ (HK4.out.below hHeld)).mono ?_; rintro e wf ⟨rfl, hbf⟩)
            go_wp2_with fail
            refine hK.out _ _ (b_cl hHeld (Nat.le_refl _) (by assumption)) (fun hHeld => ?_)
            replace hA := hA.below hbf
            replace hB := hB.below hbf
            clear hK K hbf
            (try simp only [Act.put, List.setIfInBounds_toArray, List.set_cons_zero, List.set_cons_succ])
            refine wpAnyH_take (i := 10) (oi := ⟨some 24, _, _, _, _, _⟩) (v := ?_) rfl (by kernel_rfl) (by kernel_rfl) (by kernel_rfl) (fun _ _ _ h => h) (Or.inl ⟨by rfl, ?_⟩) (by assumption) ?_
            rotate_left
            · (intro w' hSw; clear hSw; go_simp; try (with_reducible rfl))
            (try simp only [Act.put, List.setIfInBounds_toArray, List.set_cons_zero, List.set_cons_succ])
            refine wpAnyH_take (i := 11) (oi := ⟨some 35, _, _, _, _, _⟩) (v := ?_) rfl (by kernel_rfl) (by kernel_rfl) (by kernel_rfl) (fun _ _ _ h => h) (Or.inl ⟨by rfl, ?_⟩) (by assumption) ?_
            rotate_left
            · (intro w' hSw; clear hSw; go_simp; try (with_reducible rfl))
            (try simp only [Act.put, List.setIfInBounds_toArray, List.set_cons_zero, List.set_cons_succ])
            refine wpAnyH_take (i := 12) (oi := ⟨some 36, _, _, _, _, _⟩) (v := ?_) rfl (by kernel_rfl) (by kernel_rfl) (by kernel_rfl) (fun _ _ _ h => h) (Or.inl ⟨by rfl, ?_⟩) (by assumption) ?_
            rotate_left
            · (intro w' hSw; clear hSw; go_simp; try (with_reducible rfl))
            (try simp only [Act.put, List.setIfInBounds_toArray, List.set_cons_zero, List.set_cons_succ])
            refine wpAnyH_ready (rs := [15]) (by kernel_rfl) (by simp) ?_
            refine AllReadyH.cons (o := ⟨none, _, _, _, _, _⟩) rfl (fun K hK => ?_) AllReadyH.nil
            refine wp_store_any 24 _ _ rfl gA #[.int .i64 a2, .int .i64 u2, .int .i64 v2] rfl rfl 24 #[.int .i64 0, .int .i64 0, .int .i64 0] hA (by kernel_rfl) rfl (one3 _ _ _) (fun W8 u8 => ?_)
            refine hK.out _ _ (hHeld.trans (u8.bel _ hgNA)) (fun hHeld => ?_)
            clear hK K
            (try simp only [Act.put])
            replace hB := u8.bx hB (by omega)
            refine wpAnyH_ready (rs := [16]) (by kernel_rfl) (by simp) ?_
            refine AllReadyH.cons (o := ⟨none, _, _, _, _, _⟩) rfl (fun K hK => ?_) AllReadyH.nil
            refine wp_store_any 72 _ _ rfl gB #[.bool q0, .bool q1, .bool q2, .bool q3] rfl rfl 72 #[.bool false, .bool false, .bool false, .bool false] hB (by kernel_rfl) rfl (bool4_one _ _ _ _) (fun W9 u9 => ?_)
            refine hK.out _ _ (hHeld.trans (u9.bel _ hgNB)) (fun hHeld => ?_)
            clear hK K
            (try simp only [Act.put])
            refine wpAnyH_done (by kernel_rfl) ?_ _
            refine NoPanic.normal ?_
            go_wp2_with fail
            go_meet
            exact ⟨gA, gB, rfl, rfl, u9.bx u8.box (by omega), u9.box, hgNA, hgNB, hHeld⟩
      case rest =>
      obtain ⟨RA, RB, rfl, rfl, XA, XB, hRA, hRB, hb5⟩ := hcut
      rename World => w5
      have HCH := Lib.hid (HCH0.out.below hb5)
      have HBS := Lib.hid HCH.out.box
      have HO := Lib.hid (HO.out.below hb5)
      have HXA := Lib.hid XA
      have HXB := Lib.hid XB
      have hcell5 := c_cl hcell hb5
      have s0 := HBS.out.cell (k := 0) rfl
      have s2 := HBS.out.cell (k := 2) rfl
      have e0 := HXA.out.cell (k := 0) rfl
      have e1 := HXB.out.cell (k := 1) rfl
      have ls5 := HBS.out.lt
      have la5 := HXA.out.lt
      have lb5 := HXB.out.lt
      have lbb : bb < w5.heap.size := by have := hb5.size; omega
      have sz5 : w1.heap.size ≤ w5.heap.size := HCH.out.size
      clear hcell XA XB hb5 HCH0 HBS0 CS HKd
      by_cases c2' : q = 2
      case neg =>
        have g2 : (q == 2) = false := by simp [c2']
        have HNX := Lib.hid (show visS l ((kindsV r).take (k + 1)) (beg r) ((i, x, y), -1, []) = ((a2, u2, v2), b, o) by rw [HNX0.out, visT_no (fun c => c2' c.1), HST.out])
        clear c2' HNX0
        go_wp2_with (first | go_skip | (refine wpList_load_box (by rfl) 24 _ rfl RA rfl 24 #[.int .i64 a2, .int .i64 u2, .int .i64 v2] _ HXA.out Try.underlying24 rfl size_spot ?_) | (refine wpList_store_box (by rfl) 24 _ _ rfl (w.heap.size) #[.int .i64 a2, .int .i64 u2, .int .i64 v2] rfl rfl 24 #[.int .i64 a, .int .i64 u, .int .i64 v] HBS.out size_spot rfl (one3 _ _ _) (fun w7 u7 => ?_)))
        have HC7 := Lib.hid (HCH.out.upd u7)
        have HO7 := Lib.hid (HO.out.upd u7 (by omega))
        go_roundg (N1 - (k + 1))
        case measure => omega
        case rel => exact ⟨k + 1, m, A2, c2, a2, u2, v2, b, o, by omega, by go_num, rfl, (by first | rfl | (congr 1; omega)), HNX, HOL, HO7, HC7.out⟩
      have g2 : (q == 2) = true := by simp [c2']
      by_cases hw : CanW l (a, u, v)
      case neg =>
        have hq1 : q1 = true := by rw [← HQ1.out]; unfold b1; exact decide_eq_true ⟨c2', hw⟩
        subst hq1
        have HNX := Lib.hid (show visS l ((kindsV r).take (k + 1)) (beg r) ((i, x, y), -1, []) = ((a2, u2, v2), b, o) by rw [HNX0.out, visT_no (fun c => hw c.2), HST.out])
        clear c2' hw HNX0
        go_wp2_with (first | go_skip | (refine wpList_load_box (by rfl) 24 _ rfl RA rfl 24 #[.int .i64 a2, .int .i64 u2, .int .i64 v2] _ HXA.out Try.underlying24 rfl size_spot ?_) | (refine wpList_store_box (by rfl) 24 _ _ rfl (w.heap.size) #[.int .i64 a2, .int .i64 u2, .int .i64 v2] rfl rfl 24 #[.int .i64 a, .int .i64 u, .int .i64 v] HBS.out size_spot rfl (one3 _ _ _) (fun w7 u7 => ?_)))
        have HC7 := Lib.hid (HCH.out.upd u7)
        have HO7 := Lib.hid (HO.out.upd u7 (by omega))
        go_roundg (N1 - (k + 1))
        case measure => omega
        case rel => exact ⟨k + 1, m, A2, c2, a2, u2, v2, b, o, by omega, by go_num, rfl, (by first | rfl | (congr 1; omega)), HNX, HOL, HO7, HC7.out⟩
      have hq1 : q1 = false := by rw [← HQ1.out]; unfold b1; exact decide_eq_false (fun c => c.2 hw)
      subst hq1
      by_cases hm : a < a2
      case neg =>
        have g3 : a2 ≤ a := by omega
        by_cases hv : v = 0
        · have g4 : (v == 0) = true := by simp [hv]
          have HNX := Lib.hid (show visS l ((kindsV r).take (k + 1)) (beg r) ((i, x, y), -1, []) = ((a2, u2, v2), at_, o) by rw [HNX0.out, visT_go ⟨c2', hw⟩ (if_pos hv) (by rw [HST.out]; exact hm), HST.out])
          clear c2' hw HNX0 hm hv
          go_wp2_with (first | go_skip | (refine wpList_load_box (by rfl) 24 _ rfl RA rfl 24 #[.int .i64 a2, .int .i64 u2, .int .i64 v2] _ HXA.out Try.underlying24 rfl size_spot ?_) | (refine wpList_store_box (by rfl) 24 _ _ rfl (w.heap.size) #[.int .i64 a2, .int .i64 u2, .int .i64 v2] rfl rfl 24 #[.int .i64 a, .int .i64 u, .int .i64 v] HBS.out size_spot rfl (one3 _ _ _) (fun w7 u7 => ?_)))
          have HC7 := Lib.hid (HCH.out.upd u7)
          have HO7 := Lib.hid (HO.out.upd u7 (by omega))
          go_roundg (N1 - (k + 1))
          case measure => omega
          case rel => exact ⟨k + 1, m, A2, c2, a2, u2, v2, at_, o, by omega, by go_num, rfl, (by first | rfl | (congr 1; omega)), HNX, HOL, HO7, HC7.out⟩
        · have g4 : (v == 0) = false := by simp [hv]
          have HNX := Lib.hid (show visS l ((kindsV r).take (k + 1)) (beg r) ((i, x, y), -1, []) = ((a2, u2, v2), b, o) by rw [HNX0.out, visT_go ⟨c2', hw⟩ (if_neg hv) (by rw [HST.out]; exact hm), HST.out])
          clear c2' hw HNX0 hm hv
          go_wp2_with (first | go_skip | (refine wpList_load_box (by rfl) 24 _ rfl RA rfl 24 #[.int .i64 a2, .int .i64 u2, .int .i64 v2] _ HXA.out Try.underlying24 rfl size_spot ?_) | (refine wpList_store_box (by rfl) 24 _ _ rfl (w.heap.size) #[.int .i64 a2, .int .i64 u2, .int .i64 v2] rfl rfl 24 #[.int .i64 a, .int .i64 u, .int .i64 v] HBS.out size_spot rfl (one3 _ _ _) (fun w7 u7 => ?_)))
          have HC7 := Lib.hid (HCH.out.upd u7)
          have HO7 := Lib.hid (HO.out.upd u7 (by omega))
          go_roundg (N1 - (k + 1))
          case measure => omega
          case rel => exact ⟨k + 1, m, A2, c2, a2, u2, v2, b, o, by omega, by go_num, rfl, (by first | rfl | (congr 1; omega)), HNX, HOL, HO7, HC7.out⟩
      by_cases hv : v = 0
      · have g4 : (v == 0) = true := by simp [hv]
        have HNX := Lib.hid (show visS l ((kindsV r).take (k + 1)) (beg r) ((i, x, y), -1, []) = ((a2, u2, v2), -1, o ++ [(a, at_, at_ + 1)]) by rw [HNX0.out, visT_end ⟨c2', hw⟩ (if_pos hv) (by rw [HST.out]; exact hm) at0, HST.out])
        clear c2' hw HNX0 hv
        have HO4 := Lib.hid (show World.ownsRow (w5.alloc (.cells #[.int .i64 a, .int .i64 at_, .int .i64 (at_ + 1)] 48)) (w1.heap.size) 48 3 (.slice A2 m c2) m (flatF o) by
          have := HO.out.alloc (.cells #[.int .i64 a, .int .i64 at_, .int .i64 (at_ + 1)] 48)
          unfold OwnT at this
          rw [HOL.out] at this
          exact this)
        have HLR := Lib.hid (fun q (hq : (Value.slice A2 m c2).ownBlock = some q) => (World.ownsRow.lt HO.out q hq).1)
        have HRT := Lib.hid (fun q (hq : (Value.slice A2 m c2).ownBlock = some q) => row_type (show w5.ownsRow (w1.heap.size) 48 3 _ _ _ from HO.out) hq)
        go_wp2_with (first | go_skip | (at_builtin; refine wpList_append_own _ rfl _ _ 45 rfl (w1.heap.size) 48 i0 (.agg #[.int .i64 0, .int .i64 0, .int .i64 0]) 3 24 Try.underlying45 hi hz0 hz1 hz2 rfl (by decide) _ _ _ rfl HO4.out ⟨w5.heap.size, 0, none⟩ 1 1 [.int .i64 a, .int .i64 at_, .int .i64 (at_ + 1)] rfl rfl (find_news (by simp)) find_cells (by unfold maxLen; omega) (by omega) (by simp; omega) ?_; intro v6 w6 hown6 hgrow6 _; have hS6 := OwnT.snoc (l := o) (by rw [HOL.out]; exact hown6); obtain ⟨A6, c6, rfl, _⟩ := hS6.read; have HO6 := Lib.hid hS6; have hz6 := hgrow6.size; (try simp only [World.size_alloc] at hz6); have hgr : ∀ q, q < w5.heap.size → q < w1.heap.size → w6.heap[q]? = w5.heap[q]? := fun q h1 h2 => (hgrow6.block q (by simp; omega) (fun e => by have := HLR.out q e.symm; omega)).trans (Below.heap_alloc w5 _ q h1); have HS6 := Lib.hid (show Bx w6 (w.heap.size) 24 #[.int .i64 a, .int .i64 u, .int .i64 v] from (hgr _ HBS.out.lt (by omega)).trans HBS.out); have hA6 : Bx w6 RA 24 #[.int .i64 a2, .int .i64 u2, .int .i64 v2] := (hgrow6.block RA (by simp; have := HXA.out.lt; omega) (fun e => by obtain ⟨cs, z, hh⟩ := HRT.out RA e.symm; have := HXA.out; unfold Bx at this; rw [this] at hh; injection hh with hh; injection hh with _ hh _; exact absurd hh (by decide))).trans (HXA.out.alloc _); have HA6 := Lib.hid hA6; have HC6 := Lib.hid (show Chg w1 (w.heap.size) 24 #[.int .i64 a, .int .i64 u, .int .i64 v] w6 from ⟨by have := HCH.out.size; omega, HS6.out, fun q h1 h2 => (hgr q (by have := HCH.out.size; omega) h2).trans (HCH.out.other q h1 h2), fun n h1 h2 => (HCH.out.bel n h1 h2).trans ⟨hgrow6.os, hgrow6.tape, hgrow6.output, by omega, fun q h3 => hgr q (by have := HCH.out.size; omega) (by omega)⟩⟩); clear hown6 hgrow6 hS6 hgr hA6; have f0 := HS6.out.cell (k := 0) rfl; have f1 := HA6.out.cell (k := 0) rfl; have f2 := HS6.out.lt; have f3 := HA6.out.lt) | (refine wpList_load_box (by rfl) 24 _ rfl RA rfl 24 #[.int .i64 a2, .int .i64 u2, .int .i64 v2] _ HA6.out Try.underlying24 rfl size_spot ?_) | (refine wpList_store_box (by rfl) 24 _ _ rfl (w.heap.size) #[.int .i64 a2, .int .i64 u2, .int .i64 v2] rfl rfl 24 #[.int .i64 a, .int .i64 u, .int .i64 v] HS6.out size_spot rfl (one3 _ _ _) (fun w7 u7 => ?_)))
        have HC7 := Lib.hid (HC6.out.upd u7)
        have HO7 := Lib.hid (HO6.out.upd u7 (by omega))
        have HOL7 := Lib.hid (show (o ++ [(a, at_, at_ + 1)]).length = m + 1 by rw [List.length_append, HOL.out]; rfl)
        have HO8 := Lib.hid (show OwnT 48 (w1.heap.size) w7 (.slice A6 (m + 1) c6) (o ++ [(a, at_, at_ + 1)]) by have := HO7.out; rw [HOL7.out] at this; exact this)
        have HX := HOL7
        go_roundg (N1 - (k + 1))
        case measure => omega
        case rel => exact ⟨k + 1, m + 1, A6, c6, a2, u2, v2, -1, o ++ [(a, at_, at_ + 1)], by omega, by go_num, rfl, (by first | rfl | (rw [HX.out]) | (congr 1; have := HOL.out; omega)), HNX, HOL7, HO8, HC7.out⟩
      · have g4 : (v == 0) = false := by simp [hv]
        by_cases hb0 : 0 ≤ b
        · have HNX := Lib.hid (show visS l ((kindsV r).take (k + 1)) (beg r) ((i, x, y), -1, []) = ((a2, u2, v2), -1, o ++ [(a, b, at_ + 1)]) by rw [HNX0.out, visT_end ⟨c2', hw⟩ (if_neg hv) (by rw [HST.out]; exact hm) hb0, HST.out])
          clear c2' hw HNX0 hv
          have HO4 := Lib.hid (show World.ownsRow (w5.alloc (.cells #[.int .i64 a, .int .i64 b, .int .i64 (at_ + 1)] 48)) (w1.heap.size) 48 3 (.slice A2 m c2) m (flatF o) by
            have := HO.out.alloc (.cells #[.int .i64 a, .int .i64 b, .int .i64 (at_ + 1)] 48)
            unfold OwnT at this
            rw [HOL.out] at this
            exact this)
          have HLR := Lib.hid (fun q (hq : (Value.slice A2 m c2).ownBlock = some q) => (World.ownsRow.lt HO.out q hq).1)
          have HRT := Lib.hid (fun q (hq : (Value.slice A2 m c2).ownBlock = some q) => row_type (show w5.ownsRow (w1.heap.size) 48 3 _ _ _ from HO.out) hq)
          go_wp2_with (first | go_skip | (at_builtin; refine wpList_append_own _ rfl _ _ 45 rfl (w1.heap.size) 48 i0 (.agg #[.int .i64 0, .int .i64 0, .int .i64 0]) 3 24 Try.underlying45 hi hz0 hz1 hz2 rfl (by decide) _ _ _ rfl HO4.out ⟨w5.heap.size, 0, none⟩ 1 1 [.int .i64 a, .int .i64 b, .int .i64 (at_ + 1)] rfl rfl (find_news (by simp)) find_cells (by unfold maxLen; omega) (by omega) (by simp; omega) ?_; intro v6 w6 hown6 hgrow6 _; have hS6 := OwnT.snoc (l := o) (by rw [HOL.out]; exact hown6); obtain ⟨A6, c6, rfl, _⟩ := hS6.read; have HO6 := Lib.hid hS6; have hz6 := hgrow6.size; (try simp only [World.size_alloc] at hz6); have hgr : ∀ q, q < w5.heap.size → q < w1.heap.size → w6.heap[q]? = w5.heap[q]? := fun q h1 h2 => (hgrow6.block q (by simp; omega) (fun e => by have := HLR.out q e.symm; omega)).trans (Below.heap_alloc w5 _ q h1); have HS6 := Lib.hid (show Bx w6 (w.heap.size) 24 #[.int .i64 a, .int .i64 u, .int .i64 v] from (hgr _ HBS.out.lt (by omega)).trans HBS.out); have hA6 : Bx w6 RA 24 #[.int .i64 a2, .int .i64 u2, .int .i64 v2] := (hgrow6.block RA (by simp; have := HXA.out.lt; omega) (fun e => by obtain ⟨cs, z, hh⟩ := HRT.out RA e.symm; have := HXA.out; unfold Bx at this; rw [this] at hh; injection hh with hh; injection hh with _ hh _; exact absurd hh (by decide))).trans (HXA.out.alloc _); have HA6 := Lib.hid hA6; have HC6 := Lib.hid (show Chg w1 (w.heap.size) 24 #[.int .i64 a, .int .i64 u, .int .i64 v] w6 from ⟨by have := HCH.out.size; omega, HS6.out, fun q h1 h2 => (hgr q (by have := HCH.out.size; omega) h2).trans (HCH.out.other q h1 h2), fun n h1 h2 => (HCH.out.bel n h1 h2).trans ⟨hgrow6.os, hgrow6.tape, hgrow6.output, by omega, fun q h3 => hgr q (by have := HCH.out.size; omega) (by omega)⟩⟩); clear hown6 hgrow6 hS6 hgr hA6; have f0 := HS6.out.cell (k := 0) rfl; have f1 := HA6.out.cell (k := 0) rfl; have f2 := HS6.out.lt; have f3 := HA6.out.lt) | (refine wpList_load_box (by rfl) 24 _ rfl RA rfl 24 #[.int .i64 a2, .int .i64 u2, .int .i64 v2] _ HA6.out Try.underlying24 rfl size_spot ?_) | (refine wpList_store_box (by rfl) 24 _ _ rfl (w.heap.size) #[.int .i64 a2, .int .i64 u2, .int .i64 v2] rfl rfl 24 #[.int .i64 a, .int .i64 u, .int .i64 v] HS6.out size_spot rfl (one3 _ _ _) (fun w7 u7 => ?_)))
          have HC7 := Lib.hid (HC6.out.upd u7)
          have HO7 := Lib.hid (HO6.out.upd u7 (by omega))
          have HOL7 := Lib.hid (show (o ++ [(a, b, at_ + 1)]).length = m + 1 by rw [List.length_append, HOL.out]; rfl)
          have HO8 := Lib.hid (show OwnT 48 (w1.heap.size) w7 (.slice A6 (m + 1) c6) (o ++ [(a, b, at_ + 1)]) by have := HO7.out; rw [HOL7.out] at this; exact this)
          have HX := HOL7
          go_roundg (N1 - (k + 1))
          case measure => omega
          case rel => exact ⟨k + 1, m + 1, A6, c6, a2, u2, v2, -1, o ++ [(a, b, at_ + 1)], by omega, by go_num, rfl, (by first | rfl | (rw [HX.out]) | (congr 1; have := HOL.out; omega)), HNX, HOL7, HO8, HC7.out⟩
        · have g5 : b < 0 := by omega
          have HNX := Lib.hid (show visS l ((kindsV r).take (k + 1)) (beg r) ((i, x, y), -1, []) = ((a2, u2, v2), -1, o) by rw [HNX0.out, visT_none ⟨c2', hw⟩ (if_neg hv) (by rw [HST.out]; exact hm) hb0, HST.out])
          clear c2' hw HNX0 hv hb0
          go_wp2_with (first | go_skip | (refine wpList_load_box (by rfl) 24 _ rfl RA rfl 24 #[.int .i64 a2, .int .i64 u2, .int .i64 v2] _ HXA.out Try.underlying24 rfl size_spot ?_) | (refine wpList_store_box (by rfl) 24 _ _ rfl (w.heap.size) #[.int .i64 a2, .int .i64 u2, .int .i64 v2] rfl rfl 24 #[.int .i64 a, .int .i64 u, .int .i64 v] HBS.out size_spot rfl (one3 _ _ _) (fun w7 u7 => ?_)))
          have HC7 := Lib.hid (HCH.out.upd u7)
          have HO7 := Lib.hid (HO.out.upd u7 (by omega))
          go_roundg (N1 - (k + 1))
          case measure => omega
          case rel => exact ⟨k + 1, m, A2, c2, a2, u2, v2, -1, o, by omega, by go_num, rfl, (by first | rfl | (congr 1; omega)), HNX, HOL, HO7, HC7.out⟩
    · have hkN : (kindsV r).take k = kindsV r := List.take_of_length_le (by rw [HKL.out]; omega)
      have HE := Lib.hid (show (visS l (kindsV r) (beg r) ((i, x, y), -1, [])).2.2 = o by have := HV.out; rw [hkN] at this; rw [this])
      have HM2 := Lib.hid (show m = M by rw [← HOL.out, ← HE.out, HMM.out])
      have gk : (N1 : Int) ≤ (k : Int) := by omega
      clear hkN
      go_wp2
      go_ret
      obtain ⟨A3, c3, hA, hrd, _⟩ := HO.out.read
      injection hA with h1 h2 h3
      exact ⟨A2, c2, by rw [HM2.out]; rfl, by rw [HE.out]; exact h1 ▸ hrd, HB1.out.trans (HCH0.out.bel _ (Nat.le_refl _) (Nat.le_of_lt ls1))⟩

end Go.Proofs.Ythiiipbfdgaemaa
