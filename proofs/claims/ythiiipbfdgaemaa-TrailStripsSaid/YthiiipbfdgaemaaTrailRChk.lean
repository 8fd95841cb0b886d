/- What the document's own Check of layer 20 returns, and the statements' light. Conditions: the tasks and records can be read. -/
import Derived.Test.YthiiipbfdgaemaaRows
import Derived.Test.YthiiipbfdgaemaaZ1
import Derived.Test.YthiiipbfdgaemaaZ2
import Derived.Test.YthiiipbfdgaemaaErrandPast
import Derived.Test.YthiiipbfdgaemaaErrandFits
import Derived.Test.YthiiipbfdgaemaaErrandSpot
import Derived.Test.YthiiipbfdgaemaaErrandLeftC
import Derived.Test.YthiiipbfdgaemaaErrandOverC
import Derived.Test.YthiiipbfdgaemaaZ4
import Derived.Test.YthiiipbfdgaemaaErrandChk
import Derived.Test.YthiiipbfdgaemaaRecCheckR
import Derived.Test.YthiiipbfdgaemaaErrandLight
import Derived.Test.YthiiipbfdgaemaaTrailLeaf
import Derived.WalkKit
import Derived.WalkSpells
import Derived.WalkSmall
import Derived.Below
import Derived.Lib.Hide
import Derived.Outline
import Derived.Deep.DeepCutAuto
import Derived.OwnWalk
import Derived.BigQuiet
import Derived.Deep.QuietTactic
import Derived.Deep.LoopGhost
import Derived.WalkMore
import Derived.OrdersHeld
import Derived.Deep.RegionHeld3
namespace Go.Proofs.Ythiiipbfdgaemaa
open Go.RowKit

set_option maxRecDepth 20000 in
set_option maxHeartbeats 2000000 in
theorem rchk20_any (A : Option Addr) (n c : Nat) (l : List Tk) (hn : l.length = n) (i x y : Int) (A' : Option Addr) (n' c' : Nat) (r : List Rc) (hn' : r.length = n') (w : World) (h : RdK w A l) (hf : Few l) (hr : RdR w A' r) (hl : n' ≤ 4611686018427387904) :
    Calls Try.prog 15 #[.slice A n c, .agg #[.int .i64 i, .int .i64 x, .int .i64 y], .slice A' n' c'] w fun e w' => e = .returned (.int .i64 (checkE l (i, x, y) r)) ∧ Below w.heap.size w w' := by
  have HS0 := Lib.hid (show Bx (w.alloc (.cells #[.int .i64 i, .int .i64 x, .int .i64 y] 24)) w.heap.size 24 #[.int .i64 i, .int .i64 x, .int .i64 y] from Bx.new (W := w) _ _ rfl)
  have HB0 := Lib.hid (show Below w.heap.size w (w.alloc (.cells #[.int .i64 i, .int .i64 x, .int .i64 y] 24)) by (repeat (first | exact Below.refl _ _ | (refine b_st ?_ (by first | (simp; done) | (simp; omega))) | (refine b_al ?_ (Nat.le_refl _) _) | refine b_dn ?_ | refine b_dr ?_ | (refine b_cl ?_ (Nat.le_refl _) (by assumption)))))
  have C1 := fun W (h : RdK W A l) => refcheck19_any A n c l hn W h hf
  have C2 := fun W (h : RdK W A l) => reffits19_any A n c l hn i x y W h
  have C3 := fun W (h : RdR W A' r) => refrcheck_any A' c' r W h (by omega)
  rw [hn'] at C3
  have HK := Lib.hid h
  have HR := Lib.hid hr
  obtain ⟨k1, hk1⟩ : ∃ k1, checkT l = k1 := ⟨_, rfl⟩
  obtain ⟨k2, hk2⟩ : ∃ k2, (checkV r).2 = k2 := ⟨_, rfl⟩
  obtain ⟨k3, hk3⟩ : ∃ k3, (checkV r).1 = k3 := ⟨_, rfl⟩
  rw [hk1] at C1
  rw [hk2, hk3] at C3
  by_cases h1 : k1 = 0
  · by_cases h2 : Fits l (i, x, y)
    · have e : checkE l (i, x, y) r = k2 := by unfold checkE; rw [if_pos (spot_yes (hk1.trans h1) h2), hk2]
      rw [e]
      rw [decide_eq_true h2] at C2
      have g1 : (k1 != 0) = false := by simp [h1]
      clear h hr hn hn' hk1 hk2 hk3 h1 h2 e hf
      go_enter Try.func15, Try.ntmps15
      go_upto_region 1 with fail
      generalize (w.alloc (.cells #[.int .i64 i, .int .i64 x, .int .i64 y] 24)) = W0 at *
      go_wp2_with (first | (go_at_call 35; refine (C1 _ (HK.out.below HB0.out)).mono ?_; rintro e w1 ⟨rfl, hb1⟩; have HS1 := Lib.hid (HS0.out.below hb1); have HB1 := Lib.hid (b_cl HB0.out (Nat.le_refl _) hb1); clear hb1) | (refine wpList_load_box (by rfl) 24 _ rfl w.heap.size rfl 24 #[.int .i64 i, .int .i64 x, .int .i64 y] _ HS1.out Try.underlying24 rfl size_spot ?_) | (go_at_call 20; refine (C2 _ (HK.out.below HB1.out)).mono ?_; rintro e w2 ⟨rfl, hb2⟩; have HB2 := Lib.hid (b_cl HB1.out (Nat.le_refl _) hb2); clear hb2) | (go_at_call 14; refine (C3 _ (HR.out.below HB2.out)).mono ?_; rintro e w3 ⟨rfl, hb3⟩; have HB3 := Lib.hid (b_cl HB2.out (Nat.le_refl _) hb3); clear hb3))
      go_ret
      exact ⟨rfl, HB3.out⟩
    · have e : checkE l (i, x, y) r = 1 := by
        have := spot_no (hk1.trans h1) h2
        unfold checkE; rw [this, if_neg (by decide)]
      rw [e]
      rw [decide_eq_false h2] at C2
      have g1 : (k1 != 0) = false := by simp [h1]
      clear h hr hn hn' hk1 hk2 hk3 h1 h2 e hf
      go_enter Try.func15, Try.ntmps15
      go_upto_region 1 with fail
      generalize (w.alloc (.cells #[.int .i64 i, .int .i64 x, .int .i64 y] 24)) = W0 at *
      go_wp2_with (first | (go_at_call 35; refine (C1 _ (HK.out.below HB0.out)).mono ?_; rintro e w1 ⟨rfl, hb1⟩; have HS1 := Lib.hid (HS0.out.below hb1); have HB1 := Lib.hid (b_cl HB0.out (Nat.le_refl _) hb1); clear hb1) | (refine wpList_load_box (by rfl) 24 _ rfl w.heap.size rfl 24 #[.int .i64 i, .int .i64 x, .int .i64 y] _ HS1.out Try.underlying24 rfl size_spot ?_) | (go_at_call 20; refine (C2 _ (HK.out.below HB1.out)).mono ?_; rintro e w2 ⟨rfl, hb2⟩; have HB2 := Lib.hid (b_cl HB1.out (Nat.le_refl _) hb2); clear hb2))
      go_ret
      exact ⟨rfl, HB2.out⟩
  · have e : checkE l (i, x, y) r = k1 := by
      have := spot_bad (s := (i, x, y)) hk1 h1
      unfold checkE; rw [this, if_neg h1]
    rw [e]
    have g1 : (k1 != 0) = true := by simp [h1]
    clear h hr hn hn' hk1 hk2 hk3 h1 e hf
    go_enter Try.func15, Try.ntmps15
    go_upto_region 1 with fail
    generalize (w.alloc (.cells #[.int .i64 i, .int .i64 x, .int .i64 y] 24)) = W0 at *
    go_wp2_with (go_at_call 35; refine (C1 _ (HK.out.below HB0.out)).mono ?_; rintro e w1 ⟨rfl, hb1⟩; have HS1 := Lib.hid (HS0.out.below hb1); have HB1 := Lib.hid (b_cl HB0.out (Nat.le_refl _) hb1); clear hb1)
    go_ret
    exact ⟨rfl, HB1.out⟩

/-- Are the records not too long? -/
def lightN : List Rc → Int → Bool
  | [], n => decide (n ≤ 3000)
  | q :: r, n => if q.2.1 < 0 ∨ 40320 < q.2.2 ∨ q.2.2 < 0 ∨ 40320 < q.2.1 then true else lightN r (n + (q.2.2 - q.2.1))
theorem light_at {r : List Rc} {k : Nat} {q y z n : Int} (hk : k < r.length) (h : r.getD k rz = (q, y, z)) : lightN (r.drop k) n = if y < 0 ∨ 40320 < z ∨ z < 0 ∨ 40320 < y then true else lightN (r.drop (k + 1)) (n + (z - y)) := by
  have e : r[k] = (q, y, z) := by
    rw [List.getD_eq_getElem?_getD, List.getElem?_eq_getElem hk] at h
    simpa using h
  rw [List.drop_eq_getElem_cons hk, e]
  rfl
theorem light_end {r : List Rc} {k : Nat} {n : Int} (hk : ¬ k < r.length) : lightN (r.drop k) n = decide (n ≤ 3000) := by
  have e : r.drop k = [] := by rw [List.drop_eq_nil_iff]; omega
  rw [e]; rfl

open Classical in
noncomputable def lightV (l : List Tk) (r : List Rc) : Bool := decide (LightK l) && (decide (r.length ≤ 60) && lightN r 0)
open Classical in
theorem lightV_is {l : List Tk} {r : List Rc} (h : lightV l r = true) : LightK l ∧ r.length ≤ 60 := by
  unfold lightV at h
  rw [Bool.and_eq_true, Bool.and_eq_true] at h
  exact ⟨of_decide_eq_true h.1, of_decide_eq_true h.2.1⟩

open Classical in
set_option maxRecDepth 20000 in
set_option maxHeartbeats 2000000 in
theorem light20_any (A : Option Addr) (n c : Nat) (l : List Tk) (hn : l.length = n) (A' : Option Addr) (n' c' : Nat) (r : List Rc) (hn' : r.length = n') (w : World) (h : RdK w A l) (hr : RdR w A' r) :
    Calls Try.prog 6 #[.slice A n c, .slice A' n' c'] w fun e w' => e = .returned (.bool (lightV l r)) ∧ Below w.heap.size w w' := by
  have CL := fun W (h : RdK W A l) => light19_any A n c l hn W h
  have HK := Lib.hid h
  have HR := Lib.hid hr
  have HN := Lib.hid hn'
  by_cases h1 : LightK l
  case neg =>
    have e : lightV l r = false := by unfold lightV; rw [decide_eq_false h1]; rfl
    rw [e]
    rw [decide_eq_false h1] at CL
    clear h hr hn hn' h1 e
    go_enter Try.func6, Try.ntmps6
    go_wp2_with (first | go_skip | (go_at_call 21; refine (CL _ HK.out).mono ?_; rintro e w1 ⟨rfl, hb1⟩))
    go_ret
    exact ⟨rfl, hb1⟩
  rw [decide_eq_true h1] at CL
  by_cases h2 : n' ≤ 60
  case neg =>
    have e : lightV l r = false := by unfold lightV; rw [decide_eq_true h1, decide_eq_false (by omega)]; rfl
    rw [e]
    have g1 : (60 : Int) < (n' : Int) := by omega
    clear h hr hn hn' h1 e
    go_enter Try.func6, Try.ntmps6
    go_wp2_with (first | go_skip | (go_at_call 21; refine (CL _ HK.out).mono ?_; rintro e w1 ⟨rfl, hb1⟩))
    go_ret
    exact ⟨rfl, hb1⟩
  have e : lightV l r = lightN (r.drop 0) 0 := by unfold lightV; rw [decide_eq_true h1, decide_eq_true (show r.length ≤ 60 by omega)]; rfl
  rw [e]
  obtain ⟨V, hV⟩ : ∃ V, lightN (r.drop 0) 0 = V := ⟨_, rfl⟩
  rw [hV]
  have HV0 := Lib.hid hV
  have g1 : (n' : Int) ≤ 60 := by omega
  clear h hr hn hn' h1 e hV
  go_enter Try.func6, Try.ntmps6
  go_wp2_with (first | go_skip | (go_at_call 21; refine (CL _ HK.out).mono ?_; rintro e w1 ⟨rfl, hb1⟩))
  go_loopw [5, 18] (fun s5 s18 wr => ∃ (k : Nat) (m : Int), k ≤ n' ∧ s18 = .int .i64 (k : Int) ∧ s5 = .int .i64 m ∧ -(40320 * (k : Int)) ≤ m ∧ m ≤ 40320 * (k : Int) ∧ Hid (lightN (r.drop k) m = V) ∧ Below w.heap.size w wr) (fun _ s18 _ => n' - (intOf s18).toNat)
  case atStart => exact ⟨0, 0, Nat.zero_le _, rfl, rfl, by omega, by omega, HV0, hb1⟩
  case round =>
    clear HV0 hb1
    obtain ⟨k, m, hk, rfl, rfl, m0, m1, HV, hb⟩ := hrel
    obtain ⟨w2, rfl⟩ : ∃ w2 : World, w2 = wr := ⟨_, rfl⟩
    have hsz := hb.size
    by_cases hlt : k < n'
    · obtain ⟨b, off, q, y, z, rfl, hbb, c0, c1, c2', hs⟩ := HR.out.at_ (k := k) (by rw [HN.out]; exact hlt)
      rw [← hb.cell (p := ⟨b, _, none⟩) hbb] at c0 c1 c2'
      have hbr : b < w2.heap.size := by omega
      have HM := Lib.hid (light_at (n := m) (by rw [HN.out]; exact hlt) hs.out)
      have HB2 := Lib.hid (hb.alloc hsz (.cells #[.int .i64 q, .int .i64 y, .int .i64 z] 59))
      clear hs
      by_cases y0 : y < 0
      · have g2 : decide (y < 0) = true := decide_eq_true y0
        have HE := Lib.hid (HM.out.trans (if_pos (by omega)))
        go_wp2_with go_skip
        go_ret
        refine ⟨?_, HB2.out⟩
        have := HV.out.symm.trans HE.out
        rw [this]; rfl
      · have g2 : decide (y < 0) = false := decide_eq_false y0
        by_cases z0 : 40320 < z
        · have g3 : decide (40320 < z) = true := decide_eq_true z0
          have HE := Lib.hid (HM.out.trans (if_pos (by omega)))
          go_wp2_with go_skip
          go_ret
          refine ⟨?_, HB2.out⟩
          have := HV.out.symm.trans HE.out
          rw [this]; rfl
        · have g3 : decide (40320 < z) = false := decide_eq_false z0
          by_cases z1 : z < 0
          · have g4 : decide (z < 0) = true := decide_eq_true z1
            have HE := Lib.hid (HM.out.trans (if_pos (by omega)))
            go_wp2_with go_skip
            go_ret
            refine ⟨?_, HB2.out⟩
            have := HV.out.symm.trans HE.out
            rw [this]; rfl
          · have g4 : decide (z < 0) = false := decide_eq_false z1
            by_cases y1 : 40320 < y
            · have g5 : decide (40320 < y) = true := decide_eq_true y1
              have HE := Lib.hid (HM.out.trans (if_pos (by omega)))
              go_wp2_with go_skip
              go_ret
              refine ⟨?_, HB2.out⟩
              have := HV.out.symm.trans HE.out
              rw [this]; rfl
            · have g5 : decide (40320 < y) = false := decide_eq_false y1
              have HM2 := Lib.hid ((HM.out.trans (if_neg (by omega))).symm.trans HV.out)
              have n1 : 0 ≤ y := by omega
              have n2 : z ≤ 40320 := by omega
              have n3 : 0 ≤ z := by omega
              have n4 : y ≤ 40320 := by omega
              clear y0 z0 z1 y1 HM HV
              go_wp2_with go_skip
              go_roundw
              case rel => exact ⟨k + 1, m + (z - y), by omega, by go_num, rfl, by omega, by omega, HM2, HB2.out⟩
              case measure => simp [intOf]; omega
    · have HE := Lib.hid ((light_end (r := r) (n := m) (by rw [HN.out]; exact hlt)).symm.trans HV.out)
      clear HV
      by_cases m3 : m ≤ 3000
      · have HE2 := Lib.hid (show V = true by rw [← HE.out, decide_eq_true m3])
        clear HE
        go_wp2
        go_ret
        exact ⟨by rw [HE2.out]; rfl, hb⟩
      · have HE2 := Lib.hid (show V = false by rw [← HE.out, decide_eq_false m3])
        have m4 : 3000 < m := by omega
        clear HE
        go_wp2
        go_ret
        exact ⟨by rw [HE2.out]; rfl, hb⟩

end Go.Proofs.Ythiiipbfdgaemaa
