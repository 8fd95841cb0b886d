/- What last, near, far and check of layer 20 return. Conditions: as each theorem says. -/
import Derived.Test.YthiiipbfdgaemaaRows
import Derived.Test.YthiiipbfdgaemaaZ1
import Derived.Test.YthiiipbfdgaemaaZ2
import Derived.Test.YthiiipbfdgaemaaErrandPast
import Derived.Test.YthiiipbfdgaemaaErrandFits
import Derived.Test.YthiiipbfdgaemaaErrandSpot
import Derived.Test.YthiiipbfdgaemaaErrandLeftC
import Derived.Test.YthiiipbfdgaemaaErrandOverC
import Derived.Test.YthiiipbfdgaemaaZ4
import Derived.WalkKit
import Derived.WalkSpells
import Derived.WalkSmall
import Derived.Below
import Derived.Lib.Hide
import Derived.Outline
import Derived.Deep.DeepCutAuto
import Derived.OwnWalk
import Derived.BigQuiet
import Derived.Deep.QuietTactic
import Derived.Deep.LoopGhost
import Derived.WalkMore
import Derived.OrdersHeld
import Derived.Deep.RegionHeld3
namespace Go.Proofs.Ythiiipbfdgaemaa
open Go.RowKit

/-- The timeline's last minute, and 0, if it has none. -/
def lastV (r : List Rc) : Int := if r = [] then 0 else fin r - 1
theorem fin_last : ∀ {r : List Rc} {k : Nat} {x y z : Int}, r.length = k + 1 → r.getD k rz = (x, y, z) → fin r = z
  | [q], 0, x, y, z, _, h => by simp at h; simp [fin, h]
  | q :: s :: r, k + 1, x, y, z, hl, h => by
    show fin (s :: r) = z
    exact fin_last (k := k) (by simpa using hl) (by simpa using h)
  | [q], k + 1, _, _, _, hl, _ => by simp at hl
  | q :: s :: r, 0, _, _, _, hl, _ => by simp at hl
  | [], k, _, _, _, hl, _ => by simp at hl

set_option maxRecDepth 20000 in
set_option maxHeartbeats 2000000 in
theorem last20_any (A : Option Addr) (n c : Nat) (r : List Rc) (hn : r.length = n) (w : World) (h : RdR w A r) (hl : n ≤ 4611686018427387904) (hz : -9223372036854775807 ≤ fin r ∧ fin r ≤ 9223372036854775807) :
    Calls Try.prog 27 #[.slice A n c] w fun e w' => e = .returned (.int .i64 (lastV r)) ∧ w = w' := by
  by_cases h0 : n = 0
  · subst h0
    obtain rfl := List.eq_nil_of_length_eq_zero hn
    clear h hn
    go_enter Try.func27, Try.ntmps27
    go_wp2
    go_ret
    exact ⟨rfl, rfl⟩
  · obtain ⟨k, hk1⟩ : ∃ k, n = k + 1 := ⟨n - 1, by omega⟩
    obtain ⟨b, off, x, y, z, rfl, hb, c0, c1, c2, hs⟩ := h.at_ (k := k) (by omega)
    have e1 := fin_last (hn.trans hk1) hs.out
    have e2 : lastV r = z - 1 := by
      unfold lastV
      rw [if_neg (by rintro rfl; simp at hn; omega), e1]
    rw [e2]
    rw [e1] at hz
    have e3 : (n : Int) - 1 = k := by omega
    have e4 : ((n : Int) == 0) = false := by simp; omega
    have e5 : ¬ (n : Int) = 0 := by omega
    have hk : k < n := by omega
    clear e1 e2 hs hn h0 c0 c1 h hk1
    obtain ⟨z0, z1⟩ := hz
    go_enter Try.func27, Try.ntmps27
    go_wp2
    go_ret
    exact ⟨rfl, rfl⟩

set_option maxRecDepth 20000 in
set_option maxHeartbeats 2000000 in
theorem near20_any (A : Option Addr) (n c : Nat) (l : List Tk) (hn : l.length = n) (k : Nat) (hk : k ≤ n) (hl : n ≤ 2001) (w : World) (h : RdK w A l) :
    Calls Try.prog 50 #[.slice A n c, .int .i64 (k : Int)] w fun e w' => e = .returned (.int .i64 (nearV l k : Nat)) ∧ w = w' := by
  obtain ⟨V, hV⟩ : ∃ V, nearV l k = V := ⟨_, rfl⟩
  rw [hV]
  obtain ⟨e0, he0⟩ : ∃ e0, min (k + 1) n = e0 := ⟨_, rfl⟩
  have he : nearN l (l.length - e0) e0 = V := by rw [← hV, ← he0, ← hn]; rfl
  have h0 : e0 ≤ n := by omega
  have HV := Lib.hid he
  have HN := Lib.hid hn
  have HK := Lib.hid h
  clear hV he h hn
  have hsplit : ((k : Int) + 1 ≤ (n : Int) ∧ k + 1 = e0) ∨ ((n : Int) ≤ (k : Int) ∧ n = e0) := by omega
  clear he0
  rcases hsplit with ⟨h1, rfl⟩ | ⟨h1, rfl⟩
  · go_enter Try.func50, Try.ntmps50
    go_wp2
    go_loopw [5] (fun i wr => ∃ e : Nat, e ≤ n ∧ i = .int .i64 (e : Int) ∧ wr = w ∧ Hid (nearN l (l.length - e) e = V)) (fun i _ => n - (intOf i).toNat)
    case atStart => exact ⟨_, h0, by go_num, rfl, HV⟩
    case round =>
      clear HV h0 h1
      obtain ⟨e, h2, rfl, rfl, HV⟩ := hrel
      by_cases hlt : e < n
      · obtain ⟨b, off, d, v, B, q, u, rfl, hbb, c0, c1, c2, hs⟩ := HK.out.at_ (k := e) (by rw [HN.out]; exact hlt)
        obtain ⟨o, ho, _, _⟩ := hs.out
        have d0 : (l.getD e tz).1 = d := by rw [ho]
        have v0 : (l.getD e tz).2.1 = v := by rw [ho]
        by_cases hd : d = 0
        · by_cases hv : v = 0
          · have HM := Lib.hid ((near_more (by rw [HN.out]; exact hlt) (d0.trans hd) (v0.trans hv)).symm.trans HV.out)
            have g0 : (d == 0) = true := by simp [hd]
            have g1 : (v == 0) = true := by simp [hv]
            clear hd hv d0 v0 ho hs HV c2
            go_wp2
            go_roundw
            case rel => exact ⟨e + 1, by omega, by go_num, (by first | rfl | trivial), HM⟩
            case measure => simp [intOf]; omega
          · have HE := Lib.hid ((near_end (fun c => hv (v0.symm.trans c.2.2)) _).symm.trans HV.out)
            have g0 : (d == 0) = true := by simp [hd]
            have g1 : (v == 0) = false := by simp [hv]
            clear hd hv d0 v0 ho hs HV c2
            go_wp2
            go_ret
            exact ⟨by rw [← HE.out]; rfl, rfl⟩
        · have HE := Lib.hid ((near_end (fun c => hd (d0.symm.trans c.2.1)) _).symm.trans HV.out)
          have g0 : (d == 0) = false := by simp [hd]
          clear hd d0 v0 ho hs HV c2
          go_wp2
          go_ret
          exact ⟨by rw [← HE.out]; rfl, rfl⟩
      · have HE := Lib.hid ((near_end (l := l) (e := e) (fun c => hlt (by rw [← HN.out]; exact c.1)) _).symm.trans HV.out)
        have hge : (n : Int) ≤ (e : Int) := by omega
        clear HV
        go_wp2
        go_ret
        exact ⟨by rw [← HE.out]; rfl, rfl⟩
  · go_enter Try.func50, Try.ntmps50
    go_wp2
    go_loopw [5] (fun i wr => ∃ e : Nat, e ≤ n ∧ i = .int .i64 (e : Int) ∧ wr = w ∧ Hid (nearN l (l.length - e) e = V)) (fun i _ => n - (intOf i).toNat)
    case atStart => exact ⟨_, h0, by congr 1; omega, rfl, HV⟩
    case round =>
      clear HV h0 h1
      obtain ⟨e, h2, rfl, rfl, HV⟩ := hrel
      by_cases hlt : e < n
      · obtain ⟨b, off, d, v, B, q, u, rfl, hbb, c0, c1, c2, hs⟩ := HK.out.at_ (k := e) (by rw [HN.out]; exact hlt)
        obtain ⟨o, ho, _, _⟩ := hs.out
        have d0 : (l.getD e tz).1 = d := by rw [ho]
        have v0 : (l.getD e tz).2.1 = v := by rw [ho]
        by_cases hd : d = 0
        · by_cases hv : v = 0
          · have HM := Lib.hid ((near_more (by rw [HN.out]; exact hlt) (d0.trans hd) (v0.trans hv)).symm.trans HV.out)
            have g0 : (d == 0) = true := by simp [hd]
            have g1 : (v == 0) = true := by simp [hv]
            clear hd hv d0 v0 ho hs HV c2
            go_wp2
            go_roundw
            case rel => exact ⟨e + 1, by omega, by go_num, (by first | rfl | trivial), HM⟩
            case measure => simp [intOf]; omega
          · have HE := Lib.hid ((near_end (fun c => hv (v0.symm.trans c.2.2)) _).symm.trans HV.out)
            have g0 : (d == 0) = true := by simp [hd]
            have g1 : (v == 0) = false := by simp [hv]
            clear hd hv d0 v0 ho hs HV c2
            go_wp2
            go_ret
            exact ⟨by rw [← HE.out]; rfl, rfl⟩
        · have HE := Lib.hid ((near_end (fun c => hd (d0.symm.trans c.2.1)) _).symm.trans HV.out)
          have g0 : (d == 0) = false := by simp [hd]
          clear hd d0 v0 ho hs HV c2
          go_wp2
          go_ret
          exact ⟨by rw [← HE.out]; rfl, rfl⟩
      · have HE := Lib.hid ((near_end (l := l) (e := e) (fun c => hlt (by rw [← HN.out]; exact c.1)) _).symm.trans HV.out)
        have hge : (n : Int) ≤ (e : Int) := by omega
        clear HV
        go_wp2
        go_ret
        exact ⟨by rw [← HE.out]; rfl, rfl⟩

set_option maxRecDepth 20000 in
set_option maxHeartbeats 2000000 in
theorem far20_end (A : Option Addr) (n c : Nat) (i x y k : Int) (w : World) (hi : i = (n : Int)) :
    Calls Try.prog 39 #[.slice A n c, .agg #[.int .i64 i, .int .i64 x, .int .i64 y], .int .i64 k] w fun e w' => e = .returned (.int .i64 40320) ∧ Below w.heap.size w w' := by
  have h0 : (i == (n : Int)) = true := by simp [hi]
  clear hi
  go_enter Try.func39, Try.ntmps39
  go_wp2
  go_ret
  exact ⟨rfl, by (repeat (first | exact Below.refl _ _ | (refine b_st ?_ (by first | (simp; done) | (simp; omega))) | (refine b_al ?_ (Nat.le_refl _) _) | refine b_dn ?_ | refine b_dr ?_ | (refine b_cl ?_ (Nat.le_refl _) (by assumption))))⟩

set_option maxRecDepth 20000 in
set_option maxHeartbeats 2000000 in
theorem far20_in (A : Option Addr) (n c : Nat) (l : List Tk) (hn : l.length = n) (j : Nat) (x y k : Int) (w : World) (h : RdK w A l) (hj : j < n) {d v p q : Int} (hd : (tk l j).1 = d) (hv : (tk l j).2.1 = v) (hp : wrap64 (d - x) = p) (hq : wrap64 (v - y) = q) :
    Calls Try.prog 39 #[.slice A n c, .agg #[.int .i64 (j : Int), .int .i64 x, .int .i64 y], .int .i64 k] w fun e w' => e = .returned (.int .i64 (if k = 3 ∧ 0 < p then p else if k = 2 ∧ p = 0 then q else 40320)) ∧ Below w.heap.size w w' := by
  obtain ⟨b, off, d', v', B, m, u, rfl, hb, h0, h1, h2, hs⟩ := h.at_ (k := j) (by omega)
  obtain ⟨o, ho, _, _⟩ := hs.out
  have e1 : (tk l (j : Int)) = (d', v', o) := ho
  rw [e1] at hd hv
  simp only at hd hv
  subst hd hv
  clear hs ho e1 h hn
  have hne : ((j : Int) == (n : Int)) = false := by simp; omega
  by_cases k3 : k = 3
  · have g3 : (k == 3) = true := by simp [k3]
    by_cases p0 : 0 < p
    · rw [if_pos ⟨k3, p0⟩]
      clear k3
      go_enter Try.func39, Try.ntmps39
      go_upto_region 3 with fail
      go_quiet (fail)
      go_wp2
      go_ret
      exact ⟨by first | rfl | (rw [← hp]; rfl) | (rw [← hq]; rfl), by (repeat (first | exact Below.refl _ _ | (refine b_st ?_ (by first | (simp; done) | (simp; omega))) | (refine b_al ?_ (Nat.le_refl _) _) | refine b_dn ?_ | refine b_dr ?_ | (refine b_cl ?_ (Nat.le_refl _) (by assumption))))⟩
    · have p1 : p ≤ 0 := by omega
      have g2 : (k == 2) = false := by simp [k3]
      rw [if_neg (fun c => p0 c.2), if_neg (fun c => by have := c.1; omega)]
      clear k3
      go_enter Try.func39, Try.ntmps39
      go_upto_region 3 with fail
      go_quiet (fail)
      go_wp2
      go_ret
      exact ⟨by first | rfl | (rw [← hp]; rfl) | (rw [← hq]; rfl), by (repeat (first | exact Below.refl _ _ | (refine b_st ?_ (by first | (simp; done) | (simp; omega))) | (refine b_al ?_ (Nat.le_refl _) _) | refine b_dn ?_ | refine b_dr ?_ | (refine b_cl ?_ (Nat.le_refl _) (by assumption))))⟩
  · have g3 : (k == 3) = false := by simp [k3]
    rw [if_neg (fun c => k3 c.1)]
    by_cases k2 : k = 2
    · have g2 : (k == 2) = true := by simp [k2]
      by_cases p0 : p = 0
      · have g0 : (p == 0) = true := by simp [p0]
        rw [if_pos ⟨k2, p0⟩]
        clear k3 k2 p0
        go_enter Try.func39, Try.ntmps39
        go_upto_region 3 with fail
        go_quiet (fail)
        go_upto_region 7 with fail
        go_quiet (fail)
        go_wp2
        go_ret
        exact ⟨by first | rfl | (rw [← hp]; rfl) | (rw [← hq]; rfl), by (repeat (first | exact Below.refl _ _ | (refine b_st ?_ (by first | (simp; done) | (simp; omega))) | (refine b_al ?_ (Nat.le_refl _) _) | refine b_dn ?_ | refine b_dr ?_ | (refine b_cl ?_ (Nat.le_refl _) (by assumption))))⟩
      · have g0 : (p == 0) = false := by simp [p0]
        rw [if_neg (fun c => p0 c.2)]
        clear k3 k2 p0
        go_enter Try.func39, Try.ntmps39
        go_upto_region 3 with fail
        go_quiet (fail)
        go_wp2
        go_ret
        exact ⟨by first | rfl | (rw [← hp]; rfl) | (rw [← hq]; rfl), by (repeat (first | exact Below.refl _ _ | (refine b_st ?_ (by first | (simp; done) | (simp; omega))) | (refine b_al ?_ (Nat.le_refl _) _) | refine b_dn ?_ | refine b_dr ?_ | (refine b_cl ?_ (Nat.le_refl _) (by assumption))))⟩
    · have g2 : (k == 2) = false := by simp [k2]
      rw [if_neg (fun c => k2 c.1)]
      clear k3 k2
      go_enter Try.func39, Try.ntmps39
      go_upto_region 3 with fail
      go_quiet (fail)
      go_wp2
      go_ret
      exact ⟨by first | rfl | (rw [← hp]; rfl) | (rw [← hq]; rfl), by (repeat (first | exact Below.refl _ _ | (refine b_st ?_ (by first | (simp; done) | (simp; omega))) | (refine b_al ?_ (Nat.le_refl _) _) | refine b_dn ?_ | refine b_dr ?_ | (refine b_cl ?_ (Nat.le_refl _) (by assumption))))⟩

theorem far20_any (A : Option Addr) (n c : Nat) (l : List Tk) (hn : l.length = n) (i x y k : Int) (w : World) (h : RdK w A l) (ok : ∀ t ∈ l, TkOk t) (fit : Fits l (i, x, y)) :
    Calls Try.prog 39 #[.slice A n c, .agg #[.int .i64 i, .int .i64 x, .int .i64 y], .int .i64 k] w fun e w' => e = .returned (.int .i64 (farV l (i, x, y) k)) ∧ Below w.heap.size w w' := by
  by_cases hi : i = (n : Int)
  · have e : farV l (i, x, y) k = 40320 := by
      unfold farV CanD CanW
      rw [if_neg (fun c => by have := c.2.1; simp only at this; omega), if_neg (fun c => by have := c.2.1; simp only at this; omega)]
    rw [e]
    exact far20_end A n c i x y k w hi
  · obtain ⟨f1, f2, f3, f4⟩ := fit
    simp only at f1 f2 f3 f4
    obtain ⟨j, rfl⟩ : ∃ j : Nat, i = j := ⟨i.toNat, by omega⟩
    have tok := ok _ (tk_mem (l := l) (i := (j : Int)) f1 (by omega))
    unfold TkOk at tok
    have f4 := f4 (by omega)
    have C := far20_in A n c l hn j x y k w h (by omega) rfl rfl (IntWalk.wrap64_in _ (by omega)) (IntWalk.wrap64_in _ (by omega))
    refine C.mono ?_
    rintro e w' ⟨rfl, hb⟩
    refine ⟨?_, hb⟩
    congr 2
    unfold farV CanD CanW
    simp only
    by_cases c0 : k = 3 ∧ 0 < (tk l (j : Int)).1 - x
    · rw [if_pos c0, if_pos ⟨c0.1, by omega, by omega⟩]
    · have n0 : ¬ (k = 3 ∧ (j : Int) < (l.length : Int) ∧ x < (tk l (j : Int)).1) := fun c => c0 ⟨c.1, by omega⟩
      rw [if_neg c0, if_neg n0]
      by_cases c1 : k = 2 ∧ (tk l (j : Int)).1 - x = 0
      · have n1 : k = 2 ∧ (j : Int) < (l.length : Int) ∧ x = (tk l (j : Int)).1 ∧ y < (tk l (j : Int)).2.1 := ⟨c1.1, by omega, by omega, by omega⟩
        rw [if_pos c1, if_pos n1]
      · have n1 : ¬ (k = 2 ∧ (j : Int) < (l.length : Int) ∧ x = (tk l (j : Int)).1 ∧ y < (tk l (j : Int)).2.1) := fun c => c1 ⟨c.1, by omega⟩
        rw [if_neg c1, if_neg n1]

/-- What is wrong with the tasks, with the spot, or with the timeline. -/
def checkE (l : List Tk) (s : Pt) (r : List Rc) : Int := if spotV l s = 0 then (checkV r).2 else spotV l s

theorem checkE_zero {l : List Tk} {s : Pt} {r : List Rc} (h : checkE l s r = 0) : checkT l = 0 ∧ Fits l s ∧ Tl (beg r) r := by
  unfold checkE at h
  by_cases h0 : spotV l s = 0
  · rw [if_pos h0] at h
    obtain ⟨a, b⟩ := spot_zero h0
    exact ⟨a, b, check_tl h⟩
  · rw [if_neg h0] at h; exact absurd h h0

set_option maxRecDepth 20000 in
set_option maxHeartbeats 2000000 in
theorem check20_any (A : Option Addr) (n c : Nat) (l : List Tk) (hn : l.length = n) (i x y : Int) (A' : Option Addr) (n' c' : Nat) (r : List Rc) (hn' : r.length = n') (w : World) (h : RdK w A l) (hf : Few l) (hcn : n ≤ c) (hz : A = none → c = 0)
    (hx : -9223372036854775808 ≤ x ∧ x ≤ 9223372036854775807) (hy : -9223372036854775808 ≤ y ∧ y ≤ 9223372036854775807) (hr : RdR w A' r) (hl : n' ≤ 4611686018427387904) :
    Calls Try.prog 22 #[.slice A n c, .agg #[.int .i64 i, .int .i64 x, .int .i64 y], .slice A' n' c'] w fun e w' => e = .returned (.int .i64 (checkE l (i, x, y) r)) ∧ Below w.heap.size w w' := by
  have CL := fun W (h : RdK W A l) => leftL19_any A n c l hn i x y W h hf hcn hz hx hy
  have CR := fun W (h : RdR W A' r) => rcheck_any A' c' r W h (by omega)
  rw [hn'] at CR
  have HK := Lib.hid h
  have HR := Lib.hid hr
  clear h hr hn hn' hf hcn hz hx hy
  unfold checkE
  by_cases c0 : spotV l (i, x, y) = 0
  case neg =>
    obtain ⟨e0, he⟩ : ∃ e0, spotV l (i, x, y) = e0 := ⟨_, rfl⟩
    have hv := leftv_bad he (by omega)
    rw [hv] at CL
    rw [if_neg c0, he]
    rw [he] at c0
    have hne : (e0 != 0) = true := by simp [c0]
    clear he hv c0 CR
    go_enter Try.func22, Try.ntmps22
    go_wp2_with (go_at_call 36; refine (CL _ (HK.out.below (by (repeat (first | exact Below.refl _ _ | (refine b_st ?_ (by first | (simp; done) | (simp; omega))) | (refine b_al ?_ (Nat.le_refl _) _) | refine b_dn ?_ | refine b_dr ?_ | (refine b_cl ?_ (Nat.le_refl _) (by assumption))))))).mono ?_; rintro e w1 ⟨rfl, hb1⟩)
    go_ret
    exact ⟨rfl, by (repeat (first | exact Below.refl _ _ | (refine b_st ?_ (by first | (simp; done) | (simp; omega))) | (refine b_al ?_ (Nat.le_refl _) _) | refine b_dn ?_ | refine b_dr ?_ | (refine b_cl ?_ (Nat.le_refl _) (by assumption))))⟩
  have hv := leftv_ok c0
  rw [hv] at CL
  rw [if_pos c0]
  obtain ⟨p, hp⟩ : ∃ p, (leftT l (i, x, y)).1 = p := ⟨_, rfl⟩
  obtain ⟨q, hq⟩ : ∃ q, (leftT l (i, x, y)).2 = q := ⟨_, rfl⟩
  obtain ⟨e1, he1⟩ : ∃ e1, (checkV r).2 = e1 := ⟨_, rfl⟩
  obtain ⟨e2, he2⟩ : ∃ e2, (checkV r).1 = e2 := ⟨_, rfl⟩
  rw [hp, hq] at CL
  rw [he1, he2] at CR
  rw [he1]
  clear hp hq hv c0 he1 he2
  go_enter Try.func22, Try.ntmps22
  go_wp2_with (first | (go_at_call 36; refine (CL _ (HK.out.below (by (repeat (first | exact Below.refl _ _ | (refine b_st ?_ (by first | (simp; done) | (simp; omega))) | (refine b_al ?_ (Nat.le_refl _) _) | refine b_dn ?_ | refine b_dr ?_ | (refine b_cl ?_ (Nat.le_refl _) (by assumption))))))).mono ?_; rintro e w1 ⟨rfl, hb1⟩) | (go_at_call 34; refine (CR _ (HR.out.below (by (repeat (first | exact Below.refl _ _ | (refine b_st ?_ (by first | (simp; done) | (simp; omega))) | (refine b_al ?_ (Nat.le_refl _) _) | refine b_dn ?_ | refine b_dr ?_ | (refine b_cl ?_ (Nat.le_refl _) (by assumption))))))).mono ?_; rintro e w2 ⟨rfl, hb2⟩))
  go_ret
  exact ⟨rfl, by (repeat (first | exact Below.refl _ _ | (refine b_st ?_ (by first | (simp; done) | (simp; omega))) | (refine b_al ?_ (Nat.le_refl _) _) | refine b_dn ?_ | refine b_dr ?_ | (refine b_cl ?_ (Nat.le_refl _) (by assumption))))⟩

end Go.Proofs.Ythiiipbfdgaemaa
