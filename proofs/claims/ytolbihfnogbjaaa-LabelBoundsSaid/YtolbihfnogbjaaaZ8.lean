/- Plain facts, several texts in one: ErrandLeftC, ErrandRStep0, ErrandStart. Conditions: none beyond each lemma's own premises. -/
import Derived.Test.YtolbihfnogbjaaaRows
import Derived.Test.YtolbihfnogbjaaaBase
import Derived.Test.YtolbihfnogbjaaaZ2
import Derived.Test.YtolbihfnogbjaaaZ3
import Derived.Test.YtolbihfnogbjaaaZ1
import Derived.Test.YtolbihfnogbjaaaErrandLeaf
import Derived.Test.YtolbihfnogbjaaaErrandChk
import Derived.Test.YtolbihfnogbjaaaZ7
import Derived.Test.YtolbihfnogbjaaaErrandFits
import Derived.Test.YtolbihfnogbjaaaErrandSpot
import Derived.WalkKit
import Derived.WalkSpells
import Derived.WalkSmall
import Derived.Below
import Derived.Lib.Hide
import Derived.Outline
import Derived.Deep.DeepCutAuto
import Derived.OwnWalk
import Derived.BigQuiet
import Derived.Deep.QuietTactic
import Derived.Deep.LoopGhost
import Derived.WalkMore
import Derived.Test.YtolbihfnogbjaaaZ5
import Derived.OrdersHeld
import Derived.Deep.RegionHeld3

/- How much is left, by the code and by the document. Conditions: the tasks can be read. -/
namespace Go.Proofs.Ytolbihfnogbjaaa
open Go.RowKit

theorem sum_take {l : List Tk} {j : Nat} (hj : j < l.length) : sumD (l.take (j + 1)) = sumD (l.take j) + (l.getD j tz).1 ∧ sumS (l.take (j + 1)) = sumS (l.take j) + (l.getD j tz).2.1 := by
  have e : l.take (j + 1) = l.take j ++ [l.getD j tz] := by
    rw [List.take_add_one, List.getElem?_eq_getElem hj, List.getD_eq_getElem?_getD, List.getElem?_eq_getElem hj]; rfl
  rw [e]
  unfold sumD sumS
  simp

theorem sum_top {l : List Tk} (ok : ∀ t ∈ l, TkOk t) : 0 ≤ sumD l ∧ sumD l ≤ 10080 * (l.length : Int) ∧ 0 ≤ sumS l ∧ sumS l ≤ 1440 * (l.length : Int) := by
  induction l with
  | nil => simp [sumD, sumS]
  | cons t l ih =>
    have h1 := ok t (List.mem_cons_self ..)
    have h2 := ih fun u hu => ok u (List.mem_cons_of_mem _ hu)
    unfold sumD sumS at *
    simp only [List.map_cons, List.sum_cons, List.length_cons]
    unfold TkOk at h1
    omega

theorem sum_part {l : List Tk} (ok : ∀ t ∈ l, TkOk t) (hl : l.length ≤ 2001) (k j : Nat) : 0 ≤ sumD ((l.drop k).take j) ∧ sumD ((l.drop k).take j) ≤ 20170080 ∧ 0 ≤ sumS ((l.drop k).take j) ∧ sumS ((l.drop k).take j) ≤ 2881440 := by
  have h := sum_top (l := (l.drop k).take j) fun u hu => ok u (List.mem_of_mem_drop (List.mem_of_mem_take hu))
  have hz : ((l.drop k).take j).length ≤ 2001 := by rw [List.length_take, List.length_drop]; omega
  omega

/-- What Left answers: driving, services, the error. -/
def leftV (l : List Tk) (s : Pt) : Int × Int × Int := if spotV l s = 0 then ((leftT l s).1, (leftT l s).2, 0) else (0, 0, spotV l s)
theorem leftv_bad {l : List Tk} {s : Pt} {e : Int} (h : spotV l s = e) (hne : e ≠ 0) : leftV l s = (0, 0, e) := by unfold leftV; rw [h, if_neg hne]
theorem leftv_ok {l : List Tk} {s : Pt} (h : spotV l s = 0) : leftV l s = ((leftT l s).1, (leftT l s).2, 0) := by unfold leftV; rw [if_pos h]

theorem left_sum {l : List Tk} {k j n : Nat} {x y : Int} (hn : l.length = n) (hj : n - k ≤ j) : leftT l ((k : Int), x, y) = (-x + sumD ((l.drop k).take j), -y + sumS ((l.drop k).take j)) := by
  rw [List.take_of_length_le (by rw [List.length_drop]; omega)]
  unfold leftT
  simp only [Int.toNat_natCast]
  ext <;> simp only <;> omega

theorem drop_at19 {l : List Tk} {k j : Nat} : (l.drop k).getD j tz = l.getD (k + j) tz := by rw [List.getD_eq_getElem?_getD, List.getD_eq_getElem?_getD, List.getElem?_drop]

theorem fits_cells {l : List Tk} (ok : ∀ t ∈ l, TkOk t) {i x y : Int} (h : Fits l (i, x, y)) : 0 ≤ i ∧ i ≤ l.length ∧ 0 ≤ x ∧ x ≤ 10080 ∧ 0 ≤ y ∧ y ≤ 1440 := by
  obtain ⟨h1, h2, h3, h4⟩ := h
  simp only at h1 h2 h3 h4
  by_cases he : i = l.length
  · have := h3 he; omega
  · have hlt : i < l.length := by omega
    have a := h4 hlt
    have b := ok _ (tk_mem h1 hlt)
    unfold TkOk at b
    omega

set_option maxRecDepth 20000 in
set_option maxHeartbeats 2000000 in
theorem leftL19_any (A : Option Addr) (n c : Nat) (l : List Tk) (hn : l.length = n) (i x y : Int) (w : World) (h : RdK w A l) (hf : Few l) (hcn : n ≤ c) (hz : A = none → c = 0) (hx : -9223372036854775808 ≤ x ∧ x ≤ 9223372036854775807) (hy : -9223372036854775808 ≤ y ∧ y ≤ 9223372036854775807) :
    Calls Try.prog 26 #[.slice A n c, .agg #[.int .i64 i, .int .i64 x, .int .i64 y]] w fun e w' => e = .returned (.tuple #[.int .i64 (leftV l (i, x, y)).1, .int .i64 (leftV l (i, x, y)).2.1, .int .i64 (leftV l (i, x, y)).2.2]) ∧ Below w.heap.size w w' := by
  have CS := fun W (h : RdK W A l) => spot19_any A n c l hn i x y W h hf hx hy
  have HK := Lib.hid h
  clear hx hy
  by_cases c0 : spotV l (i, x, y) = 0
  case neg =>
    obtain ⟨e0, he⟩ : ∃ e0, spotV l (i, x, y) = e0 := ⟨_, rfl⟩
    rw [he] at CS c0
    rw [leftv_bad he c0]
    have hne : (e0 != 0) = true := by simp [c0]
    clear he c0 h hf hn hz
    go_enter Try.func26, Try.ntmps26
    go_wp2_with (go_at_call 40; refine (CS _ (HK.out.below (by (repeat (first | exact Below.refl _ _ | (refine b_st ?_ (by first | (simp; done) | (simp; omega))) | (refine b_al ?_ (Nat.le_refl _) _) | refine b_dn ?_ | refine b_dr ?_ | (refine b_cl ?_ (Nat.le_refl _) (by assumption))))))).mono ?_; rintro e w1 ⟨rfl, hb1⟩; have bx1 := (Bx.new (W := w) 28 #[.int .i64 i, .int .i64 x, .int .i64 y] rfl).below hb1; have p0 := bx1.cell (k := 0) rfl; have p1 := bx1.cell (k := 1) rfl; have p2 := bx1.cell (k := 2) rfl; have hz1 := hb1.size; (try simp at hz1))
    go_ret3
    exact ⟨rfl, by (repeat (first | exact Below.refl _ _ | (refine b_st ?_ (by first | (simp; done) | (simp; omega))) | (refine b_al ?_ (Nat.le_refl _) _) | refine b_dn ?_ | refine b_dr ?_ | (refine b_cl ?_ (Nat.le_refl _) (by assumption))))⟩
  rw [c0] at CS
  rw [leftv_ok c0]
  obtain ⟨ck, fit⟩ := spot_zero c0
  obtain ⟨ok, hl⟩ := checkt_zero ck
  obtain ⟨i0, i1, x0, x1, y0, y1⟩ := fits_cells ok fit
  rw [hn] at i1
  obtain ⟨k, rfl⟩ : ∃ k : Nat, i = k := ⟨i.toNat, by omega⟩
  have SP := Lib.hid (fun j => sum_part ok hl k j)
  have ST := Lib.hid (fun j (hj : k + j < n) => (by
    have := sum_take (l := l.drop k) (j := j) (by rw [List.length_drop]; omega)
    rw [drop_at19] at this
    exact this : sumD ((l.drop k).take (j + 1)) = sumD ((l.drop k).take j) + (l.getD (k + j) tz).1 ∧ sumS ((l.drop k).take (j + 1)) = sumS ((l.drop k).take j) + (l.getD (k + j) tz).2.1))
  have SE := Lib.hid (fun j (hj : n - k ≤ j) => left_sum (x := x) (y := y) hn hj)
  have OK := Lib.hid ok
  have HN := Lib.hid hn
  have hl2 : n ≤ 2001 := by omega
  have nx : IntKind.i64.wrap (-x) = -x := IntWalk.i64_in _ ⟨by omega, by omega⟩
  have ny : IntKind.i64.wrap (-y) = -y := IntWalk.i64_in _ ⟨by omega, by omega⟩
  clear c0 ck fit hl ok hf i0 hn
  have k0 : (0 : Int) ≤ (k : Int) := by omega
  by_cases hk : k < n
  case neg =>
    obtain rfl : k = n := by omega
    have HE := Lib.hid (SE.out 0 (by omega))
    have E1 : (leftT l (((k : Nat) : Int), x, y)).1 = -x := by rw [HE.out]; simp [sumD]
    have E2 : (leftT l (((k : Nat) : Int), x, y)).2 = -y := by rw [HE.out]; simp [sumS]
    rw [E1, E2]
    clear E1 E2 SP ST SE
    have lp : ¬ ((0 : Int) < ((k : Int) - (k : Int))) := by omega
    have z0 : (k : Int) - (k : Int) = 0 := by omega
    have fin : ∀ c : Nat, (k : Int) ≤ (c : Int) → (A = none → c = k) → (c = k ∨ ¬ c = k) := fun c _ _ => by omega
    clear h
    rcases Nat.lt_or_ge k c with h1 | h1
    · have hne : ¬ c = k := by omega
      have c1 : (k : Int) ≤ (c : Int) := by omega
      go_enter Try.func26, Try.ntmps26
      go_upto_region 4 with (go_at_call 40; refine (CS _ (HK.out.below (by (repeat (first | exact Below.refl _ _ | (refine b_st ?_ (by first | (simp; done) | (simp; omega))) | (refine b_al ?_ (Nat.le_refl _) _) | refine b_dn ?_ | refine b_dr ?_ | (refine b_cl ?_ (Nat.le_refl _) (by assumption))))))).mono ?_; rintro e w1 ⟨rfl, hb1⟩; have bx1 := (Bx.new (W := w) 28 #[.int .i64 (k : Int), .int .i64 x, .int .i64 y] rfl).below hb1; have p0 := bx1.cell (k := 0) rfl; have p1 := bx1.cell (k := 1) rfl; have p2 := bx1.cell (k := 2) rfl; have hz1 := hb1.size; (try simp at hz1))
      go_quiet (fail)
      have p0' : (w1.drewN nq).cell? ⟨w.heap.size, 0, none⟩ = some (.int .i64 (k : Int)) := p0
      clear p0 p1 p2
      go_wp2
      refine wp_loop_rounds 1 ?_
      rw [rounds_succ]
      go_wp2
      go_ret3
      exact ⟨rfl, by (repeat (first | exact Below.refl _ _ | (refine b_st ?_ (by first | (simp; done) | (simp; omega))) | (refine b_al ?_ (Nat.le_refl _) _) | refine b_dn ?_ | refine b_dr ?_ | (refine b_cl ?_ (Nat.le_refl _) (by assumption))))⟩
    · obtain rfl : k = c := by omega
      go_enter Try.func26, Try.ntmps26
      go_upto_region 4 with (go_at_call 40; refine (CS _ (HK.out.below (by (repeat (first | exact Below.refl _ _ | (refine b_st ?_ (by first | (simp; done) | (simp; omega))) | (refine b_al ?_ (Nat.le_refl _) _) | refine b_dn ?_ | refine b_dr ?_ | (refine b_cl ?_ (Nat.le_refl _) (by assumption))))))).mono ?_; rintro e w1 ⟨rfl, hb1⟩; have bx1 := (Bx.new (W := w) 28 #[.int .i64 (k : Int), .int .i64 x, .int .i64 y] rfl).below hb1; have p0 := bx1.cell (k := 0) rfl; have p1 := bx1.cell (k := 1) rfl; have p2 := bx1.cell (k := 2) rfl; have hz1 := hb1.size; (try simp at hz1))
      go_quiet (fail)
      have p0' : (w1.drewN nq).cell? ⟨w.heap.size, 0, none⟩ = some (.int .i64 (k : Int)) := p0
      clear p0 p1 p2
      go_wp2
      refine wp_loop_rounds 1 ?_
      rw [rounds_succ]
      go_wp2
      go_ret3
      exact ⟨rfl, by (repeat (first | exact Below.refl _ _ | (refine b_st ?_ (by first | (simp; done) | (simp; omega))) | (refine b_al ?_ (Nat.le_refl _) _) | refine b_dn ?_ | refine b_dr ?_ | (refine b_cl ?_ (Nat.le_refl _) (by assumption))))⟩
  obtain ⟨b, off, rfl, hbb, _⟩ := h (by intro e; subst e; have := HN.out; simp at this; omega)
  have hne : ¬ c = k := by omega
  have k1 : (k : Int) ≤ (n : Int) := by omega
  have c1 : (n : Int) ≤ (c : Int) := by omega
  have hnk : (n : Int) - (k : Int) = ((n - k : Nat) : Int) := by omega
  clear h
  go_enter Try.func26, Try.ntmps26
  go_upto_region 4 with (go_at_call 40; refine (CS _ (HK.out.below (by (repeat (first | exact Below.refl _ _ | (refine b_st ?_ (by first | (simp; done) | (simp; omega))) | (refine b_al ?_ (Nat.le_refl _) _) | refine b_dn ?_ | refine b_dr ?_ | (refine b_cl ?_ (Nat.le_refl _) (by assumption))))))).mono ?_; rintro e w1 ⟨rfl, hb1⟩; have bx1 := (Bx.new (W := w) 28 #[.int .i64 (k : Int), .int .i64 x, .int .i64 y] rfl).below hb1; have p0 := bx1.cell (k := 0) rfl; have p1 := bx1.cell (k := 1) rfl; have p2 := bx1.cell (k := 2) rfl; have hz1 := hb1.size; (try simp at hz1))
  go_quiet (fail)
  have p0' : (w1.drewN nq).cell? ⟨w.heap.size, 0, none⟩ = some (.int .i64 (k : Int)) := p0
  clear p0 p1 p2
  go_wp2
  obtain ⟨m, hm⟩ : ∃ m, n - k = m := ⟨_, rfl⟩
  rw [hm] at SE
  rw [hm]
  have HB1 := Lib.hid (show Below w.heap.size w (w1.drewN nq) by (repeat (first | exact Below.refl _ _ | (refine b_st ?_ (by first | (simp; done) | (simp; omega))) | (refine b_al ?_ (Nat.le_refl _) _) | refine b_dn ?_ | refine b_dr ?_ | (refine b_cl ?_ (Nat.le_refl _) (by assumption)))))
  go_loopw [8, 9, 29] (fun s8 s9 s29 wr => ∃ (j : Nat) (D V : Int), j ≤ m ∧ s29 = .int .i64 j ∧ s8 = .int .i64 D ∧ s9 = .int .i64 V ∧ Below w.heap.size w wr ∧ -10080 ≤ D ∧ D ≤ 20170080 ∧ -1440 ≤ V ∧ V ≤ 2881440 ∧ Hid (D = -x + sumD ((l.drop k).take j) ∧ V = -y + sumS ((l.drop k).take j))) (fun _ _ s29 _ => m - (intOf s29).toNat)
  case atStart => exact ⟨0, -x, -y, Nat.zero_le _, rfl, rfl, rfl, HB1.out, by omega, by omega, by omega, by omega, Lib.hid (by simp [sumD, sumS])⟩
  case round =>
    obtain ⟨j, D, V, hj, rfl, rfl, rfl, hb, D0, D1, V0, V1, HD⟩ := hrel
    have hsz := hb.size
    by_cases hlt : j < m
    · obtain ⟨b', off', d, v, B, q, u, hA, hbb', h0, h1, h2, hs⟩ := (HK.out.below hb).at_ (k := k + j) (by rw [HN.out]; omega)
      simp only [Option.some.injEq, Addr.mk.injEq, and_true] at hA
      obtain ⟨rfl, rfl⟩ := hA
      obtain ⟨o, ho, _, _⟩ := hs.out
      have e : off + (k + j) * 3 = off + k * 3 + j * 3 := by omega
      rw [e] at h0 h1 h2
      have tok : TkOk (l.getD (k + j) tz) := OK.out _ (tk_mem (i := ((k + j : Nat) : Int)) (by omega) (by rw [HN.out]; omega))
      rw [ho] at tok
      obtain ⟨d0, d1, v0, v1⟩ := tok
      simp only at d0 d1 v0 v1
      have st := ST.out j (by omega)
      rw [ho] at st
      have sp := SP.out (j + 1)
      have HD2 := Lib.hid (show D + d = -x + sumD ((l.drop k).take (j + 1)) ∧ V + v = -y + sumS ((l.drop k).take (j + 1)) by
        have := HD.out
        simp only at st
        constructor <;> omega)
      have b1 : -10080 ≤ D + d ∧ D + d ≤ 20170080 ∧ -1440 ≤ V + v ∧ V + v ≤ 2881440 := by
        have := HD2.out; omega
      obtain ⟨b1, b2, b3, b4⟩ := b1
      clear hs ho st sp e
      go_wp2
      go_roundw
      case rel => exact ⟨j + 1, D + d, V + v, by omega, by go_num, rfl, rfl, by (repeat (first | exact Below.refl _ _ | (refine b_st ?_ (by first | (simp; done) | (simp; omega))) | (refine b_al ?_ (Nat.le_refl _) _) | refine b_dn ?_ | refine b_dr ?_ | (refine b_cl ?_ (Nat.le_refl _) (by assumption)))), b1, b2, b3, b4, HD2⟩
      case measure => simp [intOf]; omega
    · have HE := Lib.hid (SE.out j (by omega))
      have E1 : (leftT l ((k : Int), x, y)).1 = D := by rw [HE.out, HD.out.1]
      have E2 : (leftT l ((k : Int), x, y)).2 = V := by rw [HE.out, HD.out.2]
      have HE2 := Lib.hid (⟨E1, E2⟩ : (leftT l ((k : Int), x, y)).1 = D ∧ (leftT l ((k : Int), x, y)).2 = V)
      clear E1 E2 HE HD
      go_wp2
      go_ret3
      refine ⟨?_, hb⟩
      rw [HE2.out.1, HE2.out.2]; rfl

set_option maxRecDepth 20000 in
set_option maxHeartbeats 2000000 in
theorem refleft19_any (A : Option Addr) (n c : Nat) (l : List Tk) (hn : l.length = n) (i x y : Int) (w : World) (h : RdK w A l) (ok : ∀ t ∈ l, TkOk t) (hl : n ≤ 2001) (fit : Fits l (i, x, y)) :
    Calls Try.prog 28 #[.slice A n c, .agg #[.int .i64 i, .int .i64 x, .int .i64 y]] w fun e w' => e = .returned (.tuple #[.int .i64 (leftT l (i, x, y)).1, .int .i64 (leftT l (i, x, y)).2]) ∧ Below w.heap.size w w' := by
  have HK := Lib.hid h
  obtain ⟨i0, i1, x0, x1, y0, y1⟩ := fits_cells ok fit
  rw [hn] at i1
  obtain ⟨k, rfl⟩ : ∃ k : Nat, i = k := ⟨i.toNat, by omega⟩
  have SP := Lib.hid (fun j => sum_part ok (by omega) k j)
  have ST := Lib.hid (fun j (hj : k + j < n) => (by
    have := sum_take (l := l.drop k) (j := j) (by rw [List.length_drop]; omega)
    rw [drop_at19] at this
    exact this : sumD ((l.drop k).take (j + 1)) = sumD ((l.drop k).take j) + (l.getD (k + j) tz).1 ∧ sumS ((l.drop k).take (j + 1)) = sumS ((l.drop k).take j) + (l.getD (k + j) tz).2.1))
  have SE := Lib.hid (fun j (hj : n - k ≤ j) => left_sum (x := x) (y := y) hn hj)
  have OK := Lib.hid ok
  have HN := Lib.hid hn
  have hB := Bx.new (W := w) 28 #[.int .i64 (k : Int), .int .i64 x, .int .i64 y] rfl
  have HB0 := Lib.hid hB
  clear h ok hn fit i0 hB
  go_enter Try.func28, Try.ntmps28
  go_wp2
  go_loopw [6, 7, 8] (fun s6 s7 s8 wr => ∃ (j : Nat) (D V : Int), k + j ≤ n ∧ s8 = .int .i64 ((k + j : Nat) : Int) ∧ s6 = .int .i64 D ∧ s7 = .int .i64 V ∧ Below w.heap.size w wr ∧ Bx wr w.heap.size 28 #[.int .i64 (k : Int), .int .i64 x, .int .i64 y] ∧ 0 ≤ D ∧ D ≤ 20170080 ∧ 0 ≤ V ∧ V ≤ 2881440 ∧ Hid (D = sumD ((l.drop k).take j) ∧ V = sumS ((l.drop k).take j))) (fun _ _ s8 _ => n - (intOf s8).toNat)
  case atStart => exact ⟨0, 0, 0, by omega, by simp, rfl, rfl, by (repeat (first | exact Below.refl _ _ | (refine b_st ?_ (by first | (simp; done) | (simp; omega))) | (refine b_al ?_ (Nat.le_refl _) _) | refine b_dn ?_ | refine b_dr ?_ | (refine b_cl ?_ (Nat.le_refl _) (by assumption)))), HB0.out, by omega, by omega, by omega, by omega, Lib.hid (by simp [sumD, sumS])⟩
  case round =>
    obtain ⟨j, D, V, hj, rfl, rfl, rfl, hb, B0, D0, D1, V0, V1, HD⟩ := hrel
    have hsz := hb.size
    have p1 := B0.cell (k := 1) rfl
    have p2 := B0.cell (k := 2) rfl
    have lt0 := B0.lt
    obtain ⟨q, hq⟩ : ∃ q, k + j = q := ⟨_, rfl⟩
    rw [hq] at hj ⊢
    by_cases hlt : q < n
    · obtain ⟨b, off, d, v, B, m, u, rfl, hbb, h0, h1, h2, hs⟩ := (HK.out.below hb).at_ (k := q) (by rw [HN.out]; omega)
      obtain ⟨o, ho, _, _⟩ := hs.out
      have tok : TkOk (l.getD q tz) := OK.out _ (tk_mem (i := (q : Int)) (by omega) (by rw [HN.out]; omega))
      rw [ho] at tok
      obtain ⟨d0, d1, v0, v1⟩ := tok
      simp only at d0 d1 v0 v1
      have st := ST.out j (by omega)
      rw [hq, ho] at st
      have sp := SP.out (j + 1)
      have HD2 := Lib.hid (show D + d = sumD ((l.drop k).take (j + 1)) ∧ V + v = sumS ((l.drop k).take (j + 1)) by
        have := HD.out
        simp only at st
        constructor <;> omega)
      have b1 : 0 ≤ D + d ∧ D + d ≤ 20170080 ∧ 0 ≤ V + v ∧ V + v ≤ 2881440 := by
        have := HD2.out; omega
      obtain ⟨b1, b2, b3, b4⟩ := b1
      have HQ := Lib.hid hq
      clear hs ho st sp hq h2
      go_wp2
      go_roundw
      case rel => exact ⟨j + 1, D + d, V + v, by have := HQ.out; omega, by have := HQ.out; first | (congr 1; omega) | go_num, rfl, rfl, hb, B0, b1, b2, b3, b4, HD2⟩
      case measure => simp [intOf]; omega
    · have HE := Lib.hid (SE.out j (by omega))
      have HE2 := Lib.hid (show (leftT l ((k : Int), x, y)).1 = D - x ∧ (leftT l ((k : Int), x, y)).2 = V - y by
        rw [HE.out]; have := HD.out; constructor <;> simp only <;> omega)
      clear HE HD hq
      go_upto_region 7 with fail
      go_quiet (fail)
      go_wp2
      go_ret2
      refine ⟨?_, b_dn hb⟩
      rw [HE2.out.1, HE2.out.2]; rfl

end Go.Proofs.Ytolbihfnogbjaaa

/- The document's Step in plain words. Conditions: none beyond each lemma's own premises. -/
namespace Go.Proofs.Ytolbihfnogbjaaa
open Go.RowKit

theorem oneb (a b c d : Bool) : (#[.bool a, .bool b, .bool c, .bool d] : Array Value).all (·.oneCell') = true := by simp [Value.oneCell']

/-- The spot before tasks are gone past, of each kind of minute. -/
theorem go_drive {l : List Tk} {s : Pt} (h : CanD l s) : stepT l s 3 = pastT l (s.1, s.2.1 + 1, s.2.2) := by unfold stepT goT; rw [if_pos ⟨rfl, h⟩]
theorem go_work {l : List Tk} {s : Pt} (h : CanW l s) : stepT l s 2 = pastT l (s.1, s.2.1, s.2.2 + 1) := by unfold stepT goT; rw [if_neg (fun c => absurd c.1 (by decide)), if_pos ⟨rfl, h⟩]
theorem go_stay {l : List Tk} {s : Pt} {k : Int} (h1 : ¬ (k = 3 ∧ CanD l s)) (h2 : ¬ (k = 2 ∧ CanW l s)) : stepT l s k = pastT l s := by unfold stepT goT; rw [if_neg h1, if_neg h2]

end Go.Proofs.Ytolbihfnogbjaaa

/- What Start, Right and Done of layer 19 return. Conditions: the tasks can be read. -/
namespace Go.Proofs.Ytolbihfnogbjaaa
open Go.RowKit

/-- Where tasks start. -/
def startV (l : List Tk) : Pt := if checkT l = 0 then pastT l (0, 0, 0) else (0, 0, 0)
theorem start_bad {l : List Tk} (h : checkT l ≠ 0) : startV l = (0, 0, 0) := if_neg h
theorem start_ok {l : List Tk} (h : checkT l = 0) : startV l = pastT l (0, 0, 0) := if_pos h
def doneV (l : List Tk) (s : Pt) : Bool := decide (spotV l s = 0) && decide (s.1 = (l.length : Int))

set_option maxRecDepth 20000 in
set_option maxHeartbeats 2000000 in
theorem start19_any (A : Option Addr) (n c : Nat) (l : List Tk) (hn : l.length = n) (w : World) (h : RdK w A l) (hf : Few l) :
    Calls Try.prog 43 #[.slice A n c] w fun e w' => e = .returned (.tuple #[.agg (sp3 (startV l)), .int .i64 (checkT l)]) ∧ Below w.heap.size w w' := by
  have CC := fun W (h : RdK W A l) => check19_any A n c l hn W h hf
  have HK := Lib.hid h
  by_cases c0 : checkT l = 0
  · have cz := checkt_zero c0
    have CP := fun W (h : RdK W A l) => past19_any A n c l hn 0 0 0 W h (by omega) cz.1 (fits_start cz.1)
    rw [start_ok c0]
    rw [c0] at CC ⊢
    obtain ⟨⟨p, q, r⟩, hP⟩ : ∃ P, pastT l (0, 0, 0) = P := ⟨_, rfl⟩
    rw [hP] at CP ⊢
    unfold sp3 at CP ⊢
    simp only at CP ⊢
    clear hP cz c0 h hf hn
    go_enter Try.func43, Try.ntmps43
    go_wp2_with (first
      | (go_at_call 48; refine (CC _ (HK.out.below (by (repeat (first | exact Below.refl _ _ | (refine b_st ?_ (by first | (simp; done) | (simp; omega))) | (refine b_al ?_ (Nat.le_refl _) _) | refine b_dn ?_ | refine b_dr ?_ | (refine b_cl ?_ (Nat.le_refl _) (by assumption))))))).mono ?_; rintro e w1 ⟨rfl, hb1⟩; have bx1 := (Bx.new (W := w) 28 #[.int .i64 0, .int .i64 0, .int .i64 0] rfl).below hb1; have hz1 := hb1.size; (try simp at hz1))
      | (go_at_call 54; refine (CP _ (HK.out.below (by (repeat (first | exact Below.refl _ _ | (refine b_st ?_ (by first | (simp; done) | (simp; omega))) | (refine b_al ?_ (Nat.le_refl _) _) | refine b_dn ?_ | refine b_dr ?_ | (refine b_cl ?_ (Nat.le_refl _) (by assumption))))))).mono ?_; rintro e w2 ⟨rfl, hb2⟩; have bx2 := bx1.below hb2; have hz2 := hb2.size)
      | (refine wpList_store_box rfl 28 _ _ rfl (w.heap.size) #[.int .i64 p, .int .i64 q, .int .i64 r] rfl rfl 28 _ (bx2) size_spot rfl (one3 _ _ _) (fun w3 u3 => ?_)))
    refine bodyPost_ret (v := .tuple #[.agg #[.int .i64 p, .int .i64 q, .int .i64 r], .int .i64 0]) (results_box2 Try.results43 _ _ w.heap.size 28 #[.int .i64 p, .int .i64 q, .int .i64 r] _ _ rfl u3.box rfl Try.underlying28 rfl size_spot) rfl ⟨rfl, ?_⟩
    exact (show Below w.heap.size w w2 by (repeat (first | exact Below.refl _ _ | (refine b_st ?_ (by first | (simp; done) | (simp; omega))) | (refine b_al ?_ (Nat.le_refl _) _) | refine b_dn ?_ | refine b_dr ?_ | (refine b_cl ?_ (Nat.le_refl _) (by assumption))))).trans (u3.bel _ (Nat.le_refl _))
  · rw [start_bad c0]
    obtain ⟨e0, he⟩ : ∃ e0, checkT l = e0 := ⟨_, rfl⟩
    rw [he] at CC c0 ⊢
    have hne : (e0 != 0) = true := by simp [c0]
    clear he c0 h hf hn
    go_enter Try.func43, Try.ntmps43
    go_wp2_with (first
      | (go_at_call 48; refine (CC _ (HK.out.below (by (repeat (first | exact Below.refl _ _ | (refine b_st ?_ (by first | (simp; done) | (simp; omega))) | (refine b_al ?_ (Nat.le_refl _) _) | refine b_dn ?_ | refine b_dr ?_ | (refine b_cl ?_ (Nat.le_refl _) (by assumption))))))).mono ?_; rintro e w1 ⟨rfl, hb1⟩; have bx1 := (Bx.new (W := w) 28 #[.int .i64 0, .int .i64 0, .int .i64 0] rfl).below hb1; have hz1 := hb1.size; (try simp at hz1))
      | (refine wpList_store_box rfl 28 _ _ rfl (w.heap.size) #[.int .i64 0, .int .i64 0, .int .i64 0] rfl rfl 28 _ (bx1) size_spot rfl (one3 _ _ _) (fun w3 u3 => ?_)))
    refine bodyPost_ret (v := .tuple #[.agg #[.int .i64 0, .int .i64 0, .int .i64 0], .int .i64 e0]) (results_box2 Try.results43 _ _ w.heap.size 28 #[.int .i64 0, .int .i64 0, .int .i64 0] _ _ rfl u3.box rfl Try.underlying28 rfl size_spot) rfl ⟨rfl, ?_⟩
    exact (show Below w.heap.size w w1 by (repeat (first | exact Below.refl _ _ | (refine b_st ?_ (by first | (simp; done) | (simp; omega))) | (refine b_al ?_ (Nat.le_refl _) _) | refine b_dn ?_ | refine b_dr ?_ | (refine b_cl ?_ (Nat.le_refl _) (by assumption))))).trans (u3.bel _ (Nat.le_refl _))

end Go.Proofs.Ytolbihfnogbjaaa
