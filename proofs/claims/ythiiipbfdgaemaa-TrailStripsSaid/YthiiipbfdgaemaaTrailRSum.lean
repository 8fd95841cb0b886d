/- What the document's own Sum of layer 20 returns. Conditions: the tasks can be read and may be, and the spot is right. -/
import Derived.Test.YthiiipbfdgaemaaRows
import Derived.Test.YthiiipbfdgaemaaZ1
import Derived.Test.YthiiipbfdgaemaaZ2
import Derived.Test.YthiiipbfdgaemaaErrandPast
import Derived.Test.YthiiipbfdgaemaaErrandFits
import Derived.Test.YthiiipbfdgaemaaErrandSpot
import Derived.Test.YthiiipbfdgaemaaErrandLeftC
import Derived.Test.YthiiipbfdgaemaaErrandOverC
import Derived.Test.YthiiipbfdgaemaaZ4
import Derived.Test.YthiiipbfdgaemaaZ3
import Derived.Test.YthiiipbfdgaemaaTrailStrip
import Derived.WalkKit
import Derived.WalkSpells
import Derived.WalkSmall
import Derived.Below
import Derived.Lib.Hide
import Derived.Outline
import Derived.Deep.DeepCutAuto
import Derived.OwnWalk
import Derived.BigQuiet
import Derived.Deep.QuietTactic
import Derived.Deep.LoopGhost
import Derived.WalkMore
import Derived.OrdersHeld
import Derived.Deep.RegionHeld3
import Derived.Laws.AppendOwn
namespace Go.Proofs.Ythiiipbfdgaemaa
open Go.RowKit

/-- What a task adds: its drive, then its service. -/
def stepA (o : List Int) (d v : Int) (k : Nat) : List Int := if k = 0 then o else if k = 1 then putK o d else putK (putK o d) (-v)
def dAt (l : List Tk) (s : Pt) (j : Nat) : Int := (tk l (s.1 + j)).1 - (if j = 0 then s.2.1 else 0)
def vAt (l : List Tk) (s : Pt) (j : Nat) : Int := (tk l (s.1 + j)).2.1 - (if j = 0 then s.2.2 else 0)
/-- What the first j tasks add, from a spot on. -/
def sumA (l : List Tk) (s : Pt) : Nat → List Int
  | 0 => []
  | j + 1 => stepA (sumA l s j) (dAt l s j) (vAt l s j) 2

theorem stepA_zero (o : List Int) (d v : Int) : stepA o d v 0 = o := rfl
theorem stepA_one (o : List Int) (d v : Int) : stepA o d v 1 = putK o d := rfl
theorem stepA_two (o : List Int) (d v : Int) : stepA o d v 2 = putK (putK o d) (-v) := rfl

theorem sumL_snoc (o : List Int) (l : List Tk) (t : Tk) : sumL o (l ++ [t]) = putK (putK (sumL o l) t.1) (-t.2.1) := by
  unfold sumL
  rw [List.foldl_append]
  rfl

theorem sumA_more {l : List Tk} {s : Pt} (h0 : 0 ≤ s.1) : ∀ j : Nat, s.1 + j + 1 ≤ l.length → sumA l s (j + 1) = sumL (putK (putK [] ((tk l s.1).1 - s.2.1)) (-((tk l s.1).2.1 - s.2.2))) ((l.drop (s.1 + 1).toNat).take j)
  | 0, _ => by
    unfold sumA
    rw [stepA_two]
    unfold dAt vAt sumA
    simp [sumL]
  | j + 1, h => by
    have h' : s.1 + ((j + 1 : Nat) : Int) + 1 ≤ l.length := h
    have ih := sumA_more (l := l) h0 j (by omega)
    have e : sumA l s (j + 1 + 1) = stepA (sumA l s (j + 1)) (dAt l s (j + 1)) (vAt l s (j + 1)) 2 := rfl
    have hj : j < (l.drop (s.1 + 1).toNat).length := by rw [List.length_drop]; omega
    have et : (l.drop (s.1 + 1).toNat)[j] = tk l (s.1 + (j + 1 : Nat)) := by
      rw [List.getElem_drop]
      unfold tk
      have e1 : (s.1 + ((j + 1 : Nat) : Int)).toNat = (s.1 + 1).toNat + j := by omega
      have hlt : (s.1 + 1).toNat + j < l.length := by omega
      rw [e1, List.getD_eq_getElem?_getD, List.getElem?_eq_getElem hlt, Option.getD_some]
    rw [e, ih, List.take_add_one, List.getElem?_eq_getElem hj, Option.toList_some, sumL_snoc, et, stepA_two]
    unfold dAt vAt
    rw [if_neg (Nat.succ_ne_zero j), if_neg (Nat.succ_ne_zero j), Int.sub_zero, Int.sub_zero]

theorem sumA_all {l : List Tk} {s : Pt} (h0 : 0 ≤ s.1) {a : Nat} (ha : s.1 + a = l.length) : sumA l s a = sumT l s := by
  unfold sumT
  cases a with
  | zero => rw [if_neg (by omega)]; rfl
  | succ j =>
    rw [if_pos (by omega), sumA_more h0 j (by omega), List.take_of_length_le (by rw [List.length_drop]; omega)]

theorem putK_bd {o : List Int} {x b d : Int} (h : NzN o b) (hd : -d ≤ x ∧ x ≤ d) (hb : 0 ≤ b) : NzN (putK o x) (b + d) := by
  unfold putK
  split
  · intro y hy; have := h y hy; exact ⟨this.1, by omega, by omega⟩
  · rename_i c; exact putN_nz h c hd hb

theorem at_bd {l : List Tk} (ok : ∀ t ∈ l, TkOk t) {s : Pt} (h : Fits l s) {j : Nat} (hj : s.1 + j < l.length) : 0 ≤ dAt l s j ∧ dAt l s j ≤ 10080 ∧ 0 ≤ vAt l s j ∧ vAt l s j ≤ 1440 := by
  have h0 := h.1
  have t := ok _ (tk_mem (l := l) (i := s.1 + j) (by omega) hj)
  unfold TkOk at t
  unfold dAt vAt
  by_cases hz : j = 0
  · subst hz
    rw [if_pos rfl, if_pos rfl]
    have e : s.1 + ((0 : Nat) : Int) = s.1 := by omega
    rw [e] at t hj ⊢
    have := h.2.2.2 hj
    omega
  · rw [if_neg hz, if_neg hz]
    omega

theorem sumA_bd {l : List Tk} (ok : ∀ t ∈ l, TkOk t) {s : Pt} (h : Fits l s) : ∀ j : Nat, s.1 + j ≤ l.length → NzN (sumA l s j) (11520 * j) ∧ (sumA l s j).length ≤ 2 * j
  | 0, _ => ⟨fun y hy => (by cases hy), Nat.le_refl _⟩
  | j + 1, hj => by
    obtain ⟨h1, h2⟩ := sumA_bd ok h j (by omega)
    have b := at_bd ok h (j := j) (by omega)
    have e : sumA l s (j + 1) = putK (putK (sumA l s j) (dAt l s j)) (-(vAt l s j)) := rfl
    rw [e]
    have h3 := putK_bd h1 (x := dAt l s j) (d := 10080) (by omega) (by omega)
    have h4 := putK_bd h3 (x := -(vAt l s j)) (d := 1440) (by omega) (by omega)
    refine ⟨fun y hy => ?_, ?_⟩
    · have := h4 y hy
      have e2 : 11520 * ((j + 1 : Nat) : Int) = 11520 * (j : Int) + 10080 + 1440 := by omega
      rw [e2]
      exact this
    · have l1 := putK_len (putK (sumA l s j) (dAt l s j)) (-(vAt l s j))
      have l2 := putK_len (sumA l s j) (dAt l s j)
      omega

set_option maxRecDepth 20000 in
set_option maxHeartbeats 2000000 in
theorem rsum20_any (A : Option Addr) (n c : Nat) (l : List Tk) (hn : l.length = n) (i x y : Int) (w : World) (h : RdK w A l) (ok : ∀ t ∈ l, TkOk t) (hl : n ≤ 2001) (fit : Fits l (i, x, y)) {M : Nat} (hM : (sumT l (i, x, y)).length = M) :
    Calls Try.prog 19 #[.slice A n c, .agg #[.int .i64 i, .int .i64 x, .int .i64 y]] w fun e w' => ∃ A2 c2, e = .returned (.slice A2 M c2) ∧ RdN w' A2 (sumT l (i, x, y)) ∧ Below w.heap.size w w' := by
  obtain ⟨i0, i1', x0, x1, y0, y1⟩ := fits_cells ok fit
  obtain ⟨a, rfl⟩ : ∃ a : Nat, i = a := ⟨i.toNat, by omega⟩
  have HK := Lib.hid h
  have HN := Lib.hid hn
  have OK := Lib.hid ok
  have HF := Lib.hid fit
  have HMM := Lib.hid hM
  have ha : a ≤ n := by omega
  obtain ⟨i1, hj, hy0, hy1, hy2⟩ := info_parts info_int
  have HS0 := Lib.hid (show Bx (w.alloc (.cells #[.int .i64 (a : Int), .int .i64 x, .int .i64 y] 24)) w.heap.size 24 #[.int .i64 (a : Int), .int .i64 x, .int .i64 y] from Bx.new (W := w) _ _ rfl)
  have HB0 := Lib.hid (show Below w.heap.size w (w.alloc (.cells #[.int .i64 (a : Int), .int .i64 x, .int .i64 y] 24)) by (repeat (first | exact Below.refl _ _ | (refine b_st ?_ (by first | (simp; done) | (simp; omega))) | (refine b_al ?_ (Nat.le_refl _) _) | refine b_dn ?_ | refine b_dr ?_ | (refine b_cl ?_ (Nat.le_refl _) (by assumption)))))
  clear h ok hn fit hM i0 i1'
  go_enter Try.func19, Try.ntmps19
  go_upto_region 1 with fail
  generalize (w.alloc (.cells #[.int .i64 (a : Int), .int .i64 x, .int .i64 y] 24)) = w1 at *
  have s0 := HS0.out.cell (k := 0) rfl
  have ls := HS0.out.lt
  go_wp2
  clear s0
  go_loopw [5, 6] (fun s5 s6 wr => ∃ (jt m : Nat) (A2 : Option Addr) (c2 : Nat), a + jt ≤ n ∧ s6 = .int .i64 ((a + jt : Nat) : Int) ∧ s5 = .slice A2 m c2 ∧ Hid ((sumA l ((a : Int), x, y) (jt)).length = m) ∧ Hid (OwnN (w1.heap.size) wr (.slice A2 m c2) (sumA l ((a : Int), x, y) (jt))) ∧ Below (w1.heap.size) w1 wr) (fun _ s6 _ => n - (intOf s6).toNat)
  case atStart => exact ⟨0, 0, none, 0, by omega, rfl, rfl, Lib.hid rfl, Lib.hid (OwnN.nil _ _), Below.refl _ _⟩
  case round =>
    obtain ⟨jt, m, A2, c2, hjn, rfl, rfl, HON, HO, hb⟩ := hrel
    obtain ⟨w2, rfl⟩ : ∃ w2 : World, w2 = wr := ⟨_, rfl⟩
    have hsz := hb.size
    obtain ⟨ii, hii⟩ : ∃ ii, a + jt = ii := ⟨_, rfl⟩
    have HI := Lib.hid hii
    rw [hii] at hjn ⊢
    have HBS := Lib.hid (HS0.out.keep hb ls)
    by_cases hlt : ii < n
    · obtain ⟨b, off, d0, v0, B, q, u, rfl, hbb, c0, c1, c2', hs⟩ := (HK.out.below (HB0.out.trans (hb.mono HB0.out.size))).at_ (k := ii) (by rw [HN.out]; exact hlt)
      obtain ⟨o, ho, _, _⟩ := hs.out
      have ek : tk l (((a : Int), x, y).1 + (jt : Int)) = (d0, v0, o) := by
        have e1 : ((a : Int), x, y).1 + (jt : Int) = ((ii : Nat) : Int) := by simp only; omega
        rw [e1]; exact ho
      have HBD := Lib.hid (show NzN (sumA l ((a : Int), x, y) jt) 40000000 ∧ (sumA l ((a : Int), x, y) jt).length ≤ 5000 by
        have := sumA_bd OK.out HF.out jt (by simp only; have := HN.out; omega)
        exact ⟨fun y hy => by have h1 := this.1 y hy; exact ⟨h1.1, by omega, by omega⟩, by omega⟩)
      have bd := at_bd OK.out HF.out (j := jt) (by simp only; have := HN.out; omega)
      have tok := OK.out _ (tk_mem (l := l) (i := ((a : Int), x, y).1 + (jt : Int)) (by simp only; omega) (by simp only; have := HN.out; omega))
      rw [ek] at tok
      obtain ⟨t1, t2, t3, t4⟩ := tok
      simp only at t1 t2 t3 t4
      have s1 := HBS.out.cell (k := 1) rfl
      have s2 := HBS.out.cell (k := 2) rfl
      have s0 := HBS.out.cell (k := 0) rfl
      have lw := HBS.out.lt
      have gi : (ii : Int) < (n : Int) := by omega
      have gi0 : (0 : Int) ≤ (ii : Int) := by omega
      clear hs ho c2'
      by_cases hj0 : jt = 0
      · obtain ⟨d, hd⟩ : ∃ d, d0 - x = d := ⟨_, rfl⟩
        obtain ⟨ve, hv⟩ : ∃ ve, v0 - y = ve := ⟨_, rfl⟩
        have HD := Lib.hid (show dAt l ((a : Int), x, y) jt = d ∧ vAt l ((a : Int), x, y) jt = ve by
          unfold dAt vAt; rw [ek, if_pos hj0, if_pos hj0]; exact ⟨hd, hv⟩)
        rw [HD.out.1, HD.out.2] at bd
        obtain ⟨b1, b2, b3, b4⟩ := bd
        have w1' : IntKind.i64.wrap (d0 - x) = d := by rw [hd]; exact IntWalk.i64_in _ ⟨by omega, by omega⟩
        have w2' : IntKind.i64.wrap (v0 - y) = ve := by rw [hv]; exact IntWalk.i64_in _ ⟨by omega, by omega⟩
        have ge : ((ii : Int) == (a : Int)) = true := by simp; omega
        clear hd hv ek hj0 hii
        go_upto_region 5 with fail
        go_quiet (fail)
        go_upto_region 7 with fail
        go_quiet (fail)
        go_wp2
        clear w1' w2' c0 c1 s0 s1 s2
        go_loopw [5, 9] (fun s5 s9 wr => ∃ (k m : Nat) (A2 : Option Addr) (c2 : Nat), k ≤ 2 ∧ s9 = .int .i64 (k : Int) ∧ s5 = .slice A2 m c2 ∧ Hid ((stepA (sumA l ((a : Int), x, y) jt) d ve k).length = m) ∧ Hid (OwnN (w1.heap.size) wr (.slice A2 m c2) (stepA (sumA l ((a : Int), x, y) jt) d ve k)) ∧ Below (w1.heap.size) w1 wr) (fun _ s9 _ => 2 - (intOf s9).toNat)
        case atStart => exact ⟨0, m, A2, c2, by omega, rfl, rfl, HON, HO, (by first | exact hb | exact b_dn hb | exact b_dn (b_dn hb))⟩
        case round =>
          clear HON HO hb
          obtain ⟨k, m, A2, c2, hk, rfl, rfl, HON, HO, hb⟩ := hrel
          obtain ⟨w2, rfl⟩ : ∃ w2 : World, w2 = wr := ⟨_, rfl⟩
          have hsz := hb.size
          by_cases hk2 : k < 2
          · have hlen0 : (stepA (sumA l ((a : Int), x, y) jt) d ve k).length ≤ 100000 := by
              have l1 := putK_len (sumA l ((a : Int), x, y) jt) d
              have := HBD.out.2
              unfold stepA
              repeat' split
              all_goals omega
            have hlen2 := hlen0
            rw [HON.out] at hlen2
            by_cases hk0 : k = 0
            · have g1 : ((k : Int) == 1) = false := by simp; omega
              have gk : (k : Int) < 2 := by omega
              by_cases hd0 : d = 0
              · have HE := Lib.hid (show stepA (sumA l ((a : Int), x, y) jt) d ve (k + 1) = stepA (sumA l ((a : Int), x, y) jt) d ve k by rw [hk0]; show putK _ d = _; rw [hd0, putK, if_pos rfl]; rfl)
                have g0 : (d == 0) = true := by simp [hd0]
                clear hk0 hd0
                go_wp2_with go_skip
                go_roundw
                case rel => exact ⟨k + 1, m, A2, c2, by omega, by go_num, rfl, Lib.hid (by rw [HE.out]; exact HON.out), Lib.hid (by rw [HE.out]; exact HO.out), hb⟩
                case measure => simp [intOf]; omega
              · have HM := Lib.hid (show stepA (sumA l ((a : Int), x, y) jt) d ve (k + 1) = putN (stepA (sumA l ((a : Int), x, y) jt) d ve k) d by rw [hk0]; show putK _ d = _; rw [putK_nz hd0]; rfl)
                have HNZ := Lib.hid (show NzN (stepA (sumA l ((a : Int), x, y) jt) d ve k) 50000000 from fun y hy => by
                  rw [hk0] at hy
                  have := HBD.out.1 y hy
                  exact ⟨this.1, by omega, by omega⟩)
                have g0 : (d == 0) = false := by simp [hd0]
                have gd : 0 < d := by omega
                have gd2 : decide (0 < d) = true := decide_eq_true gd
                clear hk0 hd0
                by_cases hm0 : m = 0
                · subst hm0
                  have hnil : stepA (sumA l ((a : Int), x, y) jt) d ve k = [] := List.eq_nil_of_length_eq_zero HON.out
                  have HE := Lib.hid (show stepA (sumA l ((a : Int), x, y) jt) d ve (k + 1) = stepA (sumA l ((a : Int), x, y) jt) d ve k ++ [d] by rw [HM.out, hnil]; rfl)
                  have HL5 := Lib.hid (show (stepA (sumA l ((a : Int), x, y) jt) d ve (k + 1)).length = 0 + 1 by rw [HE.out, List.length_append, HON.out]; rfl)
                  go_wp2_with (first | go_skip | (at_builtin; refine wpList_append_own _ rfl _ _ 37 rfl (w1.heap.size) 3 i1 (.int .i64 0) 1 8 Try.underlying37 hj hy0 hy1 hy2 rfl (by decide) _ _ _ rfl (OwnN.alloc HO.out _) ⟨w2.heap.size, 0, none⟩ 1 1 [.int .i64 d] rfl rfl (int_news (by simp)) int_cells (by unfold maxLen; omega) (by omega) (by simp; omega) ?_; intro v5 w5 hown5 hgrow5 _; have HS := Lib.hid (OwnN.snoc hown5); have HB5 := Lib.hid ((hb.alloc hsz (.cells #[.int .i64 d] 3)).grown hgrow5 (by simp; omega) (fun q hq => (World.ownsRow.lt HO.out q hq).1)); obtain ⟨A5, c5, rfl, _⟩ := HS.out.read; clear hown5 hgrow5))
                  have HS2 := Lib.hid (show OwnN (w1.heap.size) w5 (.slice A5 (0 + 1) c5) (stepA (sumA l ((a : Int), x, y) jt) d ve (k + 1)) by
                    have := HS.out
                    rw [← HE.out, HL5.out] at this
                    exact this)
                  have HX := Lib.hid (show (stepA (sumA l ((a : Int), x, y) jt) d ve k ++ [d]).length = 0 + 1 by rw [List.length_append, HON.out]; rfl)
                  clear HS
                  go_wp2
                  go_roundw
                  case rel => exact ⟨k + 1, 0 + 1, A5, c5, by omega, by go_num, (by first | rfl | (rw [HX.out]) | (congr 1; omega)), HL5, HS2, HB5.out⟩
                  case measure => simp [intOf]; omega
                · have hm1 : (0 : Int) < (m : Int) := by omega
                  obtain ⟨o, v, hov, hom⟩ := last_form HON.out hm0
                  obtain ⟨j, hoj⟩ : ∃ j, o.length = j := ⟨_, rfl⟩
                  have hjm : j < m := by omega
                  have hj1 : (m : Int) - 1 = (j : Int) := by omega
                  obtain ⟨g, hA2, hgb, hgl⟩ : ∃ g, A2 = some ⟨g, 0, none⟩ ∧ (w1.heap.size) ≤ g ∧ g < w2.heap.size := by
                    obtain ⟨A', c', hA, hf, _⟩ := row_form (show w2.ownsRow (w1.heap.size) 3 1 (.slice A2 m c2) (stepA (sumA l ((a : Int), x, y) jt) d ve k).length _ from HO.out)
                    injection hA with h1 h2 h3
                    obtain ⟨g, hg1, hg2, hg3⟩ := hf (by rw [HON.out]; exact hm0)
                    exact ⟨g, h1.trans hg1, hg2, hg3⟩
                  subst hA2
                  have hcell : w2.cell? ⟨g, j, none⟩ = some (.int .i64 v) := by
                    obtain ⟨A', c', hA, hrd⟩ := HO.out.read
                    injection hA with h1 h2 h3
                    subst h1
                    obtain ⟨b', off', x', hA', _, hc', hx'⟩ := hrd.at_ (k := j) (by rw [HON.out]; exact hjm)
                    simp only [Option.some.injEq, Addr.mk.injEq, and_true] at hA'
                    obtain ⟨rfl, rfl⟩ := hA'
                    rw [Nat.zero_add] at hc'
                    rw [hc']
                    have := hx'.out
                    rw [hov, ← hoj, List.getElem?_append_right (Nat.le_refl _), Nat.sub_self] at this
                    have h4 : v = x' := by simpa using this
                    rw [h4]
                  have hfree : w2.frozen? ⟨g, j, none⟩ = false := (row_some (show w2.ownsRow (w1.heap.size) 3 1 (.slice (some ⟨g, 0, none⟩) m c2) m _ by have := HO.out; unfold OwnN at this; rw [HON.out] at this; exact this)).2.2 j
                  obtain ⟨v0, v1, v2⟩ := HNZ.out v (by rw [hov]; simp)
                  by_cases hv : 0 < v
                  · have hv' : decide (0 < v) = true := decide_eq_true hv
                    have HE := Lib.hid (show stepA (sumA l ((a : Int), x, y) jt) d ve (k + 1) = o ++ [v + d] by rw [HM.out, hov, putN_same o (by omega)])
                    have HL5 := Lib.hid (show (stepA (sumA l ((a : Int), x, y) jt) d ve (k + 1)).length = m by rw [HE.out, List.length_append]; exact hom)
                    have hv1 : -9223372036854775808 ≤ v + d ∧ v + d ≤ 9223372036854775807 := by omega
                    obtain ⟨hv2, hv3⟩ := hv1
                    have HO6 := Lib.hid (show OwnN (w1.heap.size) (w2.setCell ⟨g, j, none⟩ (.int .i64 (v + d))) (.slice (some ⟨g, 0, none⟩) m c2) (stepA (sumA l ((a : Int), x, y) jt) d ve (k + 1)) by
                      rw [HE.out]
                      have := OwnN.set (o := o) (v := v) (by rw [← hov]; exact HO.out) hom.symm (v + d)
                      rw [hoj] at this
                      exact this)
                    have HB6 := Lib.hid (show Below (w1.heap.size) w1 (w2.setCell ⟨g, j, none⟩ (.int .i64 (v + d))) from hb.setCell (show (w1.heap.size) ≤ g from hgb) _)
                    go_wp2_with go_skip
                    go_roundw
                    case rel => exact ⟨k + 1, m, (some ⟨g, 0, none⟩), c2, by omega, by go_num, rfl, HL5, HO6, HB6.out⟩
                    case measure => simp [intOf]; omega
                  · have hv' : decide (0 < v) = false := decide_eq_false hv
                    have HE := Lib.hid (show stepA (sumA l ((a : Int), x, y) jt) d ve (k + 1) = stepA (sumA l ((a : Int), x, y) jt) d ve k ++ [d] by rw [HM.out, hov, putN_other o (by omega)])
                    have HL5 := Lib.hid (show (stepA (sumA l ((a : Int), x, y) jt) d ve (k + 1)).length = m + 1 by rw [HE.out, List.length_append, HON.out]; rfl)
                    go_wp2_with (first | go_skip | (at_builtin; refine wpList_append_own _ rfl _ _ 37 rfl (w1.heap.size) 3 i1 (.int .i64 0) 1 8 Try.underlying37 hj hy0 hy1 hy2 rfl (by decide) _ _ _ rfl (OwnN.alloc HO.out _) ⟨w2.heap.size, 0, none⟩ 1 1 [.int .i64 d] rfl rfl (int_news (by simp)) int_cells (by unfold maxLen; omega) (by omega) (by simp; omega) ?_; intro v5 w5 hown5 hgrow5 _; have HS := Lib.hid (OwnN.snoc hown5); have HB5 := Lib.hid ((hb.alloc hsz (.cells #[.int .i64 d] 3)).grown hgrow5 (by simp; omega) (fun q hq => (World.ownsRow.lt HO.out q hq).1)); obtain ⟨A5, c5, rfl, _⟩ := HS.out.read; clear hown5 hgrow5))
                    have HS2 := Lib.hid (show OwnN (w1.heap.size) w5 (.slice A5 (m + 1) c5) (stepA (sumA l ((a : Int), x, y) jt) d ve (k + 1)) by
                      have := HS.out
                      rw [← HE.out, HL5.out] at this
                      exact this)
                    have HX := Lib.hid (show (stepA (sumA l ((a : Int), x, y) jt) d ve k ++ [d]).length = m + 1 by rw [List.length_append, HON.out]; rfl)
                    clear HS
                    go_wp2
                    go_roundw
                    case rel => exact ⟨k + 1, m + 1, A5, c5, by omega, by go_num, (by first | rfl | (rw [HX.out]) | (congr 1; omega)), HL5, HS2, HB5.out⟩
                    case measure => simp [intOf]; omega
            · have hk1 : k = 1 := by omega
              have g1 : ((k : Int) == 1) = true := by simp [hk1]
              have gk : (k : Int) < 2 := by omega
              by_cases hv0 : ve = 0
              · have HE := Lib.hid (show stepA (sumA l ((a : Int), x, y) jt) d ve (k + 1) = stepA (sumA l ((a : Int), x, y) jt) d ve k by rw [hk1]; show putK (putK _ d) (-ve) = _; rw [hv0]; exact if_pos rfl)
                have g0 : (-ve == 0) = true := by simp [hv0]
                have g00 : (ve == 0) = true := by simp [hv0]
                clear hk0 hk1 hv0
                go_wp2_with go_skip
                go_roundw
                case rel => exact ⟨k + 1, m, A2, c2, by omega, by go_num, rfl, Lib.hid (by rw [HE.out]; exact HON.out), Lib.hid (by rw [HE.out]; exact HO.out), hb⟩
                case measure => simp [intOf]; omega
              · have HM := Lib.hid (show stepA (sumA l ((a : Int), x, y) jt) d ve (k + 1) = putN (stepA (sumA l ((a : Int), x, y) jt) d ve k) (-ve) by rw [hk1]; show putK (putK _ d) (-ve) = _; rw [putK_nz (show -ve ≠ 0 by omega)]; rfl)
                have HNZ := Lib.hid (show NzN (stepA (sumA l ((a : Int), x, y) jt) d ve k) 50000000 from fun y hy => by
                  rw [hk1] at hy
                  have := putK_bd HBD.out.1 (x := d) (d := 10080) (by omega) (by omega) y hy
                  exact ⟨this.1, by omega, by omega⟩)
                have g0 : (-ve == 0) = false := by simp; omega
                have g00 : (ve == 0) = false := by simp [hv0]
                have gd : -ve < 0 := by omega
                have gd2 : decide (0 < -ve) = false := decide_eq_false (by omega)
                have gd3 : decide (ve < 0) = false := decide_eq_false (by omega)
                clear hk0 hk1 hv0
                by_cases hm0 : m = 0
                · subst hm0
                  have hnil : stepA (sumA l ((a : Int), x, y) jt) d ve k = [] := List.eq_nil_of_length_eq_zero HON.out
                  have HE := Lib.hid (show stepA (sumA l ((a : Int), x, y) jt) d ve (k + 1) = stepA (sumA l ((a : Int), x, y) jt) d ve k ++ [(-ve)] by rw [HM.out, hnil]; rfl)
                  have HL5 := Lib.hid (show (stepA (sumA l ((a : Int), x, y) jt) d ve (k + 1)).length = 0 + 1 by rw [HE.out, List.length_append, HON.out]; rfl)
                  go_wp2_with (first | go_skip | (at_builtin; refine wpList_append_own _ rfl _ _ 37 rfl (w1.heap.size) 3 i1 (.int .i64 0) 1 8 Try.underlying37 hj hy0 hy1 hy2 rfl (by decide) _ _ _ rfl (OwnN.alloc HO.out _) ⟨w2.heap.size, 0, none⟩ 1 1 [.int .i64 (-ve)] rfl rfl (int_news (by simp)) int_cells (by unfold maxLen; omega) (by omega) (by simp; omega) ?_; intro v5 w5 hown5 hgrow5 _; have HS := Lib.hid (OwnN.snoc hown5); have HB5 := Lib.hid ((hb.alloc hsz (.cells #[.int .i64 (-ve)] 3)).grown hgrow5 (by simp; omega) (fun q hq => (World.ownsRow.lt HO.out q hq).1)); obtain ⟨A5, c5, rfl, _⟩ := HS.out.read; clear hown5 hgrow5))
                  have HS2 := Lib.hid (show OwnN (w1.heap.size) w5 (.slice A5 (0 + 1) c5) (stepA (sumA l ((a : Int), x, y) jt) d ve (k + 1)) by
                    have := HS.out
                    rw [← HE.out, HL5.out] at this
                    exact this)
                  have HX := Lib.hid (show (stepA (sumA l ((a : Int), x, y) jt) d ve k ++ [(-ve)]).length = 0 + 1 by rw [List.length_append, HON.out]; rfl)
                  clear HS
                  go_wp2
                  go_roundw
                  case rel => exact ⟨k + 1, 0 + 1, A5, c5, by omega, by go_num, (by first | rfl | (rw [HX.out]) | (congr 1; omega)), HL5, HS2, HB5.out⟩
                  case measure => simp [intOf]; omega
                · have hm1 : (0 : Int) < (m : Int) := by omega
                  obtain ⟨o, v, hov, hom⟩ := last_form HON.out hm0
                  obtain ⟨j, hoj⟩ : ∃ j, o.length = j := ⟨_, rfl⟩
                  have hjm : j < m := by omega
                  have hj1 : (m : Int) - 1 = (j : Int) := by omega
                  obtain ⟨g, hA2, hgb, hgl⟩ : ∃ g, A2 = some ⟨g, 0, none⟩ ∧ (w1.heap.size) ≤ g ∧ g < w2.heap.size := by
                    obtain ⟨A', c', hA, hf, _⟩ := row_form (show w2.ownsRow (w1.heap.size) 3 1 (.slice A2 m c2) (stepA (sumA l ((a : Int), x, y) jt) d ve k).length _ from HO.out)
                    injection hA with h1 h2 h3
                    obtain ⟨g, hg1, hg2, hg3⟩ := hf (by rw [HON.out]; exact hm0)
                    exact ⟨g, h1.trans hg1, hg2, hg3⟩
                  subst hA2
                  have hcell : w2.cell? ⟨g, j, none⟩ = some (.int .i64 v) := by
                    obtain ⟨A', c', hA, hrd⟩ := HO.out.read
                    injection hA with h1 h2 h3
                    subst h1
                    obtain ⟨b', off', x', hA', _, hc', hx'⟩ := hrd.at_ (k := j) (by rw [HON.out]; exact hjm)
                    simp only [Option.some.injEq, Addr.mk.injEq, and_true] at hA'
                    obtain ⟨rfl, rfl⟩ := hA'
                    rw [Nat.zero_add] at hc'
                    rw [hc']
                    have := hx'.out
                    rw [hov, ← hoj, List.getElem?_append_right (Nat.le_refl _), Nat.sub_self] at this
                    have h4 : v = x' := by simpa using this
                    rw [h4]
                  have hfree : w2.frozen? ⟨g, j, none⟩ = false := (row_some (show w2.ownsRow (w1.heap.size) 3 1 (.slice (some ⟨g, 0, none⟩) m c2) m _ by have := HO.out; unfold OwnN at this; rw [HON.out] at this; exact this)).2.2 j
                  obtain ⟨v0, v1, v2⟩ := HNZ.out v (by rw [hov]; simp)
                  by_cases hv : 0 < v
                  · have hv' : decide (0 < v) = true := decide_eq_true hv
                    have HE := Lib.hid (show stepA (sumA l ((a : Int), x, y) jt) d ve (k + 1) = stepA (sumA l ((a : Int), x, y) jt) d ve k ++ [(-ve)] by rw [HM.out, hov, putN_other o (by omega)])
                    have HL5 := Lib.hid (show (stepA (sumA l ((a : Int), x, y) jt) d ve (k + 1)).length = m + 1 by rw [HE.out, List.length_append, HON.out]; rfl)
                    go_wp2_with (first | go_skip | (at_builtin; refine wpList_append_own _ rfl _ _ 37 rfl (w1.heap.size) 3 i1 (.int .i64 0) 1 8 Try.underlying37 hj hy0 hy1 hy2 rfl (by decide) _ _ _ rfl (OwnN.alloc HO.out _) ⟨w2.heap.size, 0, none⟩ 1 1 [.int .i64 (-ve)] rfl rfl (int_news (by simp)) int_cells (by unfold maxLen; omega) (by omega) (by simp; omega) ?_; intro v5 w5 hown5 hgrow5 _; have HS := Lib.hid (OwnN.snoc hown5); have HB5 := Lib.hid ((hb.alloc hsz (.cells #[.int .i64 (-ve)] 3)).grown hgrow5 (by simp; omega) (fun q hq => (World.ownsRow.lt HO.out q hq).1)); obtain ⟨A5, c5, rfl, _⟩ := HS.out.read; clear hown5 hgrow5))
                    have HS2 := Lib.hid (show OwnN (w1.heap.size) w5 (.slice A5 (m + 1) c5) (stepA (sumA l ((a : Int), x, y) jt) d ve (k + 1)) by
                      have := HS.out
                      rw [← HE.out, HL5.out] at this
                      exact this)
                    have HX := Lib.hid (show (stepA (sumA l ((a : Int), x, y) jt) d ve k ++ [(-ve)]).length = m + 1 by rw [List.length_append, HON.out]; rfl)
                    clear HS
                    go_wp2
                    go_roundw
                    case rel => exact ⟨k + 1, m + 1, A5, c5, by omega, by go_num, (by first | rfl | (rw [HX.out]) | (congr 1; omega)), HL5, HS2, HB5.out⟩
                    case measure => simp [intOf]; omega
                  · have hv' : decide (0 < v) = false := decide_eq_false hv
                    have HE := Lib.hid (show stepA (sumA l ((a : Int), x, y) jt) d ve (k + 1) = o ++ [v + (-ve)] by rw [HM.out, hov, putN_same o (by omega)])
                    have HL5 := Lib.hid (show (stepA (sumA l ((a : Int), x, y) jt) d ve (k + 1)).length = m by rw [HE.out, List.length_append]; exact hom)
                    have hv1 : -9223372036854775808 ≤ v + (-ve) ∧ v + (-ve) ≤ 9223372036854775807 := by omega
                    obtain ⟨hv2, hv3⟩ := hv1
                    have HO6 := Lib.hid (show OwnN (w1.heap.size) (w2.setCell ⟨g, j, none⟩ (.int .i64 (v + (-ve)))) (.slice (some ⟨g, 0, none⟩) m c2) (stepA (sumA l ((a : Int), x, y) jt) d ve (k + 1)) by
                      rw [HE.out]
                      have := OwnN.set (o := o) (v := v) (by rw [← hov]; exact HO.out) hom.symm (v + (-ve))
                      rw [hoj] at this
                      exact this)
                    have HB6 := Lib.hid (show Below (w1.heap.size) w1 (w2.setCell ⟨g, j, none⟩ (.int .i64 (v + (-ve)))) from hb.setCell (show (w1.heap.size) ≤ g from hgb) _)
                    go_wp2_with go_skip
                    go_roundw
                    case rel => exact ⟨k + 1, m, (some ⟨g, 0, none⟩), c2, by omega, by go_num, rfl, HL5, HO6, HB6.out⟩
                    case measure => simp [intOf]; omega
          · have hk3 : k = 2 := by omega
            have HE := Lib.hid (show sumA l ((a : Int), x, y) (jt + 1) = stepA (sumA l ((a : Int), x, y) jt) d ve k by rw [hk3, ← HD.out.1, ← HD.out.2]; rfl)
            have gk : (2 : Int) ≤ (k : Int) := by omega
            clear hk3
            go_wp2
            go_roundw
            case rel => exact ⟨jt + 1, m, A2, c2, by have := HI.out; omega, by have := HI.out; first | (congr 1; omega) | go_num, rfl, Lib.hid (by rw [HE.out]; exact HON.out), Lib.hid (by rw [HE.out]; exact HO.out), hb⟩
            case measure => have := HI.out; simp [intOf]; omega
      · obtain ⟨d, hd⟩ : ∃ d, d0 = d := ⟨_, rfl⟩
        obtain ⟨ve, hv⟩ : ∃ ve, v0 = ve := ⟨_, rfl⟩
        have HD := Lib.hid (show dAt l ((a : Int), x, y) jt = d ∧ vAt l ((a : Int), x, y) jt = ve by
          unfold dAt vAt; rw [ek, if_neg hj0, if_neg hj0, Int.sub_zero, Int.sub_zero]; exact ⟨hd, hv⟩)
        rw [HD.out.1, HD.out.2] at bd
        obtain ⟨b1, b2, b3, b4⟩ := bd
        rw [hd] at c0
        rw [hv] at c1
        have ge : ((ii : Int) == (a : Int)) = false := by simp; omega
        clear hd hv ek hj0 hii
        go_upto_region 5 with fail
        go_quiet (fail)
        have s0' : (w2.drewN nq).cell? ⟨w.heap.size, 0, none⟩ = some (.int .i64 (a : Int)) := s0
        go_wp2
        clear c0 c1 s0 s0' s1 s2
        go_loopw [5, 9] (fun s5 s9 wr => ∃ (k m : Nat) (A2 : Option Addr) (c2 : Nat), k ≤ 2 ∧ s9 = .int .i64 (k : Int) ∧ s5 = .slice A2 m c2 ∧ Hid ((stepA (sumA l ((a : Int), x, y) jt) d ve k).length = m) ∧ Hid (OwnN (w1.heap.size) wr (.slice A2 m c2) (stepA (sumA l ((a : Int), x, y) jt) d ve k)) ∧ Below (w1.heap.size) w1 wr) (fun _ s9 _ => 2 - (intOf s9).toNat)
        case atStart => exact ⟨0, m, A2, c2, by omega, rfl, rfl, HON, HO, (by first | exact hb | exact b_dn hb | exact b_dn (b_dn hb))⟩
        case round =>
          clear HON HO hb
          obtain ⟨k, m, A2, c2, hk, rfl, rfl, HON, HO, hb⟩ := hrel
          obtain ⟨w2, rfl⟩ : ∃ w2 : World, w2 = wr := ⟨_, rfl⟩
          have hsz := hb.size
          by_cases hk2 : k < 2
          · have hlen0 : (stepA (sumA l ((a : Int), x, y) jt) d ve k).length ≤ 100000 := by
              have l1 := putK_len (sumA l ((a : Int), x, y) jt) d
              have := HBD.out.2
              unfold stepA
              repeat' split
              all_goals omega
            have hlen2 := hlen0
            rw [HON.out] at hlen2
            by_cases hk0 : k = 0
            · have g1 : ((k : Int) == 1) = false := by simp; omega
              have gk : (k : Int) < 2 := by omega
              by_cases hd0 : d = 0
              · have HE := Lib.hid (show stepA (sumA l ((a : Int), x, y) jt) d ve (k + 1) = stepA (sumA l ((a : Int), x, y) jt) d ve k by rw [hk0]; show putK _ d = _; rw [hd0, putK, if_pos rfl]; rfl)
                have g0 : (d == 0) = true := by simp [hd0]
                clear hk0 hd0
                go_wp2_with go_skip
                go_roundw
                case rel => exact ⟨k + 1, m, A2, c2, by omega, by go_num, rfl, Lib.hid (by rw [HE.out]; exact HON.out), Lib.hid (by rw [HE.out]; exact HO.out), hb⟩
                case measure => simp [intOf]; omega
              · have HM := Lib.hid (show stepA (sumA l ((a : Int), x, y) jt) d ve (k + 1) = putN (stepA (sumA l ((a : Int), x, y) jt) d ve k) d by rw [hk0]; show putK _ d = _; rw [putK_nz hd0]; rfl)
                have HNZ := Lib.hid (show NzN (stepA (sumA l ((a : Int), x, y) jt) d ve k) 50000000 from fun y hy => by
                  rw [hk0] at hy
                  have := HBD.out.1 y hy
                  exact ⟨this.1, by omega, by omega⟩)
                have g0 : (d == 0) = false := by simp [hd0]
                have gd : 0 < d := by omega
                have gd2 : decide (0 < d) = true := decide_eq_true gd
                clear hk0 hd0
                by_cases hm0 : m = 0
                · subst hm0
                  have hnil : stepA (sumA l ((a : Int), x, y) jt) d ve k = [] := List.eq_nil_of_length_eq_zero HON.out
                  have HE := Lib.hid (show stepA (sumA l ((a : Int), x, y) jt) d ve (k + 1) = stepA (sumA l ((a : Int), x, y) jt) d ve k ++ [d] by rw [HM.out, hnil]; rfl)
                  have HL5 := Lib.hid (show (stepA (sumA l ((a : Int), x, y) jt) d ve (k + 1)).length = 0 + 1 by rw [HE.out, List.length_append, HON.out]; rfl)
                  go_wp2_with (first | go_skip | (at_builtin; refine wpList_append_own _ rfl _ _ 37 rfl (w1.heap.size) 3 i1 (.int .i64 0) 1 8 Try.underlying37 hj hy0 hy1 hy2 rfl (by decide) _ _ _ rfl (OwnN.alloc HO.out _) ⟨w2.heap.size, 0, none⟩ 1 1 [.int .i64 d] rfl rfl (int_news (by simp)) int_cells (by unfold maxLen; omega) (by omega) (by simp; omega) ?_; intro v5 w5 hown5 hgrow5 _; have HS := Lib.hid (OwnN.snoc hown5); have HB5 := Lib.hid ((hb.alloc hsz (.cells #[.int .i64 d] 3)).grown hgrow5 (by simp; omega) (fun q hq => (World.ownsRow.lt HO.out q hq).1)); obtain ⟨A5, c5, rfl, _⟩ := HS.out.read; clear hown5 hgrow5))
                  have HS2 := Lib.hid (show OwnN (w1.heap.size) w5 (.slice A5 (0 + 1) c5) (stepA (sumA l ((a : Int), x, y) jt) d ve (k + 1)) by
                    have := HS.out
                    rw [← HE.out, HL5.out] at this
                    exact this)
                  have HX := Lib.hid (show (stepA (sumA l ((a : Int), x, y) jt) d ve k ++ [d]).length = 0 + 1 by rw [List.length_append, HON.out]; rfl)
                  clear HS
                  go_wp2
                  go_roundw
                  case rel => exact ⟨k + 1, 0 + 1, A5, c5, by omega, by go_num, (by first | rfl | (rw [HX.out]) | (congr 1; omega)), HL5, HS2, HB5.out⟩
                  case measure => simp [intOf]; omega
                · have hm1 : (0 : Int) < (m : Int) := by omega
                  obtain ⟨o, v, hov, hom⟩ := last_form HON.out hm0
                  obtain ⟨j, hoj⟩ : ∃ j, o.length = j := ⟨_, rfl⟩
                  have hjm : j < m := by omega
                  have hj1 : (m : Int) - 1 = (j : Int) := by omega
                  obtain ⟨g, hA2, hgb, hgl⟩ : ∃ g, A2 = some ⟨g, 0, none⟩ ∧ (w1.heap.size) ≤ g ∧ g < w2.heap.size := by
                    obtain ⟨A', c', hA, hf, _⟩ := row_form (show w2.ownsRow (w1.heap.size) 3 1 (.slice A2 m c2) (stepA (sumA l ((a : Int), x, y) jt) d ve k).length _ from HO.out)
                    injection hA with h1 h2 h3
                    obtain ⟨g, hg1, hg2, hg3⟩ := hf (by rw [HON.out]; exact hm0)
                    exact ⟨g, h1.trans hg1, hg2, hg3⟩
                  subst hA2
                  have hcell : w2.cell? ⟨g, j, none⟩ = some (.int .i64 v) := by
                    obtain ⟨A', c', hA, hrd⟩ := HO.out.read
                    injection hA with h1 h2 h3
                    subst h1
                    obtain ⟨b', off', x', hA', _, hc', hx'⟩ := hrd.at_ (k := j) (by rw [HON.out]; exact hjm)
                    simp only [Option.some.injEq, Addr.mk.injEq, and_true] at hA'
                    obtain ⟨rfl, rfl⟩ := hA'
                    rw [Nat.zero_add] at hc'
                    rw [hc']
                    have := hx'.out
                    rw [hov, ← hoj, List.getElem?_append_right (Nat.le_refl _), Nat.sub_self] at this
                    have h4 : v = x' := by simpa using this
                    rw [h4]
                  have hfree : w2.frozen? ⟨g, j, none⟩ = false := (row_some (show w2.ownsRow (w1.heap.size) 3 1 (.slice (some ⟨g, 0, none⟩) m c2) m _ by have := HO.out; unfold OwnN at this; rw [HON.out] at this; exact this)).2.2 j
                  obtain ⟨v0, v1, v2⟩ := HNZ.out v (by rw [hov]; simp)
                  by_cases hv : 0 < v
                  · have hv' : decide (0 < v) = true := decide_eq_true hv
                    have HE := Lib.hid (show stepA (sumA l ((a : Int), x, y) jt) d ve (k + 1) = o ++ [v + d] by rw [HM.out, hov, putN_same o (by omega)])
                    have HL5 := Lib.hid (show (stepA (sumA l ((a : Int), x, y) jt) d ve (k + 1)).length = m by rw [HE.out, List.length_append]; exact hom)
                    have hv1 : -9223372036854775808 ≤ v + d ∧ v + d ≤ 9223372036854775807 := by omega
                    obtain ⟨hv2, hv3⟩ := hv1
                    have HO6 := Lib.hid (show OwnN (w1.heap.size) (w2.setCell ⟨g, j, none⟩ (.int .i64 (v + d))) (.slice (some ⟨g, 0, none⟩) m c2) (stepA (sumA l ((a : Int), x, y) jt) d ve (k + 1)) by
                      rw [HE.out]
                      have := OwnN.set (o := o) (v := v) (by rw [← hov]; exact HO.out) hom.symm (v + d)
                      rw [hoj] at this
                      exact this)
                    have HB6 := Lib.hid (show Below (w1.heap.size) w1 (w2.setCell ⟨g, j, none⟩ (.int .i64 (v + d))) from hb.setCell (show (w1.heap.size) ≤ g from hgb) _)
                    go_wp2_with go_skip
                    go_roundw
                    case rel => exact ⟨k + 1, m, (some ⟨g, 0, none⟩), c2, by omega, by go_num, rfl, HL5, HO6, HB6.out⟩
                    case measure => simp [intOf]; omega
                  · have hv' : decide (0 < v) = false := decide_eq_false hv
                    have HE := Lib.hid (show stepA (sumA l ((a : Int), x, y) jt) d ve (k + 1) = stepA (sumA l ((a : Int), x, y) jt) d ve k ++ [d] by rw [HM.out, hov, putN_other o (by omega)])
                    have HL5 := Lib.hid (show (stepA (sumA l ((a : Int), x, y) jt) d ve (k + 1)).length = m + 1 by rw [HE.out, List.length_append, HON.out]; rfl)
                    go_wp2_with (first | go_skip | (at_builtin; refine wpList_append_own _ rfl _ _ 37 rfl (w1.heap.size) 3 i1 (.int .i64 0) 1 8 Try.underlying37 hj hy0 hy1 hy2 rfl (by decide) _ _ _ rfl (OwnN.alloc HO.out _) ⟨w2.heap.size, 0, none⟩ 1 1 [.int .i64 d] rfl rfl (int_news (by simp)) int_cells (by unfold maxLen; omega) (by omega) (by simp; omega) ?_; intro v5 w5 hown5 hgrow5 _; have HS := Lib.hid (OwnN.snoc hown5); have HB5 := Lib.hid ((hb.alloc hsz (.cells #[.int .i64 d] 3)).grown hgrow5 (by simp; omega) (fun q hq => (World.ownsRow.lt HO.out q hq).1)); obtain ⟨A5, c5, rfl, _⟩ := HS.out.read; clear hown5 hgrow5))
                    have HS2 := Lib.hid (show OwnN (w1.heap.size) w5 (.slice A5 (m + 1) c5) (stepA (sumA l ((a : Int), x, y) jt) d ve (k + 1)) by
                      have := HS.out
                      rw [← HE.out, HL5.out] at this
                      exact this)
                    have HX := Lib.hid (show (stepA (sumA l ((a : Int), x, y) jt) d ve k ++ [d]).length = m + 1 by rw [List.length_append, HON.out]; rfl)
                    clear HS
                    go_wp2
                    go_roundw
                    case rel => exact ⟨k + 1, m + 1, A5, c5, by omega, by go_num, (by first | rfl | (rw [HX.out]) | (congr 1; omega)), HL5, HS2, HB5.out⟩
                    case measure => simp [intOf]; omega
            · have hk1 : k = 1 := by omega
              have g1 : ((k : Int) == 1) = true := by simp [hk1]
              have gk : (k : Int) < 2 := by omega
              by_cases hv0 : ve = 0
              · have HE := Lib.hid (show stepA (sumA l ((a : Int), x, y) jt) d ve (k + 1) = stepA (sumA l ((a : Int), x, y) jt) d ve k by rw [hk1]; show putK (putK _ d) (-ve) = _; rw [hv0]; exact if_pos rfl)
                have g0 : (-ve == 0) = true := by simp [hv0]
                have g00 : (ve == 0) = true := by simp [hv0]
                clear hk0 hk1 hv0
                go_wp2_with go_skip
                go_roundw
                case rel => exact ⟨k + 1, m, A2, c2, by omega, by go_num, rfl, Lib.hid (by rw [HE.out]; exact HON.out), Lib.hid (by rw [HE.out]; exact HO.out), hb⟩
                case measure => simp [intOf]; omega
              · have HM := Lib.hid (show stepA (sumA l ((a : Int), x, y) jt) d ve (k + 1) = putN (stepA (sumA l ((a : Int), x, y) jt) d ve k) (-ve) by rw [hk1]; show putK (putK _ d) (-ve) = _; rw [putK_nz (show -ve ≠ 0 by omega)]; rfl)
                have HNZ := Lib.hid (show NzN (stepA (sumA l ((a : Int), x, y) jt) d ve k) 50000000 from fun y hy => by
                  rw [hk1] at hy
                  have := putK_bd HBD.out.1 (x := d) (d := 10080) (by omega) (by omega) y hy
                  exact ⟨this.1, by omega, by omega⟩)
                have g0 : (-ve == 0) = false := by simp; omega
                have g00 : (ve == 0) = false := by simp [hv0]
                have gd : -ve < 0 := by omega
                have gd2 : decide (0 < -ve) = false := decide_eq_false (by omega)
                have gd3 : decide (ve < 0) = false := decide_eq_false (by omega)
                clear hk0 hk1 hv0
                by_cases hm0 : m = 0
                · subst hm0
                  have hnil : stepA (sumA l ((a : Int), x, y) jt) d ve k = [] := List.eq_nil_of_length_eq_zero HON.out
                  have HE := Lib.hid (show stepA (sumA l ((a : Int), x, y) jt) d ve (k + 1) = stepA (sumA l ((a : Int), x, y) jt) d ve k ++ [(-ve)] by rw [HM.out, hnil]; rfl)
                  have HL5 := Lib.hid (show (stepA (sumA l ((a : Int), x, y) jt) d ve (k + 1)).length = 0 + 1 by rw [HE.out, List.length_append, HON.out]; rfl)
                  go_wp2_with (first | go_skip | (at_builtin; refine wpList_append_own _ rfl _ _ 37 rfl (w1.heap.size) 3 i1 (.int .i64 0) 1 8 Try.underlying37 hj hy0 hy1 hy2 rfl (by decide) _ _ _ rfl (OwnN.alloc HO.out _) ⟨w2.heap.size, 0, none⟩ 1 1 [.int .i64 (-ve)] rfl rfl (int_news (by simp)) int_cells (by unfold maxLen; omega) (by omega) (by simp; omega) ?_; intro v5 w5 hown5 hgrow5 _; have HS := Lib.hid (OwnN.snoc hown5); have HB5 := Lib.hid ((hb.alloc hsz (.cells #[.int .i64 (-ve)] 3)).grown hgrow5 (by simp; omega) (fun q hq => (World.ownsRow.lt HO.out q hq).1)); obtain ⟨A5, c5, rfl, _⟩ := HS.out.read; clear hown5 hgrow5))
                  have HS2 := Lib.hid (show OwnN (w1.heap.size) w5 (.slice A5 (0 + 1) c5) (stepA (sumA l ((a : Int), x, y) jt) d ve (k + 1)) by
                    have := HS.out
                    rw [← HE.out, HL5.out] at this
                    exact this)
                  have HX := Lib.hid (show (stepA (sumA l ((a : Int), x, y) jt) d ve k ++ [(-ve)]).length = 0 + 1 by rw [List.length_append, HON.out]; rfl)
                  clear HS
                  go_wp2
                  go_roundw
                  case rel => exact ⟨k + 1, 0 + 1, A5, c5, by omega, by go_num, (by first | rfl | (rw [HX.out]) | (congr 1; omega)), HL5, HS2, HB5.out⟩
                  case measure => simp [intOf]; omega
                · have hm1 : (0 : Int) < (m : Int) := by omega
                  obtain ⟨o, v, hov, hom⟩ := last_form HON.out hm0
                  obtain ⟨j, hoj⟩ : ∃ j, o.length = j := ⟨_, rfl⟩
                  have hjm : j < m := by omega
                  have hj1 : (m : Int) - 1 = (j : Int) := by omega
                  obtain ⟨g, hA2, hgb, hgl⟩ : ∃ g, A2 = some ⟨g, 0, none⟩ ∧ (w1.heap.size) ≤ g ∧ g < w2.heap.size := by
                    obtain ⟨A', c', hA, hf, _⟩ := row_form (show w2.ownsRow (w1.heap.size) 3 1 (.slice A2 m c2) (stepA (sumA l ((a : Int), x, y) jt) d ve k).length _ from HO.out)
                    injection hA with h1 h2 h3
                    obtain ⟨g, hg1, hg2, hg3⟩ := hf (by rw [HON.out]; exact hm0)
                    exact ⟨g, h1.trans hg1, hg2, hg3⟩
                  subst hA2
                  have hcell : w2.cell? ⟨g, j, none⟩ = some (.int .i64 v) := by
                    obtain ⟨A', c', hA, hrd⟩ := HO.out.read
                    injection hA with h1 h2 h3
                    subst h1
                    obtain ⟨b', off', x', hA', _, hc', hx'⟩ := hrd.at_ (k := j) (by rw [HON.out]; exact hjm)
                    simp only [Option.some.injEq, Addr.mk.injEq, and_true] at hA'
                    obtain ⟨rfl, rfl⟩ := hA'
                    rw [Nat.zero_add] at hc'
                    rw [hc']
                    have := hx'.out
                    rw [hov, ← hoj, List.getElem?_append_right (Nat.le_refl _), Nat.sub_self] at this
                    have h4 : v = x' := by simpa using this
                    rw [h4]
                  have hfree : w2.frozen? ⟨g, j, none⟩ = false := (row_some (show w2.ownsRow (w1.heap.size) 3 1 (.slice (some ⟨g, 0, none⟩) m c2) m _ by have := HO.out; unfold OwnN at this; rw [HON.out] at this; exact this)).2.2 j
                  obtain ⟨v0, v1, v2⟩ := HNZ.out v (by rw [hov]; simp)
                  by_cases hv : 0 < v
                  · have hv' : decide (0 < v) = true := decide_eq_true hv
                    have HE := Lib.hid (show stepA (sumA l ((a : Int), x, y) jt) d ve (k + 1) = stepA (sumA l ((a : Int), x, y) jt) d ve k ++ [(-ve)] by rw [HM.out, hov, putN_other o (by omega)])
                    have HL5 := Lib.hid (show (stepA (sumA l ((a : Int), x, y) jt) d ve (k + 1)).length = m + 1 by rw [HE.out, List.length_append, HON.out]; rfl)
                    go_wp2_with (first | go_skip | (at_builtin; refine wpList_append_own _ rfl _ _ 37 rfl (w1.heap.size) 3 i1 (.int .i64 0) 1 8 Try.underlying37 hj hy0 hy1 hy2 rfl (by decide) _ _ _ rfl (OwnN.alloc HO.out _) ⟨w2.heap.size, 0, none⟩ 1 1 [.int .i64 (-ve)] rfl rfl (int_news (by simp)) int_cells (by unfold maxLen; omega) (by omega) (by simp; omega) ?_; intro v5 w5 hown5 hgrow5 _; have HS := Lib.hid (OwnN.snoc hown5); have HB5 := Lib.hid ((hb.alloc hsz (.cells #[.int .i64 (-ve)] 3)).grown hgrow5 (by simp; omega) (fun q hq => (World.ownsRow.lt HO.out q hq).1)); obtain ⟨A5, c5, rfl, _⟩ := HS.out.read; clear hown5 hgrow5))
                    have HS2 := Lib.hid (show OwnN (w1.heap.size) w5 (.slice A5 (m + 1) c5) (stepA (sumA l ((a : Int), x, y) jt) d ve (k + 1)) by
                      have := HS.out
                      rw [← HE.out, HL5.out] at this
                      exact this)
                    have HX := Lib.hid (show (stepA (sumA l ((a : Int), x, y) jt) d ve k ++ [(-ve)]).length = m + 1 by rw [List.length_append, HON.out]; rfl)
                    clear HS
                    go_wp2
                    go_roundw
                    case rel => exact ⟨k + 1, m + 1, A5, c5, by omega, by go_num, (by first | rfl | (rw [HX.out]) | (congr 1; omega)), HL5, HS2, HB5.out⟩
                    case measure => simp [intOf]; omega
                  · have hv' : decide (0 < v) = false := decide_eq_false hv
                    have HE := Lib.hid (show stepA (sumA l ((a : Int), x, y) jt) d ve (k + 1) = o ++ [v + (-ve)] by rw [HM.out, hov, putN_same o (by omega)])
                    have HL5 := Lib.hid (show (stepA (sumA l ((a : Int), x, y) jt) d ve (k + 1)).length = m by rw [HE.out, List.length_append]; exact hom)
                    have hv1 : -9223372036854775808 ≤ v + (-ve) ∧ v + (-ve) ≤ 9223372036854775807 := by omega
                    obtain ⟨hv2, hv3⟩ := hv1
                    have HO6 := Lib.hid (show OwnN (w1.heap.size) (w2.setCell ⟨g, j, none⟩ (.int .i64 (v + (-ve)))) (.slice (some ⟨g, 0, none⟩) m c2) (stepA (sumA l ((a : Int), x, y) jt) d ve (k + 1)) by
                      rw [HE.out]
                      have := OwnN.set (o := o) (v := v) (by rw [← hov]; exact HO.out) hom.symm (v + (-ve))
                      rw [hoj] at this
                      exact this)
                    have HB6 := Lib.hid (show Below (w1.heap.size) w1 (w2.setCell ⟨g, j, none⟩ (.int .i64 (v + (-ve)))) from hb.setCell (show (w1.heap.size) ≤ g from hgb) _)
                    go_wp2_with go_skip
                    go_roundw
                    case rel => exact ⟨k + 1, m, (some ⟨g, 0, none⟩), c2, by omega, by go_num, rfl, HL5, HO6, HB6.out⟩
                    case measure => simp [intOf]; omega
          · have hk3 : k = 2 := by omega
            have HE := Lib.hid (show sumA l ((a : Int), x, y) (jt + 1) = stepA (sumA l ((a : Int), x, y) jt) d ve k by rw [hk3, ← HD.out.1, ← HD.out.2]; rfl)
            have gk : (2 : Int) ≤ (k : Int) := by omega
            clear hk3
            go_wp2
            go_roundw
            case rel => exact ⟨jt + 1, m, A2, c2, by have := HI.out; omega, by have := HI.out; first | (congr 1; omega) | go_num, rfl, Lib.hid (by rw [HE.out]; exact HON.out), Lib.hid (by rw [HE.out]; exact HO.out), hb⟩
            case measure => have := HI.out; simp [intOf]; omega
    · have HE := Lib.hid (show sumT l ((a : Int), x, y) = sumA l ((a : Int), x, y) (jt) from (sumA_all (by simp) (by simp only; have := HN.out; omega)).symm)
      have hge : (n : Int) ≤ (ii : Int) := by omega
      have HM2 := Lib.hid (show m = M by rw [← HON.out, ← HE.out, HMM.out])
      clear hii
      go_wp2
      go_ret
      obtain ⟨A3, c3, hA, hrd⟩ := HO.out.read
      injection hA with h1 h2 h3
      exact ⟨A2, c2, by rw [HM2.out]; rfl, by rw [HE.out]; exact h1 ▸ hrd, HB0.out.trans (hb.mono HB0.out.size)⟩

end Go.Proofs.Ythiiipbfdgaemaa
