/- What is wrong with tasks or a spot, by the code; whether a spot is right, and which tasks are gone past, by the document. Conditions: the tasks can be read. -/
import Derived.Test.YtolbihfnogbjaaaRows
import Derived.Test.YtolbihfnogbjaaaBase
import Derived.Test.YtolbihfnogbjaaaZ2
import Derived.Test.YtolbihfnogbjaaaZ3
import Derived.Test.YtolbihfnogbjaaaZ1
import Derived.Test.YtolbihfnogbjaaaErrandLeaf
import Derived.Test.YtolbihfnogbjaaaErrandChk
import Derived.Test.YtolbihfnogbjaaaZ7
import Derived.Test.YtolbihfnogbjaaaErrandFits
import Derived.WalkKit
import Derived.WalkSpells
import Derived.WalkSmall
import Derived.Below
import Derived.Lib.Hide
import Derived.Outline
import Derived.Deep.DeepCutAuto
import Derived.OwnWalk
import Derived.BigQuiet
import Derived.Deep.QuietTactic
import Derived.Deep.LoopGhost
import Derived.WalkMore
namespace Go.Proofs.Ytolbihfnogbjaaa
open Go.RowKit

set_option maxRecDepth 20000 in
set_option maxHeartbeats 2000000 in
theorem spot19_any (A : Option Addr) (n c : Nat) (l : List Tk) (hn : l.length = n) (i x y : Int) (w : World) (h : RdK w A l) (hf : Few l) (hx : -9223372036854775808 ≤ x ∧ x ≤ 9223372036854775807) (hy : -9223372036854775808 ≤ y ∧ y ≤ 9223372036854775807) :
    Calls Try.prog 40 #[.slice A n c, .agg #[.int .i64 i, .int .i64 x, .int .i64 y]] w fun e w' => e = .returned (.int .i64 (spotV l (i, x, y))) ∧ Below w.heap.size w w' := by
  have CC := fun W (h : RdK W A l) => check19_any A n c l hn W h hf
  have HK := Lib.hid h
  by_cases c0 : checkT l = 0
  · rw [c0] at CC
    have CR := fun W (h : RdK W A l) => right19_any A n c l hn i x y W h (checkt_zero c0).1 hx hy
    obtain ⟨g, hg⟩ : ∃ g, decide (Fits l (i, x, y)) = g := ⟨_, rfl⟩
    rw [hg] at CR
    have HV := Lib.hid (show spotV l (i, x, y) = if g = true then 0 else 1 by
      cases g with
      | true => rw [spot_yes c0 (of_decide_eq_true hg)]; rfl
      | false => rw [spot_no c0 (of_decide_eq_false hg)]; rfl)
    clear hg c0 h hf hx hy hn
    rw [HV.out]
    cases g with
    | true =>
      go_enter Try.func40, Try.ntmps40
      go_wp2_with (first | (go_at_call 48; refine (CC _ (HK.out.below (by (repeat (first | exact Below.refl _ _ | (refine b_st ?_ (by first | (simp; done) | (simp; omega))) | (refine b_al ?_ (Nat.le_refl _) _) | refine b_dn ?_ | refine b_dr ?_ | (refine b_cl ?_ (Nat.le_refl _) (by assumption))))))).mono ?_; rintro e w1 ⟨rfl, hb1⟩; obtain ⟨hc1, hf1⟩ := bcell hb1; have hz1 := hb1.size; (try simp at hz1); have : w.heap.size < w1.heap.size := (by omega)) | (go_at_call 49; refine (CR _ (HK.out.below (by (repeat (first | exact Below.refl _ _ | (refine b_st ?_ (by first | (simp; done) | (simp; omega))) | (refine b_al ?_ (Nat.le_refl _) _) | refine b_dn ?_ | refine b_dr ?_ | (refine b_cl ?_ (Nat.le_refl _) (by assumption))))))).mono ?_; rintro e w2 ⟨rfl, hb2⟩))
      go_ret
      exact ⟨rfl, by (repeat (first | exact Below.refl _ _ | (refine b_st ?_ (by first | (simp; done) | (simp; omega))) | (refine b_al ?_ (Nat.le_refl _) _) | refine b_dn ?_ | refine b_dr ?_ | (refine b_cl ?_ (Nat.le_refl _) (by assumption))))⟩
    | false =>
      go_enter Try.func40, Try.ntmps40
      go_wp2_with (first | (go_at_call 48; refine (CC _ (HK.out.below (by (repeat (first | exact Below.refl _ _ | (refine b_st ?_ (by first | (simp; done) | (simp; omega))) | (refine b_al ?_ (Nat.le_refl _) _) | refine b_dn ?_ | refine b_dr ?_ | (refine b_cl ?_ (Nat.le_refl _) (by assumption))))))).mono ?_; rintro e w1 ⟨rfl, hb1⟩; obtain ⟨hc1, hf1⟩ := bcell hb1; have hz1 := hb1.size; (try simp at hz1); have : w.heap.size < w1.heap.size := (by omega)) | (go_at_call 49; refine (CR _ (HK.out.below (by (repeat (first | exact Below.refl _ _ | (refine b_st ?_ (by first | (simp; done) | (simp; omega))) | (refine b_al ?_ (Nat.le_refl _) _) | refine b_dn ?_ | refine b_dr ?_ | (refine b_cl ?_ (Nat.le_refl _) (by assumption))))))).mono ?_; rintro e w2 ⟨rfl, hb2⟩))
      go_ret
      exact ⟨rfl, by (repeat (first | exact Below.refl _ _ | (refine b_st ?_ (by first | (simp; done) | (simp; omega))) | (refine b_al ?_ (Nat.le_refl _) _) | refine b_dn ?_ | refine b_dr ?_ | (refine b_cl ?_ (Nat.le_refl _) (by assumption))))⟩
  · obtain ⟨e0, he⟩ : ∃ e0, checkT l = e0 := ⟨_, rfl⟩
    rw [he] at CC c0
    rw [spot_bad he c0]
    have hne : (e0 != 0) = true := by simp [c0]
    clear he c0 h hf hx hy hn
    go_enter Try.func40, Try.ntmps40
    go_wp2_with (go_at_call 48; refine (CC _ (HK.out.below (by (repeat (first | exact Below.refl _ _ | (refine b_st ?_ (by first | (simp; done) | (simp; omega))) | (refine b_al ?_ (Nat.le_refl _) _) | refine b_dn ?_ | refine b_dr ?_ | (refine b_cl ?_ (Nat.le_refl _) (by assumption))))))).mono ?_; rintro e w1 ⟨rfl, hb1⟩; obtain ⟨hc1, hf1⟩ := bcell hb1; have hz1 := hb1.size; (try simp at hz1); have : w.heap.size < w1.heap.size := (by omega))
    go_ret
    exact ⟨rfl, by (repeat (first | exact Below.refl _ _ | (refine b_st ?_ (by first | (simp; done) | (simp; omega))) | (refine b_al ?_ (Nat.le_refl _) _) | refine b_dn ?_ | refine b_dr ?_ | (refine b_cl ?_ (Nat.le_refl _) (by assumption))))⟩

set_option maxRecDepth 20000 in
set_option maxHeartbeats 2000000 in
theorem reffits19_any (A : Option Addr) (n c : Nat) (l : List Tk) (hn : l.length = n) (i x y : Int) (w : World) (h : RdK w A l) :
    Calls Try.prog 17 #[.slice A n c, .agg #[.int .i64 i, .int .i64 x, .int .i64 y]] w fun e w' => e = .returned (.bool (decide (Fits l (i, x, y)))) ∧ Below w.heap.size w w' := by
  by_cases c0 : i < 0
  case pos =>
    rw [decide_eq_false (show ¬ Fits l _ from fits_lo c0)]
    clear h hn
    go_enter Try.func17, Try.ntmps17
    go_wp2
    go_ret
    exact ⟨rfl, by (repeat (first | exact Below.refl _ _ | (refine b_st ?_ (by first | (simp; done) | (simp; omega))) | (refine b_al ?_ (Nat.le_refl _) _) | refine b_dn ?_ | refine b_dr ?_ | (refine b_cl ?_ (Nat.le_refl _) (by assumption))))⟩
  have m0 : 0 ≤ i := by omega
  clear c0
  by_cases c1 : (n : Int) < i
  case pos =>
    rw [decide_eq_false (show ¬ Fits l _ from fits_hi (by omega))]
    clear h hn
    go_enter Try.func17, Try.ntmps17
    go_wp2
    go_ret
    exact ⟨rfl, by (repeat (first | exact Below.refl _ _ | (refine b_st ?_ (by first | (simp; done) | (simp; omega))) | (refine b_al ?_ (Nat.le_refl _) _) | refine b_dn ?_ | refine b_dr ?_ | (refine b_cl ?_ (Nat.le_refl _) (by assumption))))⟩
  have m1 : i ≤ (n : Int) := by omega
  clear c1
  by_cases c2 : i = (n : Int)
  case pos =>
    have FE := fits_end (l := l) (i := i) (x := x) (y := y) (by rw [hn]; exact c2)
    have e0 : (i == (n : Int)) = true := by simp [c2]
    by_cases c3 : x = 0
    · have e1 : (x == 0) = true := by simp [c3]
      by_cases c4 : y = 0
      · have e2 : (y == 0) = true := by simp [c4]
        rw [decide_eq_true (show Fits l _ from (FE.2 ⟨c3, c4⟩))]
        clear FE c2 c3 c4
        clear h hn
        go_enter Try.func17, Try.ntmps17
        go_wp2
        go_ret
        exact ⟨rfl, by (repeat (first | exact Below.refl _ _ | (refine b_st ?_ (by first | (simp; done) | (simp; omega))) | (refine b_al ?_ (Nat.le_refl _) _) | refine b_dn ?_ | refine b_dr ?_ | (refine b_cl ?_ (Nat.le_refl _) (by assumption))))⟩
      · have e2 : (y == 0) = false := by simp [c4]
        rw [decide_eq_false (show ¬ Fits l _ from (fun k => c4 (FE.1 k).2))]
        clear FE c2 c3 c4
        clear h hn
        go_enter Try.func17, Try.ntmps17
        go_wp2
        go_ret
        exact ⟨rfl, by (repeat (first | exact Below.refl _ _ | (refine b_st ?_ (by first | (simp; done) | (simp; omega))) | (refine b_al ?_ (Nat.le_refl _) _) | refine b_dn ?_ | refine b_dr ?_ | (refine b_cl ?_ (Nat.le_refl _) (by assumption))))⟩
    · have e1 : (x == 0) = false := by simp [c3]
      rw [decide_eq_false (show ¬ Fits l _ from (fun k => c3 (FE.1 k).1))]
      clear FE c2 c3
      clear h hn
      go_enter Try.func17, Try.ntmps17
      go_wp2
      go_ret
      exact ⟨rfl, by (repeat (first | exact Below.refl _ _ | (refine b_st ?_ (by first | (simp; done) | (simp; omega))) | (refine b_al ?_ (Nat.le_refl _) _) | refine b_dn ?_ | refine b_dr ?_ | (refine b_cl ?_ (Nat.le_refl _) (by assumption))))⟩
  obtain ⟨k, rfl⟩ : ∃ k : Nat, i = k := ⟨i.toNat, by omega⟩
  have hk : k < n := by omega
  have e0 : ((k : Int) == (n : Int)) = false := by simp; omega
  obtain ⟨b, off, d, v, B, m, q, rfl, hb, h0, h1, h2, hs⟩ := h.at_ (k := k) (by omega)
  obtain ⟨o, ho, _, _⟩ := hs.out
  have hd : (tk l k).1 = d := by rw [show tk l (k : Int) = (d, v, o) from ho]
  have hv : (tk l k).2.1 = v := by rw [show tk l (k : Int) = (d, v, o) from ho]
  have FI := fits_in (l := l) (k := k) (x := x) (y := y) (by omega) hd hv
  clear hd hv ho hs c2
  by_cases q0 : x < 0
  case pos =>
    rw [decide_eq_false (show ¬ Fits l _ from (fun k => by have := FI.1 k; omega))]
    clear FI
    clear h hn
    go_enter Try.func17, Try.ntmps17
    go_wp2
    go_ret
    exact ⟨rfl, by (repeat (first | exact Below.refl _ _ | (refine b_st ?_ (by first | (simp; done) | (simp; omega))) | (refine b_al ?_ (Nat.le_refl _) _) | refine b_dn ?_ | refine b_dr ?_ | (refine b_cl ?_ (Nat.le_refl _) (by assumption))))⟩
  have n0 : 0 ≤ x := by omega
  clear q0
  by_cases q1 : d < x
  case pos =>
    rw [decide_eq_false (show ¬ Fits l _ from (fun k => by have := FI.1 k; omega))]
    clear FI
    clear h hn
    go_enter Try.func17, Try.ntmps17
    go_wp2
    go_ret
    exact ⟨rfl, by (repeat (first | exact Below.refl _ _ | (refine b_st ?_ (by first | (simp; done) | (simp; omega))) | (refine b_al ?_ (Nat.le_refl _) _) | refine b_dn ?_ | refine b_dr ?_ | (refine b_cl ?_ (Nat.le_refl _) (by assumption))))⟩
  have n1 : x ≤ d := by omega
  clear q1
  by_cases q2 : y < 0
  case pos =>
    rw [decide_eq_false (show ¬ Fits l _ from (fun k => by have := FI.1 k; omega))]
    clear FI
    clear h hn
    go_enter Try.func17, Try.ntmps17
    go_wp2
    go_ret
    exact ⟨rfl, by (repeat (first | exact Below.refl _ _ | (refine b_st ?_ (by first | (simp; done) | (simp; omega))) | (refine b_al ?_ (Nat.le_refl _) _) | refine b_dn ?_ | refine b_dr ?_ | (refine b_cl ?_ (Nat.le_refl _) (by assumption))))⟩
  have n2 : 0 ≤ y := by omega
  clear q2
  by_cases q3 : v < y
  case pos =>
    rw [decide_eq_false (show ¬ Fits l _ from (fun k => by have := FI.1 k; omega))]
    clear FI
    clear h hn
    go_enter Try.func17, Try.ntmps17
    go_wp2
    go_ret
    exact ⟨rfl, by (repeat (first | exact Below.refl _ _ | (refine b_st ?_ (by first | (simp; done) | (simp; omega))) | (refine b_al ?_ (Nat.le_refl _) _) | refine b_dn ?_ | refine b_dr ?_ | (refine b_cl ?_ (Nat.le_refl _) (by assumption))))⟩
  have n3 : y ≤ v := by omega
  clear q3
  by_cases q5 : x = d
  · have e5 : (x == d) = true := by simp [q5]
    by_cases q6 : y = v
    · have e6 : (y == v) = true := by simp [q6]
      by_cases q4 : y = 0
      · have e4 : (y == 0) = true := by simp [q4]
        rw [decide_eq_false (show ¬ Fits l _ from (fun k => by have := FI.1 k; omega))]
        clear FI
        try clear q4
        try clear q5
        try clear q6
        clear h hn
        go_enter Try.func17, Try.ntmps17
        go_wp2
        go_ret
        exact ⟨rfl, by (repeat (first | exact Below.refl _ _ | (refine b_st ?_ (by first | (simp; done) | (simp; omega))) | (refine b_al ?_ (Nat.le_refl _) _) | refine b_dn ?_ | refine b_dr ?_ | (refine b_cl ?_ (Nat.le_refl _) (by assumption))))⟩
      · have e4 : (y == 0) = false := by simp [q4]
        rw [decide_eq_false (show ¬ Fits l _ from (fun k => by have := FI.1 k; omega))]
        clear FI
        try clear q4
        try clear q5
        try clear q6
        clear h hn
        go_enter Try.func17, Try.ntmps17
        go_wp2
        go_ret
        exact ⟨rfl, by (repeat (first | exact Below.refl _ _ | (refine b_st ?_ (by first | (simp; done) | (simp; omega))) | (refine b_al ?_ (Nat.le_refl _) _) | refine b_dn ?_ | refine b_dr ?_ | (refine b_cl ?_ (Nat.le_refl _) (by assumption))))⟩
    · have e6 : (y == v) = false := by simp [q6]
      by_cases q4 : y = 0
      · have e4 : (y == 0) = true := by simp [q4]
        rw [decide_eq_true (show Fits l _ from (FI.2 (by omega)))]
        clear FI
        try clear q4
        try clear q5
        try clear q6
        clear h hn
        go_enter Try.func17, Try.ntmps17
        go_wp2
        go_ret
        exact ⟨rfl, by (repeat (first | exact Below.refl _ _ | (refine b_st ?_ (by first | (simp; done) | (simp; omega))) | (refine b_al ?_ (Nat.le_refl _) _) | refine b_dn ?_ | refine b_dr ?_ | (refine b_cl ?_ (Nat.le_refl _) (by assumption))))⟩
      · have e4 : (y == 0) = false := by simp [q4]
        rw [decide_eq_true (show Fits l _ from (FI.2 (by omega)))]
        clear FI
        try clear q4
        try clear q5
        try clear q6
        clear h hn
        go_enter Try.func17, Try.ntmps17
        go_wp2
        go_ret
        exact ⟨rfl, by (repeat (first | exact Below.refl _ _ | (refine b_st ?_ (by first | (simp; done) | (simp; omega))) | (refine b_al ?_ (Nat.le_refl _) _) | refine b_dn ?_ | refine b_dr ?_ | (refine b_cl ?_ (Nat.le_refl _) (by assumption))))⟩
  · have e5 : (x == d) = false := by simp [q5]
    by_cases q4 : y = 0
    · have e4 : (y == 0) = true := by simp [q4]
      rw [decide_eq_true (show Fits l _ from (FI.2 (by omega)))]
      clear FI
      try clear q4
      try clear q5
      try clear q6
      clear h hn
      go_enter Try.func17, Try.ntmps17
      go_wp2
      go_ret
      exact ⟨rfl, by (repeat (first | exact Below.refl _ _ | (refine b_st ?_ (by first | (simp; done) | (simp; omega))) | (refine b_al ?_ (Nat.le_refl _) _) | refine b_dn ?_ | refine b_dr ?_ | (refine b_cl ?_ (Nat.le_refl _) (by assumption))))⟩
    · have e4 : (y == 0) = false := by simp [q4]
      rw [decide_eq_false (show ¬ Fits l _ from (fun k => by have := FI.1 k; omega))]
      clear FI
      try clear q4
      try clear q5
      try clear q6
      clear h hn
      go_enter Try.func17, Try.ntmps17
      go_wp2
      go_ret
      exact ⟨rfl, by (repeat (first | exact Below.refl _ _ | (refine b_st ?_ (by first | (simp; done) | (simp; omega))) | (refine b_al ?_ (Nat.le_refl _) _) | refine b_dn ?_ | refine b_dr ?_ | (refine b_cl ?_ (Nat.le_refl _) (by assumption))))⟩

set_option maxRecDepth 20000 in
set_option maxHeartbeats 2000000 in
theorem refpast19_any (A : Option Addr) (n c : Nat) (l : List Tk) (hn : l.length = n) (i x y : Int) (w : World) (h : RdK w A l) (hl : n ≤ 4611686018427387904) (ok : ∀ t ∈ l, TkOk t) (hs : Near l (i, x, y)) :
    Calls Try.prog 39 #[.slice A n c, .agg #[.int .i64 i, .int .i64 x, .int .i64 y]] w fun e w' => e = .returned (.agg (sp3 (pastT l (i, x, y)))) ∧ Below w.heap.size w w' := by
  obtain ⟨P, hP⟩ : ∃ P, pastT l (i, x, y) = P := ⟨_, rfl⟩
  rw [hP]
  have OK := Lib.hid ok
  have HN := Lib.hid hn
  have h0 : 0 ≤ i := hs.1
  have h1 : i ≤ n := by have := hs.2.1; rw [hn] at this; exact this
  obtain ⟨k, rfl⟩ : ∃ k : Nat, i = k := ⟨i.toNat, by omega⟩
  have HS := Lib.hid hs
  have HP := Lib.hid hP
  have HK := Lib.hid h
  clear h0 hs hP ok h hn
  have X1 : Bx ((w.alloc (.cells #[.int .i64 k, .int .i64 x, .int .i64 y] 28)).alloc (.cells #[.int .i64 0, .int .i64 0, .int .i64 0] 28)) w.heap.size 28 #[.int .i64 k, .int .i64 x, .int .i64 y] := (Bx.new (W := w) _ _ rfl).alloc _
  have X2 : Bx ((w.alloc (.cells #[.int .i64 k, .int .i64 x, .int .i64 y] 28)).alloc (.cells #[.int .i64 0, .int .i64 0, .int .i64 0] 28)) (w.heap.size + 1) 28 #[.int .i64 0, .int .i64 0, .int .i64 0] := Bx.new (W := w.alloc (.cells #[.int .i64 k, .int .i64 x, .int .i64 y] 28)) _ _ (by simp)
  have HX1 := Lib.hid X1
  have HX2 := Lib.hid X2
  clear X1 X2
  go_enter Try.func39, Try.ntmps39
  go_wp2
  go_loopg [5] (n - k) (fun g s5 wr => ∃ (k : Nat) (x y : Int), k + g = n ∧ Hid (Near l (k, x, y)) ∧ Hid (pastT l (k, x, y) = P) ∧ Bx wr w.heap.size 28 #[.int .i64 k, .int .i64 x, .int .i64 y] ∧ Bx wr (w.heap.size + 1) 28 #[.int .i64 0, .int .i64 0, .int .i64 0] ∧ Below w.heap.size w wr)
  case atStart => exact ⟨k, x, y, by omega, HS, HP, HX1.out, HX2.out, by (repeat (first | exact Below.refl _ _ | (refine b_st ?_ (by first | (simp; done) | (simp; omega))) | (refine b_al ?_ (Nat.le_refl _) _) | refine b_dn ?_ | refine b_dr ?_ | (refine b_cl ?_ (Nat.le_refl _) (by assumption))))⟩
  case round =>
    clear HS HP HX1 HX2 h1
    obtain ⟨k, x, y, hg, HS, HP, B1, B2, hb⟩ := hrel
    have hsz := hb.size
    have p0 := B1.cell (k := 0) rfl
    have p1 := B1.cell (k := 1) rfl
    have p2 := B1.cell (k := 2) rfl
    have lt1 := B1.lt
    have lt2 := B2.lt
    by_cases hk : k < n
    · obtain ⟨b, off, d, v, B, m, q, rfl, hbb, r0, r1, r2, hs⟩ := (HK.out.below hb).at_ (k := k) (by rw [HN.out]; exact hk)
      obtain ⟨o, ho, _, _⟩ := hs.out
      have HF := Lib.hid (show Full l (k, x, y) ↔ x = d ∧ y = v by
        have := HN.out
        unfold Full; dsimp only
        rw [show tk l (k : Int) = (d, v, o) from ho]
        exact ⟨fun c => c.2, fun c => ⟨by omega, c⟩⟩)
      have d0 : decide ((k : Int) < (n : Int)) = true := decide_eq_true (by omega)
      clear hs ho r2
      by_cases hx : x = d
      · have e1 : (x == d) = true := by simp [hx]
        by_cases hy : y = v
        · have e2 : (y == v) = true := by simp [hy]
          have NS := Lib.hid (HS.out.move OK.out (HF.out.2 ⟨hx, hy⟩))
          have NP := Lib.hid ((pastT_move (HF.out.2 ⟨hx, hy⟩)).symm.trans HP.out)
          clear HF HS HP hx hy
          go_wp2
          go_quiet (fail)
          have D1 := B1.drewN (n := nq)
          have D2 := B2.drewN (n := nq)
          go_wp2_with (refine wpList_store_box rfl 28 _ _ rfl (w.heap.size) #[.int .i64 ((k : Int) + 1), .int .i64 0, .int .i64 0] rfl rfl 28 _ (D1) size_spot rfl (one3 _ _ _) (fun w4 u4 => ?_))
          go_roundg (n - (k + 1))
          case measure => omega
          case rel => exact ⟨k + 1, 0, 0, by omega, NS, NP, u4.box, u4.bx D2 (by omega), (b_dn hb).trans (u4.bel _ (Nat.le_refl _))⟩
        · have e2 : (y == v) = false := by simp [hy]
          have NP := Lib.hid ((pastT_still (fun c => hy (HF.out.1 c).2)).symm.trans HP.out)
          clear HF HS HP hx hy
          go_wp2
          go_quiet (fail)
          have D1 := B1.drewN (n := nq)
          have D2 := B2.drewN (n := nq)
          clear p0 p1 p2
          go_wp2_with (first
            | refine wpList_load_box (by rfl) 28 _ rfl (w.heap.size) rfl 28 #[.int .i64 k, .int .i64 x, .int .i64 y] _ (D1) Try.underlying28 rfl size_spot ?_
            | (refine wpList_store_box rfl 28 _ _ rfl (w.heap.size + 1) #[.int .i64 k, .int .i64 x, .int .i64 y] rfl rfl 28 _ (D2) size_spot rfl (one3 _ _ _) (fun w4 u4 => ?_)))
          refine bodyPost_ret (v := .agg #[.int .i64 k, .int .i64 x, .int .i64 y]) (results_box1 Try.results39 _ _ (w.heap.size + 1) 28 #[.int .i64 k, .int .i64 x, .int .i64 y] _ rfl u4.box Try.underlying28 rfl size_spot) rfl ⟨?_, ?_⟩
          · rw [← NP.out]; rfl
          · exact (b_dn hb).trans (u4.bel _ (by omega))
      · have e1 : (x == d) = false := by simp [hx]
        have NP := Lib.hid ((pastT_still (fun c => hx (HF.out.1 c).1)).symm.trans HP.out)
        clear HF HS HP hx
        go_wp2
        go_quiet (fail)
        have D1 := B1.drewN (n := nq)
        have D2 := B2.drewN (n := nq)
        clear p0 p1 p2
        go_wp2_with (first
          | refine wpList_load_box (by rfl) 28 _ rfl (w.heap.size) rfl 28 #[.int .i64 k, .int .i64 x, .int .i64 y] _ (D1) Try.underlying28 rfl size_spot ?_
          | (refine wpList_store_box rfl 28 _ _ rfl (w.heap.size + 1) #[.int .i64 k, .int .i64 x, .int .i64 y] rfl rfl 28 _ (D2) size_spot rfl (one3 _ _ _) (fun w4 u4 => ?_)))
        refine bodyPost_ret (v := .agg #[.int .i64 k, .int .i64 x, .int .i64 y]) (results_box1 Try.results39 _ _ (w.heap.size + 1) 28 #[.int .i64 k, .int .i64 x, .int .i64 y] _ rfl u4.box Try.underlying28 rfl size_spot) rfl ⟨?_, ?_⟩
        · rw [← NP.out]; rfl
        · exact (b_dn hb).trans (u4.bel _ (by omega))
    · obtain rfl : k = n := by omega
      have NP := Lib.hid ((pastT_still (fun c : Full l (k, x, y) => by have := c.1; have := HN.out; simp only at *; omega)).symm.trans HP.out)
      have d0 : decide ((k : Int) < (k : Int)) = false := decide_eq_false (by omega)
      clear HS HP
      go_wp2
      go_quiet (fail)
      have D1 := B1.drewN (n := nq)
      have D2 := B2.drewN (n := nq)
      clear p0 p1 p2
      go_wp2_with (first
        | refine wpList_load_box (by rfl) 28 _ rfl (w.heap.size) rfl 28 #[.int .i64 k, .int .i64 x, .int .i64 y] _ (D1) Try.underlying28 rfl size_spot ?_
        | (refine wpList_store_box rfl 28 _ _ rfl (w.heap.size + 1) #[.int .i64 k, .int .i64 x, .int .i64 y] rfl rfl 28 _ (D2) size_spot rfl (one3 _ _ _) (fun w4 u4 => ?_)))
      refine bodyPost_ret (v := .agg #[.int .i64 k, .int .i64 x, .int .i64 y]) (results_box1 Try.results39 _ _ (w.heap.size + 1) 28 #[.int .i64 k, .int .i64 x, .int .i64 y] _ rfl u4.box Try.underlying28 rfl size_spot) rfl ⟨?_, ?_⟩
      · rw [← NP.out]; rfl
      · exact (b_dn hb).trans (u4.bel _ (by omega))

end Go.Proofs.Ytolbihfnogbjaaa
