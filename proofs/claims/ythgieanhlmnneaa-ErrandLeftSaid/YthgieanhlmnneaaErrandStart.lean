/- What Start, Right and Done of layer 19 return. Conditions: the tasks can be read. -/
import Derived.Test.YthgieanhlmnneaaRows
import Derived.Test.YthgieanhlmnneaaBase
import Derived.Test.YthgieanhlmnneaaRow
import Derived.Test.YthgieanhlmnneaaIvalsWords
import Derived.Test.YthgieanhlmnneaaWindowMath
import Derived.Test.YthgieanhlmnneaaErrandMath
import Derived.Test.YthgieanhlmnneaaErrandHeap
import Derived.Test.YthgieanhlmnneaaErrandMath2
import Derived.Test.YthgieanhlmnneaaRecMath
import Derived.Test.YthgieanhlmnneaaBox
import Derived.Test.YthgieanhlmnneaaErrandLeaf
import Derived.Test.YthgieanhlmnneaaErrandChk
import Derived.Test.YthgieanhlmnneaaErrandPast
import Derived.Test.YthgieanhlmnneaaErrandFits
import Derived.Test.YthgieanhlmnneaaErrandSpot
import Derived.WalkKit
import Derived.WalkSpells
import Derived.WalkSmall
import Derived.Below
import Derived.Lib.Hide
import Derived.Outline
import Derived.Deep.DeepCutAuto
import Derived.OwnWalk
import Derived.BigQuiet
import Derived.Deep.QuietTactic
import Derived.Deep.LoopGhost
import Derived.WalkMore
namespace Go.Proofs.Ythgieanhlmnneaa
open Go.RowKit

/-- Where tasks start. -/
def startV (l : List Tk) : Pt := if checkT l = 0 then pastT l (0, 0, 0) else (0, 0, 0)
theorem start_bad {l : List Tk} (h : checkT l ≠ 0) : startV l = (0, 0, 0) := if_neg h
theorem start_ok {l : List Tk} (h : checkT l = 0) : startV l = pastT l (0, 0, 0) := if_pos h
def doneV (l : List Tk) (s : Pt) : Bool := decide (spotV l s = 0) && decide (s.1 = (l.length : Int))

set_option maxRecDepth 20000 in
set_option maxHeartbeats 2000000 in
theorem start19_any (A : Option Addr) (n c : Nat) (l : List Tk) (hn : l.length = n) (w : World) (h : RdK w A l) (hf : Few l) :
    Calls Try.prog 10 #[.slice A n c] w fun e w' => e = .returned (.tuple #[.agg (sp3 (startV l)), .int .i64 (checkT l)]) ∧ Below w.heap.size w w' := by
  have CC := fun W (h : RdK W A l) => check19_any A n c l hn W h hf
  have HK := Lib.hid h
  by_cases c0 : checkT l = 0
  · have cz := checkt_zero c0
    have CP := fun W (h : RdK W A l) => past19_any A n c l hn 0 0 0 W h (by omega) cz.1 (fits_start cz.1)
    rw [start_ok c0]
    rw [c0] at CC ⊢
    obtain ⟨⟨p, q, r⟩, hP⟩ : ∃ P, pastT l (0, 0, 0) = P := ⟨_, rfl⟩
    rw [hP] at CP ⊢
    unfold sp3 at CP ⊢
    simp only at CP ⊢
    clear hP cz c0 h hf hn
    go_enter Try.func10, Try.ntmps10
    go_wp2_with (first
      | (go_at_call 13; refine (CC _ (HK.out.below (by (repeat (first | exact Below.refl _ _ | (refine b_st ?_ (by first | (simp; done) | (simp; omega))) | (refine b_al ?_ (Nat.le_refl _) _) | refine b_dn ?_ | refine b_dr ?_ | (refine b_cl ?_ (Nat.le_refl _) (by assumption))))))).mono ?_; rintro e w1 ⟨rfl, hb1⟩; have bx1 := (Bx.new (W := w) 24 #[.int .i64 0, .int .i64 0, .int .i64 0] rfl).below hb1; have hz1 := hb1.size; (try simp at hz1))
      | (go_at_call 23; refine (CP _ (HK.out.below (by (repeat (first | exact Below.refl _ _ | (refine b_st ?_ (by first | (simp; done) | (simp; omega))) | (refine b_al ?_ (Nat.le_refl _) _) | refine b_dn ?_ | refine b_dr ?_ | (refine b_cl ?_ (Nat.le_refl _) (by assumption))))))).mono ?_; rintro e w2 ⟨rfl, hb2⟩; have bx2 := bx1.below hb2; have hz2 := hb2.size)
      | (refine wpList_store_box rfl 24 _ _ rfl (w.heap.size) #[.int .i64 p, .int .i64 q, .int .i64 r] rfl rfl 24 _ (bx2) size_spot rfl (one3 _ _ _) (fun w3 u3 => ?_)))
    refine bodyPost_ret (v := .tuple #[.agg #[.int .i64 p, .int .i64 q, .int .i64 r], .int .i64 0]) (results_box2 Try.results10 _ _ w.heap.size 24 #[.int .i64 p, .int .i64 q, .int .i64 r] _ _ rfl u3.box rfl Try.underlying24 rfl size_spot) rfl ⟨rfl, ?_⟩
    exact (show Below w.heap.size w w2 by (repeat (first | exact Below.refl _ _ | (refine b_st ?_ (by first | (simp; done) | (simp; omega))) | (refine b_al ?_ (Nat.le_refl _) _) | refine b_dn ?_ | refine b_dr ?_ | (refine b_cl ?_ (Nat.le_refl _) (by assumption))))).trans (u3.bel _ (Nat.le_refl _))
  · rw [start_bad c0]
    obtain ⟨e0, he⟩ : ∃ e0, checkT l = e0 := ⟨_, rfl⟩
    rw [he] at CC c0 ⊢
    have hne : (e0 != 0) = true := by simp [c0]
    clear he c0 h hf hn
    go_enter Try.func10, Try.ntmps10
    go_wp2_with (first
      | (go_at_call 13; refine (CC _ (HK.out.below (by (repeat (first | exact Below.refl _ _ | (refine b_st ?_ (by first | (simp; done) | (simp; omega))) | (refine b_al ?_ (Nat.le_refl _) _) | refine b_dn ?_ | refine b_dr ?_ | (refine b_cl ?_ (Nat.le_refl _) (by assumption))))))).mono ?_; rintro e w1 ⟨rfl, hb1⟩; have bx1 := (Bx.new (W := w) 24 #[.int .i64 0, .int .i64 0, .int .i64 0] rfl).below hb1; have hz1 := hb1.size; (try simp at hz1))
      | (refine wpList_store_box rfl 24 _ _ rfl (w.heap.size) #[.int .i64 0, .int .i64 0, .int .i64 0] rfl rfl 24 _ (bx1) size_spot rfl (one3 _ _ _) (fun w3 u3 => ?_)))
    refine bodyPost_ret (v := .tuple #[.agg #[.int .i64 0, .int .i64 0, .int .i64 0], .int .i64 e0]) (results_box2 Try.results10 _ _ w.heap.size 24 #[.int .i64 0, .int .i64 0, .int .i64 0] _ _ rfl u3.box rfl Try.underlying24 rfl size_spot) rfl ⟨rfl, ?_⟩
    exact (show Below w.heap.size w w1 by (repeat (first | exact Below.refl _ _ | (refine b_st ?_ (by first | (simp; done) | (simp; omega))) | (refine b_al ?_ (Nat.le_refl _) _) | refine b_dn ?_ | refine b_dr ?_ | (refine b_cl ?_ (Nat.le_refl _) (by assumption))))).trans (u3.bel _ (Nat.le_refl _))

set_option maxRecDepth 20000 in
set_option maxHeartbeats 2000000 in
theorem rightE19_any (A : Option Addr) (n c : Nat) (l : List Tk) (hn : l.length = n) (i x y : Int) (w : World) (h : RdK w A l) (hf : Few l) (hx : -9223372036854775808 ≤ x ∧ x ≤ 9223372036854775807) (hy : -9223372036854775808 ≤ y ∧ y ≤ 9223372036854775807) :
    Calls Try.prog 14 #[.slice A n c, .agg #[.int .i64 i, .int .i64 x, .int .i64 y]] w fun e w' => e = .returned (.bool (decide (spotV l (i, x, y) = 0))) ∧ Below w.heap.size w w' := by
  have CS := fun W (h : RdK W A l) => spot19_any A n c l hn i x y W h hf hx hy
  have HK := Lib.hid h
  obtain ⟨e0, he⟩ : ∃ e0, spotV l (i, x, y) = e0 := ⟨_, rfl⟩
  rw [he] at CS ⊢
  clear he h hf hn hx hy
  by_cases c0 : e0 = 0
  · subst c0
    go_enter Try.func14, Try.ntmps14
    go_wp2_with (go_at_call 24; refine (CS _ (HK.out.below (by (repeat (first | exact Below.refl _ _ | (refine b_st ?_ (by first | (simp; done) | (simp; omega))) | (refine b_al ?_ (Nat.le_refl _) _) | refine b_dn ?_ | refine b_dr ?_ | (refine b_cl ?_ (Nat.le_refl _) (by assumption))))))).mono ?_; rintro e w1 ⟨rfl, hb1⟩)
    go_ret
    exact ⟨rfl, by (repeat (first | exact Below.refl _ _ | (refine b_st ?_ (by first | (simp; done) | (simp; omega))) | (refine b_al ?_ (Nat.le_refl _) _) | refine b_dn ?_ | refine b_dr ?_ | (refine b_cl ?_ (Nat.le_refl _) (by assumption))))⟩
  · rw [decide_eq_false c0]
    have hne : (e0 == 0) = false := by simp [c0]
    clear c0
    go_enter Try.func14, Try.ntmps14
    go_wp2_with (go_at_call 24; refine (CS _ (HK.out.below (by (repeat (first | exact Below.refl _ _ | (refine b_st ?_ (by first | (simp; done) | (simp; omega))) | (refine b_al ?_ (Nat.le_refl _) _) | refine b_dn ?_ | refine b_dr ?_ | (refine b_cl ?_ (Nat.le_refl _) (by assumption))))))).mono ?_; rintro e w1 ⟨rfl, hb1⟩)
    go_ret
    exact ⟨rfl, by (repeat (first | exact Below.refl _ _ | (refine b_st ?_ (by first | (simp; done) | (simp; omega))) | (refine b_al ?_ (Nat.le_refl _) _) | refine b_dn ?_ | refine b_dr ?_ | (refine b_cl ?_ (Nat.le_refl _) (by assumption))))⟩

set_option maxRecDepth 20000 in
set_option maxHeartbeats 2000000 in
theorem done19_any (A : Option Addr) (n c : Nat) (l : List Tk) (hn : l.length = n) (i x y : Int) (w : World) (h : RdK w A l) (hf : Few l) (hx : -9223372036854775808 ≤ x ∧ x ≤ 9223372036854775807) (hy : -9223372036854775808 ≤ y ∧ y ≤ 9223372036854775807) :
    Calls Try.prog 15 #[.slice A n c, .agg #[.int .i64 i, .int .i64 x, .int .i64 y]] w fun e w' => e = .returned (.bool (doneV l (i, x, y))) ∧ Below w.heap.size w w' := by
  have CR := fun W (h : RdK W A l) => rightE19_any A n c l hn i x y W h hf hx hy
  have HK := Lib.hid h
  unfold doneV
  rw [hn]
  dsimp only
  obtain ⟨g, hg⟩ : ∃ g, decide (spotV l (i, x, y) = 0) = g := ⟨_, rfl⟩
  rw [hg] at CR ⊢
  clear hg h hf hn hx hy
  cases g with
  | false =>
    go_enter Try.func15, Try.ntmps15
    go_wp2_with (go_at_call 14; refine (CR _ (HK.out.below (by (repeat (first | exact Below.refl _ _ | (refine b_st ?_ (by first | (simp; done) | (simp; omega))) | (refine b_al ?_ (Nat.le_refl _) _) | refine b_dn ?_ | refine b_dr ?_ | (refine b_cl ?_ (Nat.le_refl _) (by assumption))))))).mono ?_; rintro e w1 ⟨rfl, hb1⟩; have bx1 := (Bx.new (W := w) 24 #[.int .i64 i, .int .i64 x, .int .i64 y] rfl).below hb1; have p0 := bx1.cell (k := 0) rfl; have hz1 := hb1.size; (try simp at hz1))
    go_ret
    exact ⟨rfl, by (repeat (first | exact Below.refl _ _ | (refine b_st ?_ (by first | (simp; done) | (simp; omega))) | (refine b_al ?_ (Nat.le_refl _) _) | refine b_dn ?_ | refine b_dr ?_ | (refine b_cl ?_ (Nat.le_refl _) (by assumption))))⟩
  | true =>
    by_cases c0 : i = (n : Int)
    · have d0 : (i == (n : Int)) = true := by simp [c0]
      rw [decide_eq_true c0]
      clear c0
      go_enter Try.func15, Try.ntmps15
      go_wp2_with (go_at_call 14; refine (CR _ (HK.out.below (by (repeat (first | exact Below.refl _ _ | (refine b_st ?_ (by first | (simp; done) | (simp; omega))) | (refine b_al ?_ (Nat.le_refl _) _) | refine b_dn ?_ | refine b_dr ?_ | (refine b_cl ?_ (Nat.le_refl _) (by assumption))))))).mono ?_; rintro e w1 ⟨rfl, hb1⟩; have bx1 := (Bx.new (W := w) 24 #[.int .i64 i, .int .i64 x, .int .i64 y] rfl).below hb1; have p0 := bx1.cell (k := 0) rfl; have hz1 := hb1.size; (try simp at hz1))
      go_ret
      exact ⟨rfl, by (repeat (first | exact Below.refl _ _ | (refine b_st ?_ (by first | (simp; done) | (simp; omega))) | (refine b_al ?_ (Nat.le_refl _) _) | refine b_dn ?_ | refine b_dr ?_ | (refine b_cl ?_ (Nat.le_refl _) (by assumption))))⟩
    · have d0 : (i == (n : Int)) = false := by simp [c0]
      rw [decide_eq_false c0]
      clear c0
      go_enter Try.func15, Try.ntmps15
      go_wp2_with (go_at_call 14; refine (CR _ (HK.out.below (by (repeat (first | exact Below.refl _ _ | (refine b_st ?_ (by first | (simp; done) | (simp; omega))) | (refine b_al ?_ (Nat.le_refl _) _) | refine b_dn ?_ | refine b_dr ?_ | (refine b_cl ?_ (Nat.le_refl _) (by assumption))))))).mono ?_; rintro e w1 ⟨rfl, hb1⟩; have bx1 := (Bx.new (W := w) 24 #[.int .i64 i, .int .i64 x, .int .i64 y] rfl).below hb1; have p0 := bx1.cell (k := 0) rfl; have hz1 := hb1.size; (try simp at hz1))
      go_ret
      exact ⟨rfl, by (repeat (first | exact Below.refl _ _ | (refine b_st ?_ (by first | (simp; done) | (simp; omega))) | (refine b_al ?_ (Nat.le_refl _) _) | refine b_dn ?_ | refine b_dr ?_ | (refine b_cl ?_ (Nat.le_refl _) (by assumption))))⟩

end Go.Proofs.Ythgieanhlmnneaa
