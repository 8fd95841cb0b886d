/- Plain facts, several texts in one: DutyBooks, DutyWit. Conditions: none beyond each lemma's own premises. -/
import Derived.Test.YtlbafgdbemhanaaRows
import Derived.Test.YtlbafgdbemhanaaBase
import Derived.Test.YtlbafgdbemhanaaZ2
import Derived.Test.YtlbafgdbemhanaaBookLim
import Derived.Test.YtlbafgdbemhanaaZ3
import Derived.Test.YtlbafgdbemhanaaZ1
import Derived.Test.YtlbafgdbemhanaaDutySet
import Derived.Test.YtlbafgdbemhanaaDutyAudit
import Derived.Test.YtlbafgdbemhanaaDutyUpto
import Derived.OpenShut
import Derived.ChangeSame
import Derived.ProofKit
import Derived.Deep.Slices
import Derived.Deep.Fields

/- Two books side by side as an argument, and what accepting comes to: laxer books, beginnings, rest behind. Conditions: none beyond each lemma's own premises. -/
namespace Go.Proofs.Ytlbafgdbemhanaa
open Go.ChangeShapes Go.WideShapes Go.ChangeAt Go.RowKit Go.Joins Go.Deep
set_option maxRecDepth 100000

/-- The cells of two books. -/
def bk2 (x y : Nat → Int) : Array Value := ((bk x).toList ++ (bk y).toList).toArray
theorem bk2_size (x y : Nat → Int) : (bk2 x y).size = 38 := rfl
theorem bk2_one (x y : Nat → Int) : ∀ i, i < 19 → (bk2 x y)[0 + i]? = some (.int .i64 (x i)) := fun i hi => by
  unfold bk2
  rw [Nat.zero_add, List.getElem?_toArray, List.getElem?_append_left (by rw [Array.length_toList, bk_size]; omega), Array.getElem?_toList]
  exact bk_at x i hi
theorem bk2_two (x y : Nat → Int) : ∀ i, i < 19 → (bk2 x y)[19 + i]? = some (.int .i64 (y i)) := fun i hi => by
  unfold bk2
  rw [List.getElem?_toArray, List.getElem?_append_right (by rw [Array.length_toList, bk_size]; omega), Array.length_toList, bk_size, Array.getElem?_toList, show 19 + i - 19 = i by omega]
  exact bk_at y i hi
theorem RdI.two {w : World} {g : Nat} (x y : Nat → Int) (t : TypeId) (hg : g = w.heap.size) : RdI (w.alloc (.cells (bk2 x y) t)) g 0 x ∧ RdI (w.alloc (.cells (bk2 x y) t)) g 19 y := by
  have hb : Bx (w.alloc (.cells (bk2 x y) t)) g t (bk2 x y) := Bx.new t _ hg
  exact ⟨⟨hb.lt, fun i hi => hb.cell (bk2_one x y i hi)⟩, ⟨hb.lt, fun i hi => hb.cell (bk2_two x y i hi)⟩⟩

theorem read_book {H : Type} {enc : TypeId × Value → H} {w : World} {base : Nat} {spare : Nat → Bool} {held : Bool} {fuel : Nat} {cs : List Value} {x : DataW H × List MemPlace}
    (h : DataW.trod enc Try.prog w base spare held fuel 23 cs = some x) : ∃ x : Nat → Int, cs = (bk x).toList := by
  obtain ⟨fs, hs, hone, hfs, hty⟩ := fields_ok
  obtain ⟨xs, n, _, _, hl, hlen, hg⟩ := DataW.trod_struct hs h
  rw [cells_book] at hl
  obtain ⟨x, hx⟩ := choose_nat (P := fun i n => cs.toArray[i]? = some (.int .i64 n)) (n := 19) (fun i hi => by
    have hfi : fs[i]? = some (fs[i]'(by omega)) := Array.getElem?_eq_getElem (by omega)
    obtain ⟨o, k⟩ := hone_of hone i _ hfi
    have h1 := hg i _ hfi
    rw [o, k, hty i _ hfi] at h1
    have hxs : xs[i]? = some (xs[i]'(by omega)) := List.getElem?_eq_getElem (by omega)
    rw [hxs] at h1
    have hone' : (cs.drop i).take 1 = [cs[i]'(by omega)] := by
      rw [List.drop_eq_getElem_cons (by omega : i < cs.length)]
      rfl
    rw [hone'] at h1
    obtain ⟨m, e, _, _⟩ := DataW.trod_int Try.underlying3 h1
    refine ⟨m, ?_⟩
    rw [List.getElem?_toArray, List.getElem?_eq_getElem (by omega)]
    injection e with e _
    rw [e])
  refine ⟨x, ?_⟩
  have := bk_of (cs := cs.toArray) (by simpa using hl) hx
  rw [← this]

theorem cells_books : Try.prog.cellsOf 44 = 38 := by kernel_rfl

theorem open_books {H : Type} {enc : TypeId × Value → H} {w : World} {base : Nat} {spare : Nat → Bool} {held : Bool} {r : Reach} {b0 : Nat} {v : Value} {d : DataW H} {p : List MemPlace}
    (hv : Value.okWide Try.prog w r b0 44 v) (h : DataW.Trod enc Try.prog w base spare held 44 v d p) :
    ∃ x y : Nat → Int, v = .agg (bk2 x y) := by
  obtain ⟨cs, rfl, hsz⟩ := okWide_struct Try.underlying44 hv
  rw [cells_books] at hsz
  obtain ⟨fuel, hf⟩ := h
  obtain ⟨xs, n, _, _, hl, hlen, hg⟩ := DataW.trod_struct Try.underlying44 hf
  have hyl : xs.length = 2 := hlen
  match xs, hyl with
  | [y0, y1], _ =>
    obtain ⟨x, hx⟩ := read_book (hg 0 _ rfl)
    obtain ⟨y, hy⟩ := read_book (hg 1 _ rfl)
    refine ⟨x, y, ?_⟩
    have e0 : (cs.toList.drop 0).take 19 = (bk x).toList := by
      have hq : (cs.toList.drop 0).take (Try.prog.cellsOf 23) = (bk x).toList := hx
      rwa [cells_book] at hq
    have e1 : (cs.toList.drop 19).take 19 = (bk y).toList := by
      have hq : (cs.toList.drop 19).take (Try.prog.cellsOf 23) = (bk y).toList := hy
      rwa [cells_book] at hq
    have e2 : cs.toList = (bk x).toList ++ (bk y).toList := by
      rw [← e0, ← e1, List.drop_zero, List.take_of_length_le (l := cs.toList.drop 19) (by rw [List.length_drop, Array.length_toList]; omega), List.take_append_drop]
    congr 1
    unfold bk2
    rw [← e2]

/-! ### What is accepted -/
theorem Tig.tg {x y : Nat → Int} (h : Tig x y) : Tg x y where
  s1 := h.1 1 (by omega) rfl
  s2 := h.1 2 (by omega) rfl
  s3 := h.1 3 (by omega) rfl
  s7 := h.1 7 (by omega) rfl
  s8 := h.1 8 (by omega) rfl
  s10 := h.1 10 (by omega) rfl
  s12 := h.1 12 (by omega) rfl
  s13 := h.1 13 (by omega) rfl
  s18 := h.1 18 (by omega) rfl
  l0 := h.2 0 (by omega)
  l4 := h.2 4 (by omega)
  l5 := h.2 5 (by omega)
  l6 := h.2 6 (by omega)
  l9 := h.2 9 (by omega)
  l11 := h.2 11 (by omega)
  l14 := h.2 14 (by omega)
  l15 := h.2 15 (by omega)
  l16 := h.2 16 (by omega)
  l17 := h.2 17 (by omega)

theorem accepts_iff {x : Nat → Int} {l : List Rc} : acceptsV x l = true ↔ May x ∧ Tl 0 l ∧ Clean x .zero (kindsV l) := by
  unfold acceptsV
  by_cases hd : dcheckV x l = 0
  · obtain ⟨hx, ht⟩ := dcheck_ok hd
    have e : auditV x l = (listF (Au.zero.run x (kindsV l)).F, 0) := by unfold auditV; rw [if_pos hd]
    rw [e]
    have hc := clean_run (x := x) (ks := kindsV l) (a := Au.zero) (fun _ => rfl)
    have hok := Au.ok_run (may_len hx).1 (kindsV l) Au.ok_zero (by have := ht.short; omega)
    constructor
    · intro h
      refine ⟨hx, ht, hc.1 fun c => ?_⟩
      have h0 : listF (Au.zero.run x (kindsV l)).F = [] := by simpa using h
      cases hF : (Au.zero.run x (kindsV l)).F c with
      | none => rfl
      | some v =>
        have hc10 := (hok.F c v.1 v.2 hF).1
        have := (listF_mem (Au.zero.run x (kindsV l)).F ((c : Int), v)).2 ⟨c, hc10, hF, rfl⟩
        rw [h0] at this
        cases this
    · rintro ⟨_, _, h⟩
      rw [listF_nil fun c _ => hc.2 h c]
      rfl
  · have e : auditV x l = ([], dcheckV x l) := by unfold auditV; rw [if_neg hd]
    rw [e]
    constructor
    · intro h
      have : dcheckV x l = 0 := by simpa using h
      exact absurd this hd
    · rintro ⟨hx, ht, _⟩
      exact absurd (dcheck_tl hx ht) hd

theorem accepts_lax {x y : Nat → Int} {l : List Rc} (g : Tig x y) (hy : May y) (h : acceptsV x l = true) : acceptsV y l = true := by
  obtain ⟨hx, ht, hc⟩ := accepts_iff.1 h
  exact accepts_iff.2 ⟨hy, ht, clean_lax hx hy g.tg (Lx.zero (may_time hx 4 (by omega)).1 (may_time hy 4 (by omega)).1 (may_time hx 6 (by omega)).1) hc⟩
theorem accepts_upto {x : Nat → Int} {l : List Rc} (m : Int) (h : acceptsV x l = true) : acceptsV x (uptoV l m) = true := by
  obtain ⟨hx, ht, hc⟩ := accepts_iff.1 h
  obtain ⟨u1, u2, _⟩ := upto_tl m ht
  refine accepts_iff.2 ⟨hx, u1, ?_⟩
  rw [u2]
  refine clean_append (b := (kindsV l).drop (m - 0).toNat) ?_
  rw [List.take_append_drop]
  exact hc

theorem tl_snoc16 : ∀ {l : List Rc} {e : Int} {r : Rc}, Tl e l → ((0 ≤ r.1 ∧ r.1 < 4) ∧ (0 ≤ r.2.1 ∧ r.2.1 < r.2.2 ∧ r.2.2 ≤ 40320)) → r.2.1 = (if l = [] then e else fin l) → Tl e (l ++ [r])
  | [], e, r, _, hr, hb => ⟨hr, by simpa using hb, trivial⟩
  | q :: l, e, r, h, hr, hb => by
    refine ⟨h.1, h.2.1, tl_snoc16 h.2.2 hr ?_⟩
    rw [hb, if_neg (by simp)]
    cases l with
    | nil => rfl
    | cons s l => rw [if_neg (by simp)]; rfl

theorem fin_zero {l : List Rc} (h : Tl 0 l) : (if l = [] then (0 : Int) else fin l) = fin l ∧ 0 ≤ fin l ∧ fin l ≤ 40320 := by
  by_cases hl : l = []
  · subst hl
    exact ⟨rfl, Int.le_refl _, by decide⟩
  · rw [if_neg hl]
    have := h.len hl
    exact ⟨rfl, by omega, this.2.2⟩
theorem accepts_rest {x : Nat → Int} {l : List Rc} (h : acceptsV x l = true) (hf : fin l ≠ 40320) : acceptsV x (l ++ [(0, fin l, 40320)]) = true := by
  obtain ⟨hx, ht, hc⟩ := accepts_iff.1 h
  obtain ⟨f1, f2, f3⟩ := fin_zero ht
  refine accepts_iff.2 ⟨hx, tl_snoc16 ht ⟨⟨by show (0 : Int) ≤ 0; decide, by show (0 : Int) < 4; decide⟩, f2, by dsimp only; omega, by dsimp only; omega⟩ f1.symm, ?_⟩
  have e : kindsV (l ++ [(0, fin l, 40320)]) = kindsV l ++ List.replicate (40320 - fin l).toNat 0 := by
    unfold kindsV
    rw [List.flatMap_append]
    congr 1
    exact List.append_nil _
  rw [e]
  exact clean_rest _ hc

end Go.Proofs.Ytlbafgdbemhanaa

/- Each finding is true where it points: the timeline up to its end breaks the clause, up to a minute less not. Conditions: none beyond each lemma's own premises. -/
namespace Go.Proofs.Ytlbafgdbemhanaa
open Go.RowKit

theorem audit_upto {x : Nat → Int} {l : List Rc} (hx : May x) (ht : Tl 0 l) (m : Int) : auditV x (uptoV l m) = (listF (Au.zero.run x ((kindsV l).take m.toNat)).F, 0) := by
  obtain ⟨u1, u2, _⟩ := upto_tl m ht
  unfold auditV
  rw [if_pos (dcheck_tl hx u1), u2, Int.sub_zero]

theorem witness {x : Nat → Int} {l R : List Rc} (hx : May x) (ht : Tl 0 l) (hR : listF (Au.zero.run x (kindsV l)).F = R) {i : Nat} {c f t : Int} (hi : i < R.length) (hr : R.getD i rz = (c, f, t)) :
    (0 ≤ f ∧ f < t ∧ t ≤ fin l) ∧ (∀ j, i = j + 1 → (R.getD j rz).1 < c) ∧ (∃ Y, auditV x (uptoV l t) = (Y, 0) ∧ (c, f, t) ∈ Y ∧ Y.length ≤ 10) ∧ ∃ Z, auditV x (uptoV l (t - 1)) = (Z, 0) ∧ (∀ q ∈ Z, q.1 ≠ c) ∧ Z.length ≤ 10 := by
  have hget : R[i] = (c, f, t) := by rw [← hr]; simp [List.getD, hi]
  have hmem : (c, f, t) ∈ listF (Au.zero.run x (kindsV l)).F := by rw [hR, ← hget]; exact List.getElem_mem hi
  obtain ⟨q, hq, hF, hc⟩ := (listF_mem _ _).1 hmem
  dsimp only at hF hc
  have hL := (may_len hx).1
  have hok := Au.ok_run hL (kindsV l) Au.ok_zero (by have := ht.short; omega)
  have hb := hok.F q f t hF
  obtain ⟨n, hn, hnl, hw1, hw2⟩ := run_witness hL ht.short hF
  refine ⟨⟨hb.2.1, hb.2.2.1, ?_⟩, ?_, ?_, ?_⟩
  · have hne : l ≠ [] := by rintro rfl; simp [kindsV] at hnl
    have := (ht.len hne).1
    omega
  · rintro j rfl
    have hs := listF_sorted (Au.zero.run x (kindsV l)).F
    rw [hR] at hs
    have := List.pairwise_iff_getElem.1 hs j (j + 1) (by omega) hi (by omega)
    rw [hget] at this
    have e : R.getD j rz = R[j] := by simp [List.getD, (by omega : j < R.length)]
    rw [e]
    exact this
  · refine ⟨_, audit_upto hx ht t, ?_, listF_len _⟩
    rw [show t.toNat = n + 1 by omega]
    exact (listF_mem _ _).2 ⟨q, hq, hw1, hc⟩
  · refine ⟨_, audit_upto hx ht (t - 1), ?_, listF_len _⟩
    rw [show (t - 1).toNat = n by omega]
    intro r hr2 he
    obtain ⟨q2, _, hv, hr3⟩ := (listF_mem _ _).1 hr2
    have : q2 = q := by omega
    subst this
    rw [hw2] at hv
    cases hv

/-- Is one of the first findings the one? -/
def anyT (Y : List Rc) (r : Rc) (j : Nat) : Bool := (Y.take j).any fun q => decide (q = r)
def anyC (Z : List Rc) (c : Int) (j : Nat) : Bool := (Z.take j).any fun q => q.1 == c
theorem anyT_more {Y : List Rc} {r q : Rc} {j : Nat} (hj : j < Y.length) (hq : Y.getD j rz = q) : anyT Y r (j + 1) = (anyT Y r j || decide (q = r)) := by
  have e : Y[j] = q := by rw [← hq]; simp [List.getD, hj]
  unfold anyT
  rw [List.take_succ_eq_append_getElem hj, List.any_append, e]
  simp
theorem anyC_more {Z : List Rc} {c : Int} {q : Rc} {j : Nat} (hj : j < Z.length) (hq : Z.getD j rz = q) : anyC Z c (j + 1) = (anyC Z c j || q.1 == c) := by
  have e : Z[j] = q := by rw [← hq]; simp [List.getD, hj]
  unfold anyC
  rw [List.take_succ_eq_append_getElem hj, List.any_append, e]
  simp
theorem anyT_all {Y : List Rc} {r : Rc} {n : Nat} (hn : Y.length = n) (h : r ∈ Y) : anyT Y r n = true := by
  unfold anyT
  rw [List.take_of_length_le (Nat.le_of_eq hn), List.any_eq_true]
  exact ⟨r, h, by simp⟩
theorem anyC_none {Z : List Rc} {c : Int} {n : Nat} (hn : Z.length = n) (h : ∀ q ∈ Z, q.1 ≠ c) : anyC Z c n = false := by
  unfold anyC
  rw [List.take_of_length_le (Nat.le_of_eq hn), List.any_eq_false]
  intro q hq
  simpa using h q hq

end Go.Proofs.Ytlbafgdbemhanaa
