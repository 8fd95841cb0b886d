/- What Spots of a front returns. Conditions: the front has its meters; at most a thousand million. -/
import Derived.Test.YtglgifhpacmhiaaRows
import Derived.Test.YtglgifhpacmhiaaBase
import Derived.Test.YtglgifhpacmhiaaRow
import Derived.Test.YtglgifhpacmhiaaBookRow
import Derived.Test.YtglgifhpacmhiaaRecMath
import Derived.Test.YtglgifhpacmhiaaBox
import Derived.Test.YtglgifhpacmhiaaBoxRes
import Derived.Test.YtglgifhpacmhiaaChg
import Derived.Test.YtglgifhpacmhiaaMeterMath
import Derived.Test.YtglgifhpacmhiaaSortMath
import Derived.Test.YtglgifhpacmhiaaWide
import Derived.Test.YtglgifhpacmhiaaFrontMath
import Derived.Test.YtglgifhpacmhiaaFrontEq
import Derived.Test.YtglgifhpacmhiaaFrontMap
import Derived.Test.YtglgifhpacmhiaaFrontHeap
import Derived.Test.YtglgifhpacmhiaaFrontSet
import Derived.Test.YtglgifhpacmhiaaFrontLib
import Derived.Test.YtglgifhpacmhiaaSpotSort
import Derived.WalkKit
import Derived.WalkSpells
import Derived.WalkSmall
import Derived.Below
import Derived.Lib.Hide
import Derived.OwnWalk
import Derived.Outline
import Derived.Maps.RangeWalk
import Derived.Deep.LoopGhost
namespace Go.Proofs.Ytglgifhpacmhiaa
open Go.RowKit

theorem spots24_nil (w : World) : Calls Try.prog 11 #[.pointer none] w fun e w' => e = .returned (.slice none 0 0) ∧ Below w.heap.size w w' := by
  go_enter Try.func11, Try.ntmps11
  go_wp2
  go_ret
  exact ⟨rfl, Below.refl _ _⟩

theorem spots24_none {w : World} {g : Nat} {x : Nat → Int} (hg : Bx w g 55 (fc x none)) :
    Calls Try.prog 11 #[.pointer (some ⟨g, 0, none⟩)] w fun e w' => e = .returned (.slice none 0 0) ∧ Below w.heap.size w w' := by
  have q0 := hg.cell (k := 19) (fc_map x none)
  have B0 := Lib.hid ((Below.refl w.heap.size w).alloc (Nat.le_refl _) (.mapIter none 0 #[] 0))
  have HS := fun (p : Option Addr) (cap : Nat) (fv : Value) (W : World) => AnyF.slices_SortFunc_none { sortL with } p cap fv W
  clear hg
  go_enter Try.func11, Try.ntmps11
  go_wp2_with (first
    | (at_range; refine wpList_range_none rfl _ rfl rfl ?_))
  (try go_frame)
  refine wp_loop_rounds 1 ?_
  rw [rounds_succ]
  go_wp2_with (first
    | (at_next; refine wpList_next_none rfl _ rfl w rfl rfl ?_)
    | (go_at_call 24; (refine (HS _ _ _ _).mono ?_); rintro e w2 ⟨rfl, rfl⟩))
  go_ret
  exact ⟨rfl, B0.out⟩

/-- What is sorted, each once, is the set in order. -/
theorem sorted_set {d : Array Rc} {l : List Rc} (hn : l.Nodup) (hp : d.toList.Perm l) (hs : ∀ i j : Nat, i < j → j < d.size → ¬ ltF d[j]! d[i]!) : SetF d.toList l := by
  refine ⟨List.pairwise_iff_getElem.2 fun i j hi hj hij => ?_, fun x => hp.mem_iff⟩
  have hj' : j < d.size := by simpa using hj
  have hi' : i < d.size := by omega
  have h1 := hs i j hij hj'
  rw [getElem!_pos d j hj', getElem!_pos d i hi'] at h1
  have hne : d[i] ≠ d[j] := by
    have hnd := List.pairwise_iff_getElem.1 (hp.symm.nodup hn) i j hi hj hij
    simpa using hnd
  have h2 : d.toList[i] = d[i] := by simp
  have h3 : d.toList[j] = d[j] := by simp
  rw [h2, h3]
  by_cases h4 : ltF d[i] d[j]
  · exact h4
  · exact absurd (ltF_tot h4 h1) hne

set_option maxRecDepth 100000 in
set_option maxHeartbeats 4000000 in
theorem spots24_some {w : World} {g b : Nat} {x : Nat → Int} {L : List (Rc × Value)} (hg : Bx w g 55 (fc x (some b))) (hm : Mp w b L) (hl : L.length ≤ 1000000000) :
    Calls Try.prog 11 #[.pointer (some ⟨g, 0, none⟩)] w fun e w' => ∃ A c l, e = .returned (.slice A l.length c) ∧ RdG spW w' A l ∧ SetF l (L.map (·.1)) ∧ Below w.heap.size w w' := by
  have q0 := hg.cell (k := 19) (fc_map x (some b))
  have HM := Lib.hid hm
  have HS := fun (p : Option Addr) (cap : Nat) (fv : Value) (W : World) => AnyF.slices_SortFunc_none { sortL with } p cap fv W
  clear hg hm
  go_enter Try.func11, Try.ntmps11
  go_wp2_with (first
    | (at_range; refine wpList_range_sp rfl _ rfl b L rfl HM.out (fun w1 rg1 hs1 hb1 => ?_)))
  (try go_frame)
  have HR := Lib.hid rg1
  have HB := Lib.hid hb1
  clear rg1 hb1
  go_loopg [3, 4, 12, 13, 14, 15, 16, 17, 18, 19] L.length (fun gg s3 _ _ _ _ _ _ _ _ _ wr => ∃ (acc : List Rc) (left : List (Rc × Value)), left.length ≤ gg ∧ w.heap.size + 1 ≤ wr.heap.size ∧ Hid (OwnG spW (w.heap.size + 1) wr s3 acc) ∧ Hid (Rg wr w.heap.size b left) ∧ Hid ((acc ++ left.map (·.1)).Perm (L.map (·.1))) ∧ Hid (Below w.heap.size w wr))
  case atStart => exact ⟨[], L, Nat.le_refl _, by omega, Lib.hid (OwnG.nil _ _ _), HR, Lib.hid (by simp), HB⟩
  case round =>
    obtain ⟨acc, left, hgg, hsz, HO, HG, HP, HW⟩ := hrel
    go_upto_region 6 with (first
      | (at_next; refine wpList_next_sp rfl _ rfl w.heap.size b left rfl HG.out (fun h0 => ?_) (fun p left' w2 hp rg2 hen hs2 ho2 hb2 => ?_)))
    · have HP' := HP.out
      rw [h0, List.map_nil, List.append_nil] at HP'
      have hlen := HP'.length_eq
      rw [List.length_map] at hlen
      rcases HO.out.form with ⟨e1, e2⟩ | ⟨q, c, e2⟩
      · subst e2
        subst e1
        have hL : L = [] := List.eq_nil_of_length_eq_zero (by simpa using hlen.symm)
        go_wp2_with (first
          | (go_at_call 24; (refine (HS _ _ _ _).mono ?_); rintro e w3 ⟨rfl, rfl⟩))
        go_ret
        exact ⟨none, 0, [], rfl, RdG.nil _ _ _, by rw [hL]; exact ⟨List.Pairwise.nil, fun _ => Iff.rfl⟩, HW.out⟩
      · subst e2
        have hq := (HO.out.lt rfl).1
        have hq : w.heap.size + 1 ≤ q := hq
        obtain ⟨n, hn⟩ : ∃ n, acc.length = n := ⟨_, rfl⟩
        have HO' := HO.out
        rw [hn] at HO' hlen ⊢
        have CS := sortS_any w.heap.size q c n acc.toArray wr (by simpa using hn) (RwS.of_spots HO') (by omega) (by omega)
        have HN := Lib.hid hn
        have HA := Lib.hid HP'
        clear HO' hn HP' HS hlen
        go_wp2_with (first
          | (go_at_call 24; (refine CS.mono ?_); rintro e w3 ⟨rfl, d2, hz, hp2, hs2, hr2, hb3⟩; have H2 := Lib.hid hs2; have R2 := Lib.hid hr2; have P2 := Lib.hid hp2; have Z2 := Lib.hid hz; clear hs2 hr2 hp2 hz CS))
        go_ret
        refine ⟨some ⟨q, 0, none⟩, c, d2.toList, ?_, R2.out.spots, ?_, HW.out.trans hb3⟩
        · rw [show d2.toList.length = n by rw [Array.length_toList]; exact Z2.out]
          rfl
        · exact sorted_set HM.out.keys ((show d2.toList.Perm acc from P2.out).trans HA.out) H2.out
    · obtain ⟨s, v⟩ := p
      dsimp only at hen
      have hlen := hp.length_eq
      simp only [List.length_cons] at hlen
      have hlt := rg2.lt
      have O2 := Lib.hid (HO.out.kept fun k hk => ho2 k (by have := (HO.out.lt hk).1; omega))
      have HG2 := Lib.hid rg2
      have HW2 := Lib.hid (HW.out.trans (hb2 _ (Nat.le_refl _)))
      have hlb := HP.out.length_eq
      simp only [List.length_append, List.length_map] at hlb
      have hacc : acc.length + 1 ≤ 100000000000 := by omega
      have HP2 : Hid (((acc ++ [s]) ++ left'.map (·.1)).Perm (L.map (·.1))) := Lib.hid (by
        rw [List.append_assoc, List.singleton_append]
        exact ((hp.map (·.1)).append_left acc |>.symm).trans HP.out)
      have hbr : b < w.heap.size := HM.out.lt
      have HS2 := Lib.hid hs2
      have hlt2 : w.heap.size < w2.heap.size := hlt.2
      clear rg2 ho2 hb2 hp hlb hs2 hlt
      go_wp2_with (first
        | (refine wpList_store_box rfl 26 _ _ rfl w2.heap.size (sp s) rfl rfl 26 (sp rz) (Bx.new (W := w2) 26 (sp rz) rfl) (by kernel_rfl) rfl (sp_one _) (fun w5 u5 => ?_); have X5 := u5.box; have hz5 : w5.heap.size = w2.heap.size + 1 := (by rw [u5.size]; simp); have B5 := Lib.hid ((b_al (Below.refl w2.heap.size w2) (Nat.le_refl _) _).trans (u5.bel _ (Nat.le_refl _))))
        | refine wpList_load_box (by rfl) 26 _ rfl (w2.heap.size) rfl 26 (sp s) _ X5 Try.underlying26 rfl (by kernel_rfl) ?_
        | (refine wpList_one (k := spW) (by rfl) 39 Try.underlying39 info_spr (by decide) s (fill_sp s) _ rfl rfl ?_; have XN : Bx (w5.alloc (.cells (spW.enc s).toArray spW.T)) w5.heap.size spW.T (spW.enc s).toArray := Bx.new _ _ rfl)
        | (at_builtin; refine wpList_appG (k := spW) rfl 39 Try.underlying39 info_spr rfl (by decide) _ _ rfl (w.heap.size + 1) _ acc rfl (OwnG.alloc (O2.out.below B5.out) _) (some ⟨w5.heap.size, 0, none⟩) 1 1 [s] rfl rfl (RdG.one XN) (fun e => by cases e) (fun e => by cases e) hacc (by simp; omega) ?_; intro v7 w7 o7 g7 _ _; have O7 := Lib.hid o7; have hz7 : w5.heap.size + 1 ≤ w7.heap.size := (by have := g7.size; simpa using this); have B7 : Hid (Below w.heap.size w5 w7) := Lib.hid ((b_al (Below.refl _ _) (by omega) _).grown g7 (by simp; omega) (fun k e => by have := (O2.out.lt e).1; omega)); have HG7 := Lib.hid ((HG2.out.below B5.out).kept ((g7.block b (by simp; omega) (fun e => by have := (O2.out.lt e.symm).1; omega)).trans (heap_alloc_old w5 _ (by omega))) ((g7.block w.heap.size (by simp; omega) (fun e => by have := (O2.out.lt e.symm).1; omega)).trans (heap_alloc_old w5 _ (by omega))))))
      go_roundg left'.length
      case measure => omega
      case rel => exact ⟨acc ++ [s], left', Nat.le_refl _, by omega, O7, HG7, HP2, Lib.hid ((HW2.out.trans (B5.out.mono (by omega))).trans B7.out)⟩

/-- Spots: the spots with meters, in order, each once. -/
theorem spots24_any {w : World} {g : Nat} {x : Nat → Int} {y : List Ad} {B : List Nat} (h : Fr w g x y B) (hl : y.length ≤ 1000000000) :
    Calls Try.prog 11 #[.pointer (some ⟨g, 0, none⟩)] w fun e w' => ∃ A c l, e = .returned (.slice A l.length c) ∧ RdG spW w' A l ∧ SetF l (y.map (·.1)) ∧ Below w.heap.size w w' := by
  rcases h with ⟨h1, rfl, rfl⟩ | ⟨b, E, h1, h2, rfl⟩
  · exact (spots24_none h1).mono fun e w' ⟨he, hb⟩ => ⟨none, 0, [], he, RdG.nil _ _ _, ⟨List.Pairwise.nil, fun _ => Iff.rfl⟩, hb⟩
  · have hle : (E.map En.kv).length ≤ 1000000000 := by
      have h3 := h2.sum
      have h4 : ∀ E : List En, (∀ q ∈ E, q.l ≠ []) → E.length ≤ (E.map fun q => q.l.length).sum := by
        intro E
        induction E with
        | nil => intro _; exact Nat.le_refl _
        | cons q E ih =>
          intro hq
          have h5 := ih fun q hm => hq q (List.mem_cons_of_mem _ hm)
          have h6 := List.length_pos_iff.2 (hq q (List.mem_cons_self ..))
          rw [List.map_cons, List.sum_cons, List.length_cons]
          omega
      have := h4 E h2.some_
      rw [List.length_map]
      omega
    refine (spots24_some h1 h2.mp hle).mono fun e w' ⟨A, c, l, he, hr, hs, hb⟩ => ⟨A, c, l, he, hr, ⟨hs.1, fun s => (hs.2 s).trans ?_⟩, hb⟩
    rw [List.map_map]
    exact h2.spots s

end Go.Proofs.Ytglgifhpacmhiaa
