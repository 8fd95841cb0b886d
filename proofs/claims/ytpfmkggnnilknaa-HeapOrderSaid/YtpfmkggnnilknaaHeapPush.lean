/- The methods Push and Pop that the library asks of a pile. Conditions: the pile lies as it is told; Pop is of one item at least. -/
import Derived.Test.YtpfmkggnnilknaaRows
import Derived.Test.YtpfmkggnnilknaaBase
import Derived.Test.YtpfmkggnnilknaaRow
import Derived.Test.YtpfmkggnnilknaaRecMath
import Derived.Test.YtpfmkggnnilknaaBox
import Derived.Test.YtpfmkggnnilknaaFindHeap
import Derived.Test.YtpfmkggnnilknaaTriHeap
import Derived.Test.YtpfmkggnnilknaaHeapMath
import Derived.Test.YtpfmkggnnilknaaHeapHeap
import Derived.Test.YtpfmkggnnilknaaHeapLeaf
import Derived.Test.YtpfmkggnnilknaaHeapApp
import Derived.WalkKit
import Derived.WalkSpells
import Derived.WalkSmall
import Derived.Below
import Derived.Lib.Hide
import Derived.BigQuiet
import Derived.BigRegion
import Derived.Outline
import Derived.OwnWalk
import Derived.OrdersHeld
import Derived.Deep.RegionHeld3
import Derived.OneCell
import Derived.Deep.QuietTactic
import Derived.Deep.DeepCutAuto
import Derived.Deep.RegionWith
namespace Go.Proofs.Ytpfmkggnnilknaa
open Go.RowKit

theorem as_item (v : Value) (w : World) : (Instr.typeAssert (.iface 28 v) 20 28 true).run Try.prog w = .ok (.tuple #[v, .bool true]) w := by kernel_rfl

theorem ppop23_any {w : World} {g b m : Nat} {l : List Rc} (h : Pl w g b l) (hm : l.length = m + 1) (hl : l.length ≤ 1000000000000) :
    Calls Try.prog 43 #[.pointer (some ⟨g, 0, none⟩)] w fun e w' => e = .returned (.iface 28 (itV (l.getD m rz))) ∧ Pl w' g b (l.take m) ∧ Mv w g b b w' := by
  obtain ⟨glt, blt, hne⟩ := h.lt
  obtain ⟨c, h1, h2⟩ := h
  rw [hm] at h1 h2 hl
  obtain ⟨i0, i1, i2⟩ := h2.range (k := m) (by omega)
  obtain ⟨cur, _, _, hc, _⟩ := h2.cur
  have q0 := h1.cell (k := 0) rfl
  obtain ⟨⟨x, y, z⟩, hx⟩ : ∃ x, l.getD m rz = x := ⟨_, rfl⟩
  rw [hx] at i0 i1 i2 ⊢
  simp only at i0 i1 i2
  unfold itV
  simp only
  have fg : w.frozen? ⟨g, 0, none⟩ = false := h1.free 0
  have H1 := Lib.hid h1
  have H2 := Lib.hid h2
  have HM := Lib.hid hm
  have q1 : (w.alloc (.cells #[.int .i64 x, .int .i64 y, .int .i64 z] 28)).cell? ⟨g, 0, none⟩ = some (.slice (some ⟨b, 0, none⟩) (m + 1) c) := c_al _ q0
  clear h1 h2 hm hx
  go_enter Try.func43, Try.ntmps43
  go_wp2
  go_ret
  refine ⟨rfl, ?_⟩
  have u := Bx.setOne (k := 0) (v := .slice (some ⟨b, 0, none⟩) m c) H1.out
  have hb : Below (w.setCell ⟨g, 0, none⟩ (.slice (some ⟨b, 0, none⟩) m c)).heap.size (w.setCell ⟨g, 0, none⟩ (.slice (some ⟨b, 0, none⟩) m c)) _ := b_al (Below.refl _ _) (Nat.le_refl _) (.cells #[.int .i64 x, .int .i64 y, .int .i64 z] 28)
  exact ⟨(Pl.of (n := m) (by have := HM.out; simp; omega) u.box ((H2.out.take (Nat.le_succ m)).kept (u.other b (fun e => hne e.symm)))).below hb, (Mv.box u).below hb⟩

set_option maxHeartbeats 1600000 in
theorem ppush23_any {w : World} {g b : Nat} {l : List Rc} (h : Pl w g b l) (hl : l.length ≤ 1000000000000) (v : Rc) :
    Calls Try.prog 44 #[.pointer (some ⟨g, 0, none⟩), .iface 28 (itV v)] w fun e w' => e = .returned (.tuple #[]) ∧ ∃ b', Pl w' g b' (l ++ [v]) ∧ Mv w g b b' w' := by
  obtain ⟨glt, blt, hne⟩ := h.lt
  obtain ⟨c, h1, h2⟩ := h
  obtain ⟨x, y, z⟩ := v
  obtain ⟨n, hn⟩ : ∃ n, l.length = n := ⟨_, rfl⟩
  rw [hn] at h1 h2 hl
  unfold itV
  simp only
  have as_ := as_item
  have HQ : Hid (Bx (w.alloc (.cells #[.int .i64 x, .int .i64 y, .int .i64 z] 28)) w.heap.size 28 #[.int .i64 x, .int .i64 y, .int .i64 z]) := Lib.hid (Bx.new _ _ rfl)
  have HQ2 : Hid (Bx ((w.alloc (.cells #[.int .i64 x, .int .i64 y, .int .i64 z] 28)).alloc (.cells #[.int .i64 x, .int .i64 y, .int .i64 z] 28)).drew w.heap.size 28 #[.int .i64 x, .int .i64 y, .int .i64 z]) := Lib.hid ((HQ.out.alloc _).drew)
  have HN : Hid (Bx ((w.alloc (.cells #[.int .i64 x, .int .i64 y, .int .i64 z] 28)).alloc (.cells #[.int .i64 x, .int .i64 y, .int .i64 z] 28)).drew (w.heap.size + 1) 28 #[.int .i64 x, .int .i64 y, .int .i64 z]) := Lib.hid ((Bx.new _ _ (by simp)).drew)
  have HG2 : Hid (Bx ((w.alloc (.cells #[.int .i64 x, .int .i64 y, .int .i64 z] 28)).alloc (.cells #[.int .i64 x, .int .i64 y, .int .i64 z] 28)).drew g 49 #[.slice (some ⟨b, 0, none⟩) n c]) := Lib.hid (((h1.alloc _).alloc _).drew)
  have HO2 : Hid (OwnT 28 b ((w.alloc (.cells #[.int .i64 x, .int .i64 y, .int .i64 z] 28)).alloc (.cells #[.int .i64 x, .int .i64 y, .int .i64 z] 28)).drew (.slice (some ⟨b, 0, none⟩) n c) l) := Lib.hid (row_below (OwnT.alloc (OwnT.alloc h2 _) _) (b_dr (Below.refl _ _)))
  have HW2 : Hid (Below w.heap.size w ((w.alloc (.cells #[.int .i64 x, .int .i64 y, .int .i64 z] 28)).alloc (.cells #[.int .i64 x, .int .i64 y, .int .i64 z] 28)).drew) := Lib.hid (b_dr (b_al (b_al (Below.refl _ _) (Nat.le_refl _) _) (Nat.le_refl _) _))
  have q1 : (w.alloc (.cells #[.int .i64 x, .int .i64 y, .int .i64 z] 28)).cell? ⟨g, 0, none⟩ = some (.slice (some ⟨b, 0, none⟩) n c) := (h1.alloc _).cell (k := 0) rfl
  have q2 : ((w.alloc (.cells #[.int .i64 x, .int .i64 y, .int .i64 z] 28)).alloc (.cells #[.int .i64 x, .int .i64 y, .int .i64 z] 28)).cell? ⟨g, 0, none⟩ = some (.slice (some ⟨b, 0, none⟩) n c) := ((h1.alloc _).alloc _).cell (k := 0) rfl
  have HL := Lib.hid hn
  clear h1 h2 hn
  go_enter Try.func44, Try.ntmps44
  go_upto_region 2 with (fail)
  refine wp_region_noPanic ?_
  refine wp_region_held_drew (S := fun w' => Bx w' w.heap.size 28 #[.int .i64 x, .int .i64 y, .int .i64 z]) (by kernel_rfl) ?_ (fun hHeld => ?_)
  · exact HQ.out.drew
  refine wpAnyH_take (i := 0) (oi := ⟨some 12, _, _, _, _, _⟩) (v := ?_) rfl (by kernel_rfl) (by kernel_rfl) (by kernel_rfl) (fun _ _ _ h => h) (Or.inl ⟨by rfl, ?_⟩) (by assumption) ?_
  rotate_left
  · (intro w' hSw; clear hSw; go_simp; try (with_reducible rfl))
  (try simp only [Act.put, List.setIfInBounds_toArray, List.set_cons_zero, List.set_cons_succ])
  refine wpAnyH_take (i := 1) (oi := ⟨some 13, _, _, _, _, _⟩) (v := ?_) rfl (by kernel_rfl) (by kernel_rfl) (by kernel_rfl) (fun _ _ _ h => h) (Or.inl ⟨by rfl, ?_⟩) (by assumption) ?_
  rotate_left
  · (intro w' hSw; clear hSw; go_simp; try (with_reducible rfl))
  (try simp only [Act.put, List.setIfInBounds_toArray, List.set_cons_zero, List.set_cons_succ])
  refine wpAnyH_take (i := 2) (oi := ⟨some 14, _, _, _, _, _⟩) (v := ?_) rfl (by kernel_rfl) (by kernel_rfl) (by kernel_rfl) (fun _ _ _ h => h) (Or.inl ⟨by rfl, ?_⟩) (by assumption) ?_
  rotate_left
  · (intro w' hSw; clear hSw; go_simp; try (with_reducible rfl))
  (try simp only [Act.put, List.setIfInBounds_toArray, List.set_cons_zero, List.set_cons_succ])
  refine wpAnyH_take (i := 4) (oi := ⟨some 16, _, _, _, _, _⟩) (v := .agg #[.int .i64 x, .int .i64 y, .int .i64 z]) rfl (by kernel_rfl) (by kernel_rfl) (by kernel_rfl) (fun _ _ _ h => h) (Or.inl ⟨by rfl, fun w' hSw => exec_load_box w.heap.size 28 #[.int .i64 x, .int .i64 y, .int .i64 z] _ w' rfl rfl hSw Try.underlying28 rfl (by kernel_rfl)⟩) (by assumption) ?_
  (try simp only [Act.put, List.setIfInBounds_toArray, List.set_cons_zero, List.set_cons_succ])
  refine wpAnyH_ready (rs := [3, 5]) (by kernel_rfl) (by simp) ?_
  refine AllReadyH.cons (o := ⟨some 15, _, _, _, _, _⟩) rfl (fun K hK => ?_) (AllReadyH.cons (o := ⟨some 17, _, _, _, _, _⟩) rfl (fun K hK => ?_) AllReadyH.nil)
  ·
    go_simp
    try go_wp2_with fail
    refine hK.out _ _ (HQ.out.drew) (fun hHeld => ?_)
    clear hK K
    (try simp only [Act.put, List.setIfInBounds_toArray, List.set_cons_zero, List.set_cons_succ])
    refine wpAnyH_ready (rs := [5]) (by kernel_rfl) (by simp) ?_
    refine AllReadyH.cons (o := ⟨some 17, _, _, _, _, _⟩) rfl (fun K hK => ?_) AllReadyH.nil
    go_simp
    try go_wp2_with fail
    refine hK.out _ _ (HQ2.out) (fun hHeld => ?_)
    clear hK K
    (try simp only [Act.put, List.setIfInBounds_toArray, List.set_cons_zero, List.set_cons_succ])
    refine wpAnyH_ready (rs := [6]) (by kernel_rfl) (by simp) ?_
    refine AllReadyH.cons (o := ⟨some 18, _, _, _, _, _⟩) rfl (fun K hK => ?_) AllReadyH.nil
    refine wp_app3 47 28 Try.underlying47 info_item _ _ rfl b (.slice (some ⟨b, 0, none⟩) n c) l rfl HO2.out (some ⟨w.heap.size + 1, 0, none⟩) 1 1 [(x, y, z)] (by first | rfl | simp) rfl (RdF.one HN.out) (fun h => by cases h) (by have := HL.out; omega) (by simp; omega) (fun v5 w5 o5 g5 a5 => ?_)
    have hz5 := g5.size
    have HB5 := Lib.hid (show Bx w5 w.heap.size 28 #[.int .i64 x, .int .i64 y, .int .i64 z] from (g5.block _ (by simp; omega) (fun e => by injection e with e; have e : w.heap.size = b := e; omega)).trans HQ2.out)
    have HG5 := Lib.hid (show Bx w5 g 49 #[.slice (some ⟨b, 0, none⟩) n c] from (g5.block _ (by simp; omega) (fun e => by injection e with e; have e : g = b := e; omega)).trans HG2.out)
    refine hK.out _ _ (HB5.out) (fun hHeld => ?_)
    clear hK K
    (try simp only [Act.put, List.setIfInBounds_toArray, List.set_cons_zero, List.set_cons_succ])
    refine wpAnyH_take (i := 7) (oi := ⟨some 19, _, _, _, _, _⟩) (v := ?_) rfl (by kernel_rfl) (by kernel_rfl) (by kernel_rfl) (fun _ _ _ h => h) (Or.inl ⟨by rfl, ?_⟩) (by assumption) ?_
    rotate_left
    · (intro w' hSw; clear hSw; go_simp; try (with_reducible rfl))
    (try simp only [Act.put, List.setIfInBounds_toArray, List.set_cons_zero, List.set_cons_succ])
    refine wpAnyH_ready (rs := [8]) (by kernel_rfl) (by simp) ?_
    refine AllReadyH.cons (o := ⟨none, _, _, _, _, _⟩) rfl (fun K hK => ?_) AllReadyH.nil
    obtain ⟨b5, c5, rfl, hb5⟩ := o5.some1 (by simp)
    have ge : b5 = b ∨ w.heap.size + 2 ≤ b5 := by
      rcases a5 b5 rfl with h | h
      · left; injection h with h; have h : b = b5 := h; exact h.symm
      · right; simpa using h
    have hne5 : b5 ≠ g := by omega
    refine wp_store_fld 47 _ _ rfl g 0 _ rfl rfl rfl 49 _ HG5.out (by simp) (by kernel_rfl) (fun w6 u => ?_)
    refine hK.out _ _ (u.bx HB5.out (by omega)) (fun hHeld => ?_)
    clear hK K
    (try simp only [Act.put])
    refine wpAnyH_done (by kernel_rfl) ?_ _
    refine NoPanic.normal ?_
    go_wp2_with fail
    refine bodyPost_end (results_none Try.results44 _ _ _) rfl ⟨rfl, b5, ?_, ?_⟩
    · exact Pl.of (by simp) u.box ((o5.kept (u.other b5 hne5)).re)
    · have m1 : Mv w g b b _ := Mv.of_below HW2.out
      have m2 := m1.trans (Mv.grown g5 (fun k e => by injection e with e; have e : b = k := e; exact e.symm))
      have m3 := m2.trans (Mv.box u)
      exact ⟨m3.size, m3.other, m3.bel, by omega⟩
  ·
    go_simp
    try go_wp2_with fail
    refine hK.out _ _ (HQ2.out) (fun hHeld => ?_)
    clear hK K
    (try simp only [Act.put, List.setIfInBounds_toArray, List.set_cons_zero, List.set_cons_succ])
    refine wpAnyH_ready (rs := [3]) (by kernel_rfl) (by simp) ?_
    refine AllReadyH.cons (o := ⟨some 15, _, _, _, _, _⟩) rfl (fun K hK => ?_) AllReadyH.nil
    go_simp
    try go_wp2_with fail
    refine hK.out _ _ (HQ2.out) (fun hHeld => ?_)
    clear hK K
    (try simp only [Act.put, List.setIfInBounds_toArray, List.set_cons_zero, List.set_cons_succ])
    refine wpAnyH_ready (rs := [6]) (by kernel_rfl) (by simp) ?_
    refine AllReadyH.cons (o := ⟨some 18, _, _, _, _, _⟩) rfl (fun K hK => ?_) AllReadyH.nil
    refine wp_app3 47 28 Try.underlying47 info_item _ _ rfl b (.slice (some ⟨b, 0, none⟩) n c) l rfl HO2.out (some ⟨w.heap.size + 1, 0, none⟩) 1 1 [(x, y, z)] (by first | rfl | simp) rfl (RdF.one HN.out) (fun h => by cases h) (by have := HL.out; omega) (by simp; omega) (fun v5 w5 o5 g5 a5 => ?_)
    have hz5 := g5.size
    have HB5 := Lib.hid (show Bx w5 w.heap.size 28 #[.int .i64 x, .int .i64 y, .int .i64 z] from (g5.block _ (by simp; omega) (fun e => by injection e with e; have e : w.heap.size = b := e; omega)).trans HQ2.out)
    have HG5 := Lib.hid (show Bx w5 g 49 #[.slice (some ⟨b, 0, none⟩) n c] from (g5.block _ (by simp; omega) (fun e => by injection e with e; have e : g = b := e; omega)).trans HG2.out)
    refine hK.out _ _ (HB5.out) (fun hHeld => ?_)
    clear hK K
    (try simp only [Act.put, List.setIfInBounds_toArray, List.set_cons_zero, List.set_cons_succ])
    refine wpAnyH_take (i := 7) (oi := ⟨some 19, _, _, _, _, _⟩) (v := ?_) rfl (by kernel_rfl) (by kernel_rfl) (by kernel_rfl) (fun _ _ _ h => h) (Or.inl ⟨by rfl, ?_⟩) (by assumption) ?_
    rotate_left
    · (intro w' hSw; clear hSw; go_simp; try (with_reducible rfl))
    (try simp only [Act.put, List.setIfInBounds_toArray, List.set_cons_zero, List.set_cons_succ])
    refine wpAnyH_ready (rs := [8]) (by kernel_rfl) (by simp) ?_
    refine AllReadyH.cons (o := ⟨none, _, _, _, _, _⟩) rfl (fun K hK => ?_) AllReadyH.nil
    obtain ⟨b5, c5, rfl, hb5⟩ := o5.some1 (by simp)
    have ge : b5 = b ∨ w.heap.size + 2 ≤ b5 := by
      rcases a5 b5 rfl with h | h
      · left; injection h with h; have h : b = b5 := h; exact h.symm
      · right; simpa using h
    have hne5 : b5 ≠ g := by omega
    refine wp_store_fld 47 _ _ rfl g 0 _ rfl rfl rfl 49 _ HG5.out (by simp) (by kernel_rfl) (fun w6 u => ?_)
    refine hK.out _ _ (u.bx HB5.out (by omega)) (fun hHeld => ?_)
    clear hK K
    (try simp only [Act.put])
    refine wpAnyH_done (by kernel_rfl) ?_ _
    refine NoPanic.normal ?_
    go_wp2_with fail
    refine bodyPost_end (results_none Try.results44 _ _ _) rfl ⟨rfl, b5, ?_, ?_⟩
    · exact Pl.of (by simp) u.box ((o5.kept (u.other b5 hne5)).re)
    · have m1 : Mv w g b b _ := Mv.of_below HW2.out
      have m2 := m1.trans (Mv.grown g5 (fun k e => by injection e with e; have e : b = k := e; exact e.symm))
      have m3 := m2.trans (Mv.box u)
      exact ⟨m3.size, m3.other, m3.bel, by omega⟩

end Go.Proofs.Ytpfmkggnnilknaa
