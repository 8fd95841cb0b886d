/- The methods that the library asks of a pile: Len, Less, Swap. Conditions: the pile lies as it is told, the places are of it. -/
import Derived.Test.YtpfmkggnnilknaaRows
import Derived.Test.YtpfmkggnnilknaaBase
import Derived.Test.YtpfmkggnnilknaaRow
import Derived.Test.YtpfmkggnnilknaaRecMath
import Derived.Test.YtpfmkggnnilknaaTriLt
import Derived.Test.YtpfmkggnnilknaaBox
import Derived.Test.YtpfmkggnnilknaaFindHeap
import Derived.Test.YtpfmkggnnilknaaTriHeap
import Derived.Test.YtpfmkggnnilknaaHeapMath
import Derived.Test.YtpfmkggnnilknaaHeapHeap
import Derived.Test.YtpfmkggnnilknaaHeapLeaf
import Derived.WalkKit
import Derived.WalkSpells
import Derived.WalkSmall
import Derived.Below
import Derived.Lib.Hide
import Derived.BigQuiet
import Derived.BigRegion
import Derived.Outline
import Derived.OwnWalk
import Derived.Deep.QuietTactic
import Derived.Deep.DeepCutAuto
import Derived.Deep.RegionWith
namespace Go.Proofs.Ytpfmkggnnilknaa
open Go.RowKit

theorem plen23_any {w : World} {g b : Nat} {l : List Rc} (h : Pl w g b l) :
    Calls Try.prog 41 #[.pointer (some ⟨g, 0, none⟩)] w fun e w' => e = .returned (.int .i64 (l.length : Int)) ∧ w = w' := by
  obtain ⟨c, h1⟩ := h.box
  have q0 := h1.cell (k := 0) rfl
  clear h h1
  go_enter Try.func41, Try.ntmps41
  go_wp2
  go_ret
  exact ⟨rfl, rfl⟩

theorem pless23_any {w : World} {g b : Nat} {l : List Rc} (h : Pl w g b l) (i j : Nat) (hi : i < l.length) (hj : j < l.length) :
    Calls Try.prog 42 #[.pointer (some ⟨g, 0, none⟩), .int .i64 (i : Int), .int .i64 (j : Int)] w fun e w' => e = .returned (.bool (decide (ltF (l.getD i rz) (l.getD j rz)))) ∧ Below w.heap.size w w' := by
  obtain ⟨c, h1, h2⟩ := h
  obtain ⟨i0, i1, i2⟩ := h2.range hi
  obtain ⟨j0, j1, j2⟩ := h2.range hj
  have q0 := h1.cell (k := 0) rfl
  obtain ⟨n, hn⟩ : ∃ n, l.length = n := ⟨_, rfl⟩
  obtain ⟨⟨x, y, z⟩, hx⟩ : ∃ x, l.getD i rz = x := ⟨_, rfl⟩
  obtain ⟨⟨x', y', z'⟩, hy⟩ : ∃ y, l.getD j rz = y := ⟨_, rfl⟩
  rw [hn] at hi hj q0
  rw [hx] at i0 i1 i2 ⊢
  rw [hy] at j0 j1 j2 ⊢
  clear h1 h2 hn hx hy
  have CO := fun W => order23_any W
  have CA := fun W => ahead23_any (x, y, z) (x', y', z') W
  obtain ⟨V, hV⟩ : ∃ V, decide (ltF (x, y, z) (x', y', z')) = V := ⟨_, rfl⟩
  rw [hV] at CA ⊢
  clear hV
  unfold itV at CA
  simp only at i0 i1 i2 j0 j1 j2 CA
  have p0 : ∀ P : BelowOf w, P.world.cell? ⟨g, 0, none⟩ = some (.slice (some ⟨b, 0, none⟩) n c) := fun P => P.cell q0
  have pi0 : ∀ P : BelowOf w, P.world.cell? ⟨b, i * 3, none⟩ = some (.int .i64 x) := fun P => P.cell i0
  have pi1 : ∀ P : BelowOf w, P.world.cell? ⟨b, i * 3 + 1, none⟩ = some (.int .i64 y) := fun P => P.cell i1
  have pi2 : ∀ P : BelowOf w, P.world.cell? ⟨b, i * 3 + 2, none⟩ = some (.int .i64 z) := fun P => P.cell i2
  have pj0 : ∀ P : BelowOf w, P.world.cell? ⟨b, j * 3, none⟩ = some (.int .i64 x') := fun P => P.cell j0
  have pj1 : ∀ P : BelowOf w, P.world.cell? ⟨b, j * 3 + 1, none⟩ = some (.int .i64 y') := fun P => P.cell j1
  have pj2 : ∀ P : BelowOf w, P.world.cell? ⟨b, j * 3 + 2, none⟩ = some (.int .i64 z') := fun P => P.cell j2
  have hi' : (i : Int) < n := by omega
  have hj' : (j : Int) < n := by omega
  clear q0 i0 i1 i2 j0 j1 j2
  go_enter Try.func42, Try.ntmps42
  go_upto_region 1 with (fail)
  refine wp_region_bel (by kernel_rfl) (by kernel_rfl) ?_
  repeat (go_big_quiet_step (first | (go_at_call 21; (with_reducible exact Calls.bel_of ((CO _).mono fun _ _ h => ⟨h.1, h.2 ▸ Below.refl _ _⟩))) | (go_at_call 24; (with_reducible exact Calls.bel_of (CA _)))))
  refine wpQuiet_nil ?_
  refine bel_all fun wq hbq => ?_
  clear p0 pi0 pi1 pi2 pj0 pj1 pj2
  go_wp2
  go_ret
  exact ⟨rfl, hbq⟩

theorem three_set : ∀ (a : Nat) (L : List Value) (u v x : Value), a + 3 ≤ L.length → L.take a ++ [u, v, x] ++ L.drop (a + 3) = ((L.set a u).set (a + 1) v).set (a + 2) x
  | 0, _ :: _ :: _ :: _, _, _, _, _ => rfl
  | 0, [], _, _, _, h => absurd h (by simp)
  | 0, [_], _, _, _, h => absurd h (by simp)
  | 0, [_, _], _, _, _, h => absurd h (by simp)
  | a + 1, [], _, _, _, h => absurd h (by simp)
  | a + 1, y :: L, u, v, x, h => by
    have := three_set a L u v x (by simpa using h)
    simp only [List.set_cons_succ, List.take_succ_cons, List.cons_append, show a + 1 + 3 = (a + 3) + 1 by omega, List.drop_succ_cons, show a + 1 + 2 = (a + 2) + 1 by omega]
    rw [← this]

theorem put3_set {cur : Array Value} {k : Nat} (x : Rc) (h : k * 3 + 3 ≤ cur.size) : put3 cur k x = ((cur.setIfInBounds (k * 3) (.int .i64 x.1)).setIfInBounds (k * 3 + 1) (.int .i64 x.2.1)).setIfInBounds (k * 3 + 2) (.int .i64 x.2.2) := by
  apply Array.ext'
  unfold put3
  simp only [Array.toList_setIfInBounds]
  exact three_set _ _ _ _ _ (by simpa using h)

/-- A triple that is stored cell by cell. -/
theorem stored3 {w : World} {b k : Nat} {T : TypeId} {cur : Array Value} (x : Rc) (hb : Bx w b T cur) (h : k * 3 + 3 ≤ cur.size) :
    Upd w b T (put3 cur k x) (((w.setCell ⟨b, k * 3, none⟩ (.int .i64 x.1)).setCell ⟨b, k * 3 + 1, none⟩ (.int .i64 x.2.1)).setCell ⟨b, k * 3 + 2, none⟩ (.int .i64 x.2.2)) := by
  rw [put3_set x h]
  have u1 := Bx.setOne (k := k * 3) (v := .int .i64 x.1) hb
  have u2 := Bx.setOne (k := k * 3 + 1) (v := .int .i64 x.2.1) u1.box
  have u3 := Bx.setOne (k := k * 3 + 2) (v := .int .i64 x.2.2) u2.box
  exact (u1.trans u2).trans u3

theorem cell_stored {W : World} {q : Addr} {v : Value} (h : W.cell? q = some v) (p : Addr) (u : Value) : ∃ x, (W.setCell p u).cell? q = some x := by
  by_cases e : q = p
  · subst e
    exact ⟨u, World.cell?_setCell_same' _ _ _ (by rw [h]; rfl)⟩
  · exact ⟨v, by rw [World.cell?_setCell_other _ _ _ _ (fun c => e c.symm)]; exact h⟩

set_option maxHeartbeats 1600000 in
theorem pswap23_any {w : World} {g b : Nat} {l : List Rc} (h : Pl w g b l) (i j : Nat) (hi : i < l.length) (hj : j < l.length) :
    Calls Try.prog 45 #[.pointer (some ⟨g, 0, none⟩), .int .i64 (i : Int), .int .i64 (j : Int)] w fun e w' => e = .returned (.tuple #[]) ∧ Pl w' g b (sw l i j) ∧ Mv w g b b w' := by
  obtain ⟨c, h1, h2⟩ := h
  obtain ⟨i0, i1, i2⟩ := h2.range hi
  obtain ⟨j0, j1, j2⟩ := h2.range hj
  have q0 := h1.cell (k := 0) rfl
  obtain ⟨n, hn⟩ : ∃ n, l.length = n := ⟨_, rfl⟩
  obtain ⟨⟨x, y, z⟩, hx⟩ : ∃ x, l.getD i rz = x := ⟨_, rfl⟩
  obtain ⟨⟨x', y', z'⟩, hy⟩ : ∃ y, l.getD j rz = y := ⟨_, rfl⟩
  rw [hn] at hi hj q0 h1 h2
  rw [hx] at i0 i1 i2
  rw [hy] at j0 j1 j2
  simp only at i0 i1 i2 j0 j1 j2
  have hi' : (i : Int) < n := by omega
  have hj' : (j : Int) < n := by omega
  obtain ⟨cur, _, hb, _⟩ := h2.cur
  have f0 : w.frozen? ⟨b, i * 3, none⟩ = false := hb.free _
  have f1 : w.frozen? ⟨b, i * 3 + 1, none⟩ = false := hb.free _
  have f2 : w.frozen? ⟨b, i * 3 + 2, none⟩ = false := hb.free _
  have f3 : w.frozen? ⟨b, j * 3, none⟩ = false := hb.free _
  have f4 : w.frozen? ⟨b, j * 3 + 1, none⟩ = false := hb.free _
  have f5 : w.frozen? ⟨b, j * 3 + 2, none⟩ = false := hb.free _
  obtain ⟨_, k1⟩ := cell_stored i1 ⟨b, i * 3, none⟩ (.int .i64 x')
  obtain ⟨_, m1⟩ := cell_stored i2 ⟨b, i * 3, none⟩ (.int .i64 x')
  obtain ⟨_, k2⟩ := cell_stored m1 ⟨b, i * 3 + 1, none⟩ (.int .i64 y')
  obtain ⟨_, m2⟩ := cell_stored j0 ⟨b, i * 3, none⟩ (.int .i64 x')
  obtain ⟨_, m3⟩ := cell_stored m2 ⟨b, i * 3 + 1, none⟩ (.int .i64 y')
  obtain ⟨_, k3⟩ := cell_stored m3 ⟨b, i * 3 + 2, none⟩ (.int .i64 z')
  obtain ⟨_, m4⟩ := cell_stored j1 ⟨b, i * 3, none⟩ (.int .i64 x')
  obtain ⟨_, m5⟩ := cell_stored m4 ⟨b, i * 3 + 1, none⟩ (.int .i64 y')
  obtain ⟨_, m6⟩ := cell_stored m5 ⟨b, i * 3 + 2, none⟩ (.int .i64 z')
  obtain ⟨_, k4⟩ := cell_stored m6 ⟨b, j * 3, none⟩ (.int .i64 x)
  obtain ⟨_, m7⟩ := cell_stored j2 ⟨b, i * 3, none⟩ (.int .i64 x')
  obtain ⟨_, m8⟩ := cell_stored m7 ⟨b, i * 3 + 1, none⟩ (.int .i64 y')
  obtain ⟨_, m9⟩ := cell_stored m8 ⟨b, i * 3 + 2, none⟩ (.int .i64 z')
  obtain ⟨_, m10⟩ := cell_stored m9 ⟨b, j * 3, none⟩ (.int .i64 x)
  obtain ⟨_, k5⟩ := cell_stored m10 ⟨b, j * 3 + 1, none⟩ (.int .i64 y)
  clear m1 m2 m3 m4 m5 m6 m7 m8 m9 m10
  have HB := Lib.hid hb
  have HO := Lib.hid h2
  have H1 := Lib.hid h1
  clear hb h1 h2
  go_enter Try.func45, Try.ntmps45
  go_region
  go_wp2
  refine bodyPost_end (results_none Try.results45 _ _ _) rfl ⟨rfl, ?_⟩
  obtain ⟨cur', _, hb', m1, m2, m3, m4, m5⟩ := HO.out.cur
  have e : cur' = cur := by
    have hb := HB.out
    unfold Bx at hb hb'
    rw [hb] at hb'
    injection hb' with hb'
    injection hb' with hb'
    exact hb'.symm
  subst e
  have u1 := stored3 (k := i) (x', y', z') HB.out (by omega)
  have u2 := stored3 (k := j) (x, y, z) u1.box (by rw [put3_size _ (by omega)]; omega)
  have r1 := HO.out.put HB.out (by omega) _ u1
  have r2 := r1.put u1.box (by omega) _ u2
  have hne : g ≠ b := fun e => by
    have h1 := H1.out
    subst e
    unfold Bx at h1 hb'
    rw [h1] at hb'
    injection hb' with hb'
    injection hb' with _ hb' _
    exact absurd hb' (by decide)
  have hs : sw l i j = (l.set i (x', y', z')).set j (x, y, z) := by unfold sw; rw [hx, hy]
  have u := u1.trans u2
  rw [hs]
  exact ⟨(Pl.of (by simpa using hn) (u.bx H1.out hne) r2).drew, (Mv.row u).below (b_dr (Below.refl _ _))⟩

end Go.Proofs.Ytpfmkggnnilknaa
