/- What the function of layer 20 does that Visits hands to follow. Conditions: as each theorem says. -/
import Derived.Test.YthiiipbfdgaemaaRows
import Derived.Test.YthiiipbfdgaemaaZ1
import Derived.Test.YthiiipbfdgaemaaZ2
import Derived.Test.YthiiipbfdgaemaaZ4
import Derived.Test.YthiiipbfdgaemaaTrailVis
import Derived.WalkKit
import Derived.WalkSpells
import Derived.WalkSmall
import Derived.Below
import Derived.Lib.Hide
import Derived.Outline
import Derived.Deep.DeepCutAuto
import Derived.OwnWalk
import Derived.BigQuiet
import Derived.Deep.QuietTactic
import Derived.Deep.LoopGhost
import Derived.WalkMore
import Derived.OrdersHeld
import Derived.Deep.RegionHeld3
import Derived.OneCell
import Derived.Laws.AppendOwn
import Derived.BigRegion
namespace Go.Proofs.Ythiiipbfdgaemaa
open Go.RowKit

theorem VisS.setB {base B Z L : Nat} {g g' : Vt} {o : List Vt} {W W' : World} (h : VisS base B Z L g o W) (u : Upd W B 49 (vt3 g') W') : VisS base B Z L g' o W' := by
  obtain ⟨v, hv, ho⟩ := h.bL
  exact ⟨u.box, u.bx h.bZ h.nz, ⟨v, u.bx hv (fun e => h.ne e.symm), ho.upd u h.lb⟩, h.lb, h.lz, h.ll, h.ne, h.nz, h.nl, by rw [u.size]; exact h.sz⟩
theorem vt3_one (g : Vt) : (vt3 g).all (·.oneCell') = true := by simp [vt3, Value.oneCell']
theorem size_vis : (Try.prog.info? 49).map (·.size) = some 3 := by kernel_rfl
theorem vis_news {w : World} {n : Nat} (hn : n = w.heap.size) {k x y : Int} {t : TypeId} : ∀ j u, ([.int .i64 k, .int .i64 x, .int .i64 y] : List Value)[j]? = some u → (w.alloc (.cells #[.int .i64 k, .int .i64 x, .int .i64 y] t)).cell? ((⟨n, 0, none⟩ : Addr).add j) = some u := find_news hn

set_option maxRecDepth 20000 in
set_option maxHeartbeats 2000000 in
theorem vis20_other (base B Z L : Nat) (k a b s1 s2 s3 t1 t2 t3 : Int) (f : Fs) (g : Vt) (o : List Vt) (W : World) (h : VisS base B Z L g o W) (hk : ¬ k = 2) :
    Calls Try.prog 33 #[.agg (pc13 k a b (s1, s2, s3) (t1, t2, t3) f), .pointer (some ⟨B, 0, none⟩), .pointer (some ⟨Z, 0, none⟩), .pointer (some ⟨L, 0, none⟩)] W fun e W' => e = .returned (.tuple #[]) ∧ VisS base B Z L (pieceV k a b (s1, s2, s3) (t1, t2, t3) g o).1 (pieceV k a b (s1, s2, s3) (t1, t2, t3) g o).2 W' ∧ KpT 49 base B L W W' := by
  have e1 : (k != 2) = true := by simp [hk]
  have PV := Lib.hid (piece_no (k := k) (a := a) (b := b) (s := (s1, s2, s3)) (s' := (t1, t2, t3)) g o (fun c => hk c.1))
  clear hk
  have HX0 := Lib.hid (show Bx (W.alloc (.cells (pc13 k a b (s1, s2, s3) (t1, t2, t3) f) 68)) W.heap.size 68 (pc13 k a b (s1, s2, s3) (t1, t2, t3) f) from Bx.new (W := W) _ _ rfl)
  have HV0 := Lib.hid (h.below (b_al (Below.refl _ _) (Nat.le_refl _) (.cells (pc13 k a b (s1, s2, s3) (t1, t2, t3) f) 68)))
  have HK0 := Lib.hid (KpT.of_below (T := 49) (base := base) (E := B) (L := L) (b_al (Below.refl W.heap.size W) (Nat.le_refl _) (.cells (pc13 k a b (s1, s2, s3) (t1, t2, t3) f) 68)) rfl)
  have lw : W.heap.size < (W.alloc (.cells (pc13 k a b (s1, s2, s3) (t1, t2, t3) f) 68)).heap.size := by simp
  have hBw : B < W.heap.size := h.bB.lt
  have hZw : Z < W.heap.size := h.bZ.lt
  have hBL := h.ne
  have hlb := h.lb
  have hll := h.ll
  have hsz := h.sz
  clear h
  go_enter Try.func33, Try.ntmps33
  go_upto_region 1 with fail
  generalize W.alloc (.cells (pc13 k a b (s1, s2, s3) (t1, t2, t3) f) 68) = W1 at *
  have p0 : W1.cell? ⟨W.heap.size, 0, none⟩ = some (.int .i64 k) := HX0.out.cell (k := 0) rfl
  have p1 : W1.cell? ⟨W.heap.size, 1, none⟩ = some (.int .i64 a) := HX0.out.cell (k := 1) rfl
  have p2 : W1.cell? ⟨W.heap.size, 2, none⟩ = some (.int .i64 b) := HX0.out.cell (k := 2) rfl
  have p3 : W1.cell? ⟨W.heap.size, 3, none⟩ = some (.int .i64 s1) := HX0.out.cell (k := 3) rfl
  have p4 : W1.cell? ⟨W.heap.size, 4, none⟩ = some (.int .i64 s2) := HX0.out.cell (k := 4) rfl
  have p5 : W1.cell? ⟨W.heap.size, 5, none⟩ = some (.int .i64 s3) := HX0.out.cell (k := 5) rfl
  have p6 : W1.cell? ⟨W.heap.size, 6, none⟩ = some (.int .i64 t1) := HX0.out.cell (k := 6) rfl
  have p7 : W1.cell? ⟨W.heap.size, 7, none⟩ = some (.int .i64 t2) := HX0.out.cell (k := 7) rfl
  have p8 : W1.cell? ⟨W.heap.size, 8, none⟩ = some (.int .i64 t3) := HX0.out.cell (k := 8) rfl
  go_wp2_with go_skip
  exact bodyPost_ret (results_none Try.results33 _ _ _) rfl ⟨rfl, by rw [PV.out]; exact HV0.out, HK0.out⟩

set_option maxRecDepth 20000 in
set_option maxHeartbeats 2000000 in
theorem vis20_same (base B Z L : Nat) (k a b s1 s2 s3 t1 t2 t3 : Int) (f : Fs) (g : Vt) (o : List Vt) (W : World) (h : VisS base B Z L g o W) (h1 : s1 = t1) (h2 : s2 = t2) (h3 : s3 = t3) (hk : k = 2) :
    Calls Try.prog 33 #[.agg (pc13 k a b (s1, s2, s3) (t1, t2, t3) f), .pointer (some ⟨B, 0, none⟩), .pointer (some ⟨Z, 0, none⟩), .pointer (some ⟨L, 0, none⟩)] W fun e W' => e = .returned (.tuple #[]) ∧ VisS base B Z L (pieceV k a b (s1, s2, s3) (t1, t2, t3) g o).1 (pieceV k a b (s1, s2, s3) (t1, t2, t3) g o).2 W' ∧ KpT 49 base B L W W' := by
  have e1 : (k != 2) = false := by simp [hk]
  have PV := Lib.hid (piece_no (k := k) (a := a) (b := b) (s := (s1, s2, s3)) (s' := (t1, t2, t3)) g o (fun c => c.2 (by rw [h1, h2, h3])))
  have e2 : (s1 == t1) = true := by simp [h1]
  have e3 : (s2 == t2) = true := by simp [h2]
  have e4 : (s3 == t3) = true := by simp [h3]
  clear hk h1 h2 h3
  have HX0 := Lib.hid (show Bx (W.alloc (.cells (pc13 k a b (s1, s2, s3) (t1, t2, t3) f) 68)) W.heap.size 68 (pc13 k a b (s1, s2, s3) (t1, t2, t3) f) from Bx.new (W := W) _ _ rfl)
  have HV0 := Lib.hid (h.below (b_al (Below.refl _ _) (Nat.le_refl _) (.cells (pc13 k a b (s1, s2, s3) (t1, t2, t3) f) 68)))
  have HK0 := Lib.hid (KpT.of_below (T := 49) (base := base) (E := B) (L := L) (b_al (Below.refl W.heap.size W) (Nat.le_refl _) (.cells (pc13 k a b (s1, s2, s3) (t1, t2, t3) f) 68)) rfl)
  have lw : W.heap.size < (W.alloc (.cells (pc13 k a b (s1, s2, s3) (t1, t2, t3) f) 68)).heap.size := by simp
  have hBw : B < W.heap.size := h.bB.lt
  have hZw : Z < W.heap.size := h.bZ.lt
  have hBL := h.ne
  have hlb := h.lb
  have hll := h.ll
  have hsz := h.sz
  clear h
  go_enter Try.func33, Try.ntmps33
  go_upto_region 1 with fail
  generalize W.alloc (.cells (pc13 k a b (s1, s2, s3) (t1, t2, t3) f) 68) = W1 at *
  have p0 : W1.cell? ⟨W.heap.size, 0, none⟩ = some (.int .i64 k) := HX0.out.cell (k := 0) rfl
  have p1 : W1.cell? ⟨W.heap.size, 1, none⟩ = some (.int .i64 a) := HX0.out.cell (k := 1) rfl
  have p2 : W1.cell? ⟨W.heap.size, 2, none⟩ = some (.int .i64 b) := HX0.out.cell (k := 2) rfl
  have p3 : W1.cell? ⟨W.heap.size, 3, none⟩ = some (.int .i64 s1) := HX0.out.cell (k := 3) rfl
  have p4 : W1.cell? ⟨W.heap.size, 4, none⟩ = some (.int .i64 s2) := HX0.out.cell (k := 4) rfl
  have p5 : W1.cell? ⟨W.heap.size, 5, none⟩ = some (.int .i64 s3) := HX0.out.cell (k := 5) rfl
  have p6 : W1.cell? ⟨W.heap.size, 6, none⟩ = some (.int .i64 t1) := HX0.out.cell (k := 6) rfl
  have p7 : W1.cell? ⟨W.heap.size, 7, none⟩ = some (.int .i64 t2) := HX0.out.cell (k := 7) rfl
  have p8 : W1.cell? ⟨W.heap.size, 8, none⟩ = some (.int .i64 t3) := HX0.out.cell (k := 8) rfl
  go_wp2_with go_skip
  exact bodyPost_ret (results_none Try.results33 _ _ _) rfl ⟨rfl, by rw [PV.out]; exact HV0.out, HK0.out⟩

set_option maxRecDepth 20000 in
set_option maxHeartbeats 2000000 in
theorem vis20_on (base B Z L : Nat) (k a b s1 s2 s3 t1 t2 t3 : Int) (f : Fs) (g : Vt) (o : List Vt) (W : World) (h : VisS base B Z L g o W) (h1 : s1 = t1) (h2 : s2 = t2) (h3 : ¬ s3 = t3) (hk : k = 2) (h0 : ¬ s3 = 0) :
    Calls Try.prog 33 #[.agg (pc13 k a b (s1, s2, s3) (t1, t2, t3) f), .pointer (some ⟨B, 0, none⟩), .pointer (some ⟨Z, 0, none⟩), .pointer (some ⟨L, 0, none⟩)] W fun e W' => e = .returned (.tuple #[]) ∧ VisS base B Z L (pieceV k a b (s1, s2, s3) (t1, t2, t3) g o).1 (pieceV k a b (s1, s2, s3) (t1, t2, t3) g o).2 W' ∧ KpT 49 base B L W W' := by
  have e1 : (k != 2) = false := by simp [hk]
  have PV := Lib.hid ((piece_go (k := k) (a := a) (b := b) (s := (s1, s2, s3)) (s' := (t1, t2, t3)) (g := g) o ⟨hk, fun c => h3 (congrArg (fun p : Pt => p.2.2) c)⟩ (fun c => by have := c.1; simp only at this; omega)).trans (by rw [bgn_old h0]))
  have e2 : (s1 == t1) = true := by simp [h1]
  have e3 : (s2 == t2) = true := by simp [h2]
  have e4 : (s3 == t3) = false := by simp [h3]
  have e5 : (s3 == 0) = false := by simp [h0]
  have e6 : t1 ≤ s1 := by omega
  clear hk h1 h2 h3 h0
  have HX0 := Lib.hid (show Bx (W.alloc (.cells (pc13 k a b (s1, s2, s3) (t1, t2, t3) f) 68)) W.heap.size 68 (pc13 k a b (s1, s2, s3) (t1, t2, t3) f) from Bx.new (W := W) _ _ rfl)
  have HV0 := Lib.hid (h.below (b_al (Below.refl _ _) (Nat.le_refl _) (.cells (pc13 k a b (s1, s2, s3) (t1, t2, t3) f) 68)))
  have HK0 := Lib.hid (KpT.of_below (T := 49) (base := base) (E := B) (L := L) (b_al (Below.refl W.heap.size W) (Nat.le_refl _) (.cells (pc13 k a b (s1, s2, s3) (t1, t2, t3) f) 68)) rfl)
  have lw : W.heap.size < (W.alloc (.cells (pc13 k a b (s1, s2, s3) (t1, t2, t3) f) 68)).heap.size := by simp
  have hBw : B < W.heap.size := h.bB.lt
  have hZw : Z < W.heap.size := h.bZ.lt
  have hBL := h.ne
  have hlb := h.lb
  have hll := h.ll
  have hsz := h.sz
  clear h
  go_enter Try.func33, Try.ntmps33
  go_upto_region 1 with fail
  generalize W.alloc (.cells (pc13 k a b (s1, s2, s3) (t1, t2, t3) f) 68) = W1 at *
  have p0 : W1.cell? ⟨W.heap.size, 0, none⟩ = some (.int .i64 k) := HX0.out.cell (k := 0) rfl
  have p1 : W1.cell? ⟨W.heap.size, 1, none⟩ = some (.int .i64 a) := HX0.out.cell (k := 1) rfl
  have p2 : W1.cell? ⟨W.heap.size, 2, none⟩ = some (.int .i64 b) := HX0.out.cell (k := 2) rfl
  have p3 : W1.cell? ⟨W.heap.size, 3, none⟩ = some (.int .i64 s1) := HX0.out.cell (k := 3) rfl
  have p4 : W1.cell? ⟨W.heap.size, 4, none⟩ = some (.int .i64 s2) := HX0.out.cell (k := 4) rfl
  have p5 : W1.cell? ⟨W.heap.size, 5, none⟩ = some (.int .i64 s3) := HX0.out.cell (k := 5) rfl
  have p6 : W1.cell? ⟨W.heap.size, 6, none⟩ = some (.int .i64 t1) := HX0.out.cell (k := 6) rfl
  have p7 : W1.cell? ⟨W.heap.size, 7, none⟩ = some (.int .i64 t2) := HX0.out.cell (k := 7) rfl
  have p8 : W1.cell? ⟨W.heap.size, 8, none⟩ = some (.int .i64 t3) := HX0.out.cell (k := 8) rfl
  go_wp2_with go_skip
  exact bodyPost_end (results_none Try.results33 _ _ _) rfl ⟨rfl, by rw [PV.out]; exact HV0.out, HK0.out⟩

set_option maxRecDepth 20000 in
set_option maxHeartbeats 2000000 in
theorem vis20_first (base B Z L : Nat) (k a b s1 s2 s3 t1 t2 t3 : Int) (f : Fs) (g : Vt) (o : List Vt) (W : World) (h : VisS base B Z L g o W) (h1 : s1 = t1) (h2 : s2 = t2) (h3 : ¬ s3 = t3) (hk : k = 2) (h0 : s3 = 0) :
    Calls Try.prog 33 #[.agg (pc13 k a b (s1, s2, s3) (t1, t2, t3) f), .pointer (some ⟨B, 0, none⟩), .pointer (some ⟨Z, 0, none⟩), .pointer (some ⟨L, 0, none⟩)] W fun e W' => e = .returned (.tuple #[]) ∧ VisS base B Z L (pieceV k a b (s1, s2, s3) (t1, t2, t3) g o).1 (pieceV k a b (s1, s2, s3) (t1, t2, t3) g o).2 W' ∧ KpT 49 base B L W W' := by
  have e1 : (k != 2) = false := by simp [hk]
  have PV := Lib.hid ((piece_go (k := k) (a := a) (b := b) (s := (s1, s2, s3)) (s' := (t1, t2, t3)) (g := g) o ⟨hk, fun c => h3 (congrArg (fun p : Pt => p.2.2) c)⟩ (fun c => by have := c.1; simp only at this; omega)).trans (by rw [bgn_new h0]))
  have e2 : (s1 == t1) = true := by simp [h1]
  have e3 : (s2 == t2) = true := by simp [h2]
  have e4 : (s3 == t3) = false := by simp [h3]
  have e5 : (s3 == 0) = true := by simp [h0]
  have e6 : t1 ≤ s1 := by omega
  clear hk h1 h2 h3 h0
  have HX0 := Lib.hid (show Bx (W.alloc (.cells (pc13 k a b (s1, s2, s3) (t1, t2, t3) f) 68)) W.heap.size 68 (pc13 k a b (s1, s2, s3) (t1, t2, t3) f) from Bx.new (W := W) _ _ rfl)
  have HV0 := Lib.hid (h.below (b_al (Below.refl _ _) (Nat.le_refl _) (.cells (pc13 k a b (s1, s2, s3) (t1, t2, t3) f) 68)))
  have HK0 := Lib.hid (KpT.of_below (T := 49) (base := base) (E := B) (L := L) (b_al (Below.refl W.heap.size W) (Nat.le_refl _) (.cells (pc13 k a b (s1, s2, s3) (t1, t2, t3) f) 68)) rfl)
  have lw : W.heap.size < (W.alloc (.cells (pc13 k a b (s1, s2, s3) (t1, t2, t3) f) 68)).heap.size := by simp
  have hBw : B < W.heap.size := h.bB.lt
  have hZw : Z < W.heap.size := h.bZ.lt
  have hBL := h.ne
  have hlb := h.lb
  have hll := h.ll
  have hsz := h.sz
  clear h
  go_enter Try.func33, Try.ntmps33
  go_upto_region 1 with fail
  generalize W.alloc (.cells (pc13 k a b (s1, s2, s3) (t1, t2, t3) f) 68) = W1 at *
  have p0 : W1.cell? ⟨W.heap.size, 0, none⟩ = some (.int .i64 k) := HX0.out.cell (k := 0) rfl
  have p1 : W1.cell? ⟨W.heap.size, 1, none⟩ = some (.int .i64 a) := HX0.out.cell (k := 1) rfl
  have p2 : W1.cell? ⟨W.heap.size, 2, none⟩ = some (.int .i64 b) := HX0.out.cell (k := 2) rfl
  have p3 : W1.cell? ⟨W.heap.size, 3, none⟩ = some (.int .i64 s1) := HX0.out.cell (k := 3) rfl
  have p4 : W1.cell? ⟨W.heap.size, 4, none⟩ = some (.int .i64 s2) := HX0.out.cell (k := 4) rfl
  have p5 : W1.cell? ⟨W.heap.size, 5, none⟩ = some (.int .i64 s3) := HX0.out.cell (k := 5) rfl
  have p6 : W1.cell? ⟨W.heap.size, 6, none⟩ = some (.int .i64 t1) := HX0.out.cell (k := 6) rfl
  have p7 : W1.cell? ⟨W.heap.size, 7, none⟩ = some (.int .i64 t2) := HX0.out.cell (k := 7) rfl
  have p8 : W1.cell? ⟨W.heap.size, 8, none⟩ = some (.int .i64 t3) := HX0.out.cell (k := 8) rfl
  go_wp2_with (first | go_skip | (refine wpList_store_box (by rfl) 49 _ _ rfl B (vt3 (s1, a, 0)) rfl rfl 49 (vt3 g) HV0.out.bB size_vis rfl (vt3_one _) (fun W2 u2 => ?_); have HX2 := Lib.hid (u2.bx HX0.out (by omega)); have HV2 := Lib.hid (HV0.out.setB u2); have HK2 := Lib.hid (HK0.out.upd u2 (.inl rfl)); have p22 : W2.cell? ⟨W.heap.size, 2, none⟩ = some (.int .i64 b) := HX2.out.cell (k := 2) rfl; have p32 : W2.cell? ⟨W.heap.size, 3, none⟩ = some (.int .i64 s1) := HX2.out.cell (k := 3) rfl; have p62 : W2.cell? ⟨W.heap.size, 6, none⟩ = some (.int .i64 t1) := HX2.out.cell (k := 6) rfl; have q02 : W2.cell? ⟨B, 0, none⟩ = some (.int .i64 s1) := HV2.out.bB.cell (k := 0) rfl; have q12 : W2.cell? ⟨B, 1, none⟩ = some (.int .i64 a) := HV2.out.bB.cell (k := 1) rfl; have q22 : W2.cell? ⟨B, 2, none⟩ = some (.int .i64 0) := HV2.out.bB.cell (k := 2) rfl; have lw2 := HX2.out.lt; have lb2 := HV2.out.bB.lt; have lz2 := HV2.out.bZ.lt; clear u2))
  exact bodyPost_end (results_none Try.results33 _ _ _) rfl ⟨rfl, by rw [PV.out]; exact HV2.out, HK2.out⟩

set_option maxRecDepth 20000 in
set_option maxHeartbeats 2000000 in
theorem vis20_none (base B Z L : Nat) (k a b s1 s2 s3 t1 t2 t3 : Int) (f : Fs) (g : Vt) (o : List Vt) (W : World) (h : VisS base B Z L g o W) (h1 : s1 < t1) (hk : k = 2) (h0 : ¬ s3 = 0) (hg : g = (-1, 0, 0)) :
    Calls Try.prog 33 #[.agg (pc13 k a b (s1, s2, s3) (t1, t2, t3) f), .pointer (some ⟨B, 0, none⟩), .pointer (some ⟨Z, 0, none⟩), .pointer (some ⟨L, 0, none⟩)] W fun e W' => e = .returned (.tuple #[]) ∧ VisS base B Z L (pieceV k a b (s1, s2, s3) (t1, t2, t3) g o).1 (pieceV k a b (s1, s2, s3) (t1, t2, t3) g o).2 W' ∧ KpT 49 base B L W W' := by
  have e1 : (k != 2) = false := by simp [hk]
  have PV := Lib.hid ((piece_go (k := k) (a := a) (b := b) (s := (s1, s2, s3)) (s' := (t1, t2, t3)) (g := g) o ⟨hk, fun c => by have := congrArg (fun p : Pt => p.1) c; simp only at this; omega⟩ (fun c => c.2 (by rw [bgn_old h0, hg]))).trans (by rw [bgn_old h0]))
  have e2 : (s1 == t1) = false := by simp; omega
  have e5 : (s3 == 0) = false := by simp [h0]
  clear hk h0
  have HX0 := Lib.hid (show Bx (W.alloc (.cells (pc13 k a b (s1, s2, s3) (t1, t2, t3) f) 68)) W.heap.size 68 (pc13 k a b (s1, s2, s3) (t1, t2, t3) f) from Bx.new (W := W) _ _ rfl)
  have HV0 := Lib.hid (h.below (b_al (Below.refl _ _) (Nat.le_refl _) (.cells (pc13 k a b (s1, s2, s3) (t1, t2, t3) f) 68)))
  have HK0 := Lib.hid (KpT.of_below (T := 49) (base := base) (E := B) (L := L) (b_al (Below.refl W.heap.size W) (Nat.le_refl _) (.cells (pc13 k a b (s1, s2, s3) (t1, t2, t3) f) 68)) rfl)
  have lw : W.heap.size < (W.alloc (.cells (pc13 k a b (s1, s2, s3) (t1, t2, t3) f) 68)).heap.size := by simp
  have hBw : B < W.heap.size := h.bB.lt
  have hZw : Z < W.heap.size := h.bZ.lt
  have hBL := h.ne
  have hlb := h.lb
  have hll := h.ll
  have hsz := h.sz
  clear h
  go_enter Try.func33, Try.ntmps33
  go_upto_region 1 with fail
  generalize W.alloc (.cells (pc13 k a b (s1, s2, s3) (t1, t2, t3) f) 68) = W1 at *
  have p0 : W1.cell? ⟨W.heap.size, 0, none⟩ = some (.int .i64 k) := HX0.out.cell (k := 0) rfl
  have p1 : W1.cell? ⟨W.heap.size, 1, none⟩ = some (.int .i64 a) := HX0.out.cell (k := 1) rfl
  have p2 : W1.cell? ⟨W.heap.size, 2, none⟩ = some (.int .i64 b) := HX0.out.cell (k := 2) rfl
  have p3 : W1.cell? ⟨W.heap.size, 3, none⟩ = some (.int .i64 s1) := HX0.out.cell (k := 3) rfl
  have p4 : W1.cell? ⟨W.heap.size, 4, none⟩ = some (.int .i64 s2) := HX0.out.cell (k := 4) rfl
  have p5 : W1.cell? ⟨W.heap.size, 5, none⟩ = some (.int .i64 s3) := HX0.out.cell (k := 5) rfl
  have p6 : W1.cell? ⟨W.heap.size, 6, none⟩ = some (.int .i64 t1) := HX0.out.cell (k := 6) rfl
  have p7 : W1.cell? ⟨W.heap.size, 7, none⟩ = some (.int .i64 t2) := HX0.out.cell (k := 7) rfl
  have p8 : W1.cell? ⟨W.heap.size, 8, none⟩ = some (.int .i64 t3) := HX0.out.cell (k := 8) rfl
  have z0 : W1.cell? ⟨Z, 0, none⟩ = some (.int .i64 (-1)) := HV0.out.bZ.cell (k := 0) rfl
  have z1 : W1.cell? ⟨Z, 1, none⟩ = some (.int .i64 0) := HV0.out.bZ.cell (k := 1) rfl
  have z2 : W1.cell? ⟨Z, 2, none⟩ = some (.int .i64 0) := HV0.out.bZ.cell (k := 2) rfl
  have q0 : W1.cell? ⟨B, 0, none⟩ = some (.int .i64 (-1)) := by have := HV0.out.bB.cell (k := 0) rfl; rw [hg] at this; exact this
  have q1 : W1.cell? ⟨B, 1, none⟩ = some (.int .i64 0) := by have := HV0.out.bB.cell (k := 1) rfl; rw [hg] at this; exact this
  have q2 : W1.cell? ⟨B, 2, none⟩ = some (.int .i64 0) := by have := HV0.out.bB.cell (k := 2) rfl; rw [hg] at this; exact this
  have HG := Lib.hid hg
  clear hg
  go_wp2_with go_skip
  exact bodyPost_end (results_none Try.results33 _ _ _) rfl ⟨rfl, by rw [PV.out]; exact HV0.out, HK0.out⟩

set_option maxRecDepth 20000 in
set_option maxHeartbeats 2000000 in
theorem vis20_whole (base B Z L : Nat) (k a b s1 s2 s3 t1 t2 t3 : Int) (f : Fs) (g : Vt) (o : List Vt) (W : World) (h : VisS base B Z L g o W) (h1 : s1 < t1) (hk : k = 2) (h0 : s3 = 0) (hs : 0 ≤ s1) (hlen : o.length ≤ 100000) :
    Calls Try.prog 33 #[.agg (pc13 k a b (s1, s2, s3) (t1, t2, t3) f), .pointer (some ⟨B, 0, none⟩), .pointer (some ⟨Z, 0, none⟩), .pointer (some ⟨L, 0, none⟩)] W fun e W' => e = .returned (.tuple #[]) ∧ VisS base B Z L (pieceV k a b (s1, s2, s3) (t1, t2, t3) g o).1 (pieceV k a b (s1, s2, s3) (t1, t2, t3) g o).2 W' ∧ KpT 49 base B L W W' := by
  have e1 : (k != 2) = false := by simp [hk]
  have PV := Lib.hid ((piece_end (k := k) (a := a) (b := b) (s := (s1, s2, s3)) (s' := (t1, t2, t3)) (g := g) o ⟨hk, fun c => by have := congrArg (fun p : Pt => p.1) c; simp only at this; omega⟩ ⟨h1, by rw [bgn_new h0]; intro c; injection c with c1 c2; simp only at c1; omega⟩).trans (by rw [bgn_new h0]))
  have e2 : (s1 == t1) = false := by simp; omega
  have e5 : (s3 == 0) = true := by simp [h0]
  have e6 : (s1 == -1) = false := by simp; omega
  clear hk h0
  obtain ⟨i0, hi, hz0, hz1, hz2⟩ := info_parts info_vis
  obtain ⟨n, hn⟩ : ∃ n, o.length = n := ⟨_, rfl⟩
  rw [hn] at hlen
  have HX0 := Lib.hid (show Bx (W.alloc (.cells (pc13 k a b (s1, s2, s3) (t1, t2, t3) f) 68)) W.heap.size 68 (pc13 k a b (s1, s2, s3) (t1, t2, t3) f) from Bx.new (W := W) _ _ rfl)
  have HV0 := Lib.hid (h.below (b_al (Below.refl _ _) (Nat.le_refl _) (.cells (pc13 k a b (s1, s2, s3) (t1, t2, t3) f) 68)))
  have HK0 := Lib.hid (KpT.of_below (T := 49) (base := base) (E := B) (L := L) (b_al (Below.refl W.heap.size W) (Nat.le_refl _) (.cells (pc13 k a b (s1, s2, s3) (t1, t2, t3) f) 68)) rfl)
  have lw : W.heap.size < (W.alloc (.cells (pc13 k a b (s1, s2, s3) (t1, t2, t3) f) 68)).heap.size := by simp
  have hBw : B < W.heap.size := h.bB.lt
  have hZw : Z < W.heap.size := h.bZ.lt
  have hBL := h.ne
  have hlb := h.lb
  have hll := h.ll
  have hsz := h.sz
  clear h
  go_enter Try.func33, Try.ntmps33
  go_upto_region 1 with fail
  generalize W.alloc (.cells (pc13 k a b (s1, s2, s3) (t1, t2, t3) f) 68) = W1 at *
  have p0 : W1.cell? ⟨W.heap.size, 0, none⟩ = some (.int .i64 k) := HX0.out.cell (k := 0) rfl
  have p1 : W1.cell? ⟨W.heap.size, 1, none⟩ = some (.int .i64 a) := HX0.out.cell (k := 1) rfl
  have p2 : W1.cell? ⟨W.heap.size, 2, none⟩ = some (.int .i64 b) := HX0.out.cell (k := 2) rfl
  have p3 : W1.cell? ⟨W.heap.size, 3, none⟩ = some (.int .i64 s1) := HX0.out.cell (k := 3) rfl
  have p4 : W1.cell? ⟨W.heap.size, 4, none⟩ = some (.int .i64 s2) := HX0.out.cell (k := 4) rfl
  have p5 : W1.cell? ⟨W.heap.size, 5, none⟩ = some (.int .i64 s3) := HX0.out.cell (k := 5) rfl
  have p6 : W1.cell? ⟨W.heap.size, 6, none⟩ = some (.int .i64 t1) := HX0.out.cell (k := 6) rfl
  have p7 : W1.cell? ⟨W.heap.size, 7, none⟩ = some (.int .i64 t2) := HX0.out.cell (k := 7) rfl
  have p8 : W1.cell? ⟨W.heap.size, 8, none⟩ = some (.int .i64 t3) := HX0.out.cell (k := 8) rfl
  go_wp2_with (first
    | go_skip
    | (refine wpList_store_box (by rfl) 49 _ _ rfl B (vt3 (s1, a, 0)) rfl rfl 49 (vt3 g) HV0.out.bB size_vis rfl (vt3_one _) (fun W2 u2 => ?_); have HX2 := Lib.hid (u2.bx HX0.out (by omega)); have HV2 := Lib.hid (HV0.out.setB u2); have HK2 := Lib.hid (HK0.out.upd u2 (.inl rfl)); have p22 : W2.cell? ⟨W.heap.size, 2, none⟩ = some (.int .i64 b) := HX2.out.cell (k := 2) rfl; have p32 : W2.cell? ⟨W.heap.size, 3, none⟩ = some (.int .i64 s1) := HX2.out.cell (k := 3) rfl; have p62 : W2.cell? ⟨W.heap.size, 6, none⟩ = some (.int .i64 t1) := HX2.out.cell (k := 6) rfl; have q02 : W2.cell? ⟨B, 0, none⟩ = some (.int .i64 s1) := HV2.out.bB.cell (k := 0) rfl; have q12 : W2.cell? ⟨B, 1, none⟩ = some (.int .i64 a) := HV2.out.bB.cell (k := 1) rfl; have q22 : W2.cell? ⟨B, 2, none⟩ = some (.int .i64 0) := HV2.out.bB.cell (k := 2) rfl; have z02 : W2.cell? ⟨Z, 0, none⟩ = some (.int .i64 (-1)) := HV2.out.bZ.cell (k := 0) rfl; have z12 : W2.cell? ⟨Z, 1, none⟩ = some (.int .i64 0) := HV2.out.bZ.cell (k := 1) rfl; have z22 : W2.cell? ⟨Z, 2, none⟩ = some (.int .i64 0) := HV2.out.bZ.cell (k := 2) rfl; have lw2 := HX2.out.lt; have lb2 := HV2.out.bB.lt; have lz2 := HV2.out.bZ.lt; clear u2)
    | (refine wpList_store_fld (by rfl) 3 _ _ rfl B 2 (.int .i64 b) rfl rfl rfl 49 (vt3 (s1, a, 0)) HV2.out.bB (by simp [vt3]) (by kernel_rfl) (fun W3 u3 => ?_); have HV3 := Lib.hid (HV2.out.setB (g' := (s1, a, b)) u3); have HK3 := Lib.hid (HK2.out.upd u3 (.inl rfl)); have q0_3 : W3.cell? ⟨B, 0, none⟩ = some (.int .i64 s1) := HV3.out.bB.cell (k := 0) rfl; have q1_3 : W3.cell? ⟨B, 1, none⟩ = some (.int .i64 a) := HV3.out.bB.cell (k := 1) rfl; have q2_3 : W3.cell? ⟨B, 2, none⟩ = some (.int .i64 b) := HV3.out.bB.cell (k := 2) rfl; have lb3 := HV3.out.bB.lt; have hs3 := HV3.out.sz; obtain ⟨v3, hv3, ho3⟩ := HV3.out.bL; obtain ⟨A3, c3, rfl, _, _⟩ := ho3.read; rw [hn] at hv3; have cL3 : W3.cell? ⟨L, 0, none⟩ = some (.slice A3 n c3) := hv3.cell rfl; have lL3 := hv3.lt; have HL3 := Lib.hid hv3; rw [hn] at ho3; have ho4 := ho3.alloc (.cells #[.int .i64 s1, .int .i64 a, .int .i64 b] 49); unfold OwnT at ho4; rw [hn] at ho4; have HO4 := Lib.hid ho4; have HO3 := Lib.hid ho3; have HLR := Lib.hid (fun q (hq : (Value.slice A3 n c3).ownBlock = some q) => (World.ownsRow.lt ho3 q hq).1); have HRT := Lib.hid (fun q (hq : (Value.slice A3 n c3).ownBlock = some q) => row_type (show W3.ownsRow base 49 3 _ _ _ from ho3) hq); clear hv3 ho3 ho4; clear u3)
    | (at_builtin; refine wpList_append_own _ rfl _ _ 34 rfl base 49 i0 (.agg #[.int .i64 0, .int .i64 0, .int .i64 0]) 3 24 Try.underlying34 hi hz0 hz1 hz2 rfl (by decide) _ _ _ rfl HO4.out ⟨W3.heap.size, 0, none⟩ 1 1 [.int .i64 s1, .int .i64 a, .int .i64 b] rfl rfl (find_news (by simp)) find_cells (by unfold maxLen; omega) (by omega) (by simp; omega) ?_; intro v5 w5 hown5 hgrow5 _; have hS5 := OwnT.snoc (l := o) (by rw [hn]; exact hown5); obtain ⟨A5, c5, rfl, _⟩ := hS5.read; have HS5 := Lib.hid hS5; have hz5 := hgrow5.size; (try simp only [World.size_alloc] at hz5); have hL5 : Bx w5 L 34 #[.slice A3 n c3] := (hgrow5.block L (by simp; omega) (fun e => by have := HLR.out L e.symm; omega)).trans (HL3.out.alloc _); have hB5 : Bx w5 B 49 (vt3 (s1, a, b)) := (hgrow5.block B (by simp; have := HV3.out.bB.lt; omega) (fun e => by have := HLR.out B e.symm; omega)).trans (HV3.out.bB.alloc _); have hZ5 : Bx w5 Z 49 (vt3 (-1, 0, 0)) := (hgrow5.block Z (by simp; have := HV3.out.bZ.lt; omega) (fun e => by have := HLR.out Z e.symm; have := HV3.out.lz; omega)).trans (HV3.out.bZ.alloc _); have HK5 := Lib.hid (show KpT 49 base B L W3 w5 from ⟨by omega, hgrow5.os, hgrow5.tape, hgrow5.output, fun q hq0 _ hq3 hq4 => by
          rw [hgrow5.block q (by simp; omega) (fun e => by
            rcases hq4 with h4 | h4
            · have := HLR.out q e.symm; omega
            · obtain ⟨cs, z, hh⟩ := HRT.out q e.symm
              exact h4 cs z hh)]
          exact Below.heap_alloc W3 _ q hq0⟩); have HL5 := Lib.hid hL5; have HB5 := Lib.hid hB5; have HZ5 := Lib.hid hZ5; clear hown5 hgrow5 hS5 hL5 hB5 hZ5)
    | (refine wpList_store_fld (by rfl) 34 _ _ rfl L 0 (.slice A5 (o ++ [(s1, a, b)]).length c5) rfl rfl rfl 34 _ HL5.out (by simp) (by kernel_rfl) (fun w6 u => ?_)))
  refine bodyPost_end (results_none Try.results33 _ _ _) rfl ⟨rfl, ?_, (HK3.out.trans HK5.out).upd u (.inr (.inl rfl))⟩
  rw [PV.out]
  exact ⟨u.bx HB5.out hBL, u.bx HZ5.out HV3.out.nl, ⟨_, u.box, HS5.out.upd u hll⟩, hlb, HV3.out.lz, hll, hBL, HV3.out.nz, HV3.out.nl, by rw [u.size]; omega⟩

set_option maxRecDepth 20000 in
set_option maxHeartbeats 2000000 in
theorem vis20_rest (base B Z L : Nat) (k a b s1 s2 s3 t1 t2 t3 : Int) (f : Fs) (g : Vt) (o : List Vt) (W : World) (h : VisS base B Z L g o W) (h1 : s1 < t1) (hk : k = 2) (h0 : ¬ s3 = 0) (hs : 0 ≤ s1) (hlen : o.length ≤ 100000) (m : Int) (hg : g = (s1, m, 0)) :
    Calls Try.prog 33 #[.agg (pc13 k a b (s1, s2, s3) (t1, t2, t3) f), .pointer (some ⟨B, 0, none⟩), .pointer (some ⟨Z, 0, none⟩), .pointer (some ⟨L, 0, none⟩)] W fun e W' => e = .returned (.tuple #[]) ∧ VisS base B Z L (pieceV k a b (s1, s2, s3) (t1, t2, t3) g o).1 (pieceV k a b (s1, s2, s3) (t1, t2, t3) g o).2 W' ∧ KpT 49 base B L W W' := by
  subst hg
  have e1 : (k != 2) = false := by simp [hk]
  have PV := Lib.hid ((piece_end (k := k) (a := a) (b := b) (s := (s1, s2, s3)) (s' := (t1, t2, t3)) (g := (s1, m, 0)) o ⟨hk, fun c => by have := congrArg (fun p : Pt => p.1) c; simp only at this; omega⟩ ⟨h1, by rw [bgn_old h0]; intro c; injection c with c1 c2; omega⟩).trans (by rw [bgn_old h0]))
  have e2 : (s1 == t1) = false := by simp; omega
  have e5 : (s3 == 0) = false := by simp [h0]
  have e6 : (s1 == -1) = false := by simp; omega
  clear hk h0
  obtain ⟨i0, hi, hz0, hz1, hz2⟩ := info_parts info_vis
  obtain ⟨n, hn⟩ : ∃ n, o.length = n := ⟨_, rfl⟩
  rw [hn] at hlen
  have HX0 := Lib.hid (show Bx (W.alloc (.cells (pc13 k a b (s1, s2, s3) (t1, t2, t3) f) 68)) W.heap.size 68 (pc13 k a b (s1, s2, s3) (t1, t2, t3) f) from Bx.new (W := W) _ _ rfl)
  have HV0 := Lib.hid (h.below (b_al (Below.refl _ _) (Nat.le_refl _) (.cells (pc13 k a b (s1, s2, s3) (t1, t2, t3) f) 68)))
  have HK0 := Lib.hid (KpT.of_below (T := 49) (base := base) (E := B) (L := L) (b_al (Below.refl W.heap.size W) (Nat.le_refl _) (.cells (pc13 k a b (s1, s2, s3) (t1, t2, t3) f) 68)) rfl)
  have lw : W.heap.size < (W.alloc (.cells (pc13 k a b (s1, s2, s3) (t1, t2, t3) f) 68)).heap.size := by simp
  have hBw : B < W.heap.size := h.bB.lt
  have hZw : Z < W.heap.size := h.bZ.lt
  have hBL := h.ne
  have hlb := h.lb
  have hll := h.ll
  have hsz := h.sz
  clear h
  go_enter Try.func33, Try.ntmps33
  go_upto_region 1 with fail
  generalize W.alloc (.cells (pc13 k a b (s1, s2, s3) (t1, t2, t3) f) 68) = W1 at *
  have p0 : W1.cell? ⟨W.heap.size, 0, none⟩ = some (.int .i64 k) := HX0.out.cell (k := 0) rfl
  have p1 : W1.cell? ⟨W.heap.size, 1, none⟩ = some (.int .i64 a) := HX0.out.cell (k := 1) rfl
  have p2 : W1.cell? ⟨W.heap.size, 2, none⟩ = some (.int .i64 b) := HX0.out.cell (k := 2) rfl
  have p3 : W1.cell? ⟨W.heap.size, 3, none⟩ = some (.int .i64 s1) := HX0.out.cell (k := 3) rfl
  have p4 : W1.cell? ⟨W.heap.size, 4, none⟩ = some (.int .i64 s2) := HX0.out.cell (k := 4) rfl
  have p5 : W1.cell? ⟨W.heap.size, 5, none⟩ = some (.int .i64 s3) := HX0.out.cell (k := 5) rfl
  have p6 : W1.cell? ⟨W.heap.size, 6, none⟩ = some (.int .i64 t1) := HX0.out.cell (k := 6) rfl
  have p7 : W1.cell? ⟨W.heap.size, 7, none⟩ = some (.int .i64 t2) := HX0.out.cell (k := 7) rfl
  have p8 : W1.cell? ⟨W.heap.size, 8, none⟩ = some (.int .i64 t3) := HX0.out.cell (k := 8) rfl
  have z0 : W1.cell? ⟨Z, 0, none⟩ = some (.int .i64 (-1)) := HV0.out.bZ.cell (k := 0) rfl
  have z1 : W1.cell? ⟨Z, 1, none⟩ = some (.int .i64 0) := HV0.out.bZ.cell (k := 1) rfl
  have z2 : W1.cell? ⟨Z, 2, none⟩ = some (.int .i64 0) := HV0.out.bZ.cell (k := 2) rfl
  have q0 : W1.cell? ⟨B, 0, none⟩ = some (.int .i64 s1) := HV0.out.bB.cell (k := 0) rfl
  have q1 : W1.cell? ⟨B, 1, none⟩ = some (.int .i64 m) := HV0.out.bB.cell (k := 1) rfl
  have q2 : W1.cell? ⟨B, 2, none⟩ = some (.int .i64 0) := HV0.out.bB.cell (k := 2) rfl
  go_wp2_with (first
    | go_skip
    | (refine wpList_store_fld (by rfl) 3 _ _ rfl B 2 (.int .i64 b) rfl rfl rfl 49 (vt3 (s1, m, 0)) HV0.out.bB (by simp [vt3]) (by kernel_rfl) (fun W3 u3 => ?_); have HV3 := Lib.hid (HV0.out.setB (g' := (s1, m, b)) u3); have HK3 := Lib.hid (HK0.out.upd u3 (.inl rfl)); have q0_3 : W3.cell? ⟨B, 0, none⟩ = some (.int .i64 s1) := HV3.out.bB.cell (k := 0) rfl; have q1_3 : W3.cell? ⟨B, 1, none⟩ = some (.int .i64 m) := HV3.out.bB.cell (k := 1) rfl; have q2_3 : W3.cell? ⟨B, 2, none⟩ = some (.int .i64 b) := HV3.out.bB.cell (k := 2) rfl; have lb3 := HV3.out.bB.lt; have hs3 := HV3.out.sz; obtain ⟨v3, hv3, ho3⟩ := HV3.out.bL; obtain ⟨A3, c3, rfl, _, _⟩ := ho3.read; rw [hn] at hv3; have cL3 : W3.cell? ⟨L, 0, none⟩ = some (.slice A3 n c3) := hv3.cell rfl; have lL3 := hv3.lt; have HL3 := Lib.hid hv3; rw [hn] at ho3; have ho4 := ho3.alloc (.cells #[.int .i64 s1, .int .i64 m, .int .i64 b] 49); unfold OwnT at ho4; rw [hn] at ho4; have HO4 := Lib.hid ho4; have HO3 := Lib.hid ho3; have HLR := Lib.hid (fun q (hq : (Value.slice A3 n c3).ownBlock = some q) => (World.ownsRow.lt ho3 q hq).1); have HRT := Lib.hid (fun q (hq : (Value.slice A3 n c3).ownBlock = some q) => row_type (show W3.ownsRow base 49 3 _ _ _ from ho3) hq); clear hv3 ho3 ho4; clear u3)
    | (at_builtin; refine wpList_append_own _ rfl _ _ 34 rfl base 49 i0 (.agg #[.int .i64 0, .int .i64 0, .int .i64 0]) 3 24 Try.underlying34 hi hz0 hz1 hz2 rfl (by decide) _ _ _ rfl HO4.out ⟨W3.heap.size, 0, none⟩ 1 1 [.int .i64 s1, .int .i64 m, .int .i64 b] rfl rfl (find_news (by simp)) find_cells (by unfold maxLen; omega) (by omega) (by simp; omega) ?_; intro v5 w5 hown5 hgrow5 _; have hS5 := OwnT.snoc (l := o) (by rw [hn]; exact hown5); obtain ⟨A5, c5, rfl, _⟩ := hS5.read; have HS5 := Lib.hid hS5; have hz5 := hgrow5.size; (try simp only [World.size_alloc] at hz5); have hL5 : Bx w5 L 34 #[.slice A3 n c3] := (hgrow5.block L (by simp; omega) (fun e => by have := HLR.out L e.symm; omega)).trans (HL3.out.alloc _); have hB5 : Bx w5 B 49 (vt3 (s1, m, b)) := (hgrow5.block B (by simp; have := HV3.out.bB.lt; omega) (fun e => by have := HLR.out B e.symm; omega)).trans (HV3.out.bB.alloc _); have hZ5 : Bx w5 Z 49 (vt3 (-1, 0, 0)) := (hgrow5.block Z (by simp; have := HV3.out.bZ.lt; omega) (fun e => by have := HLR.out Z e.symm; have := HV3.out.lz; omega)).trans (HV3.out.bZ.alloc _); have HK5 := Lib.hid (show KpT 49 base B L W3 w5 from ⟨by omega, hgrow5.os, hgrow5.tape, hgrow5.output, fun q hq0 _ hq3 hq4 => by
          rw [hgrow5.block q (by simp; omega) (fun e => by
            rcases hq4 with h4 | h4
            · have := HLR.out q e.symm; omega
            · obtain ⟨cs, z, hh⟩ := HRT.out q e.symm
              exact h4 cs z hh)]
          exact Below.heap_alloc W3 _ q hq0⟩); have HL5 := Lib.hid hL5; have HB5 := Lib.hid hB5; have HZ5 := Lib.hid hZ5; clear hown5 hgrow5 hS5 hL5 hB5 hZ5)
    | (refine wpList_store_fld (by rfl) 34 _ _ rfl L 0 (.slice A5 (o ++ [(s1, m, b)]).length c5) rfl rfl rfl 34 _ HL5.out (by simp) (by kernel_rfl) (fun w6 u => ?_)))
  refine bodyPost_end (results_none Try.results33 _ _ _) rfl ⟨rfl, ?_, (HK3.out.trans HK5.out).upd u (.inr (.inl rfl))⟩
  rw [PV.out]
  exact ⟨u.bx HB5.out hBL, u.bx HZ5.out HV3.out.nl, ⟨_, u.box, HS5.out.upd u hll⟩, hlb, HV3.out.lz, hll, hBL, HV3.out.nz, HV3.out.nl, by rw [u.size]; omega⟩

end Go.Proofs.Ythiiipbfdgaemaa
