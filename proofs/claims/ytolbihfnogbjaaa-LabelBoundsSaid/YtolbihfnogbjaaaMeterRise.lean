/- What rise of layer 13 leaves. Conditions: as the theorem says. -/
import Derived.Test.YtolbihfnogbjaaaRows
import Derived.Test.YtolbihfnogbjaaaBase
import Derived.Test.YtolbihfnogbjaaaZ2
import Derived.Test.YtolbihfnogbjaaaZ4
import Derived.Test.YtolbihfnogbjaaaZ5
import Derived.Test.YtolbihfnogbjaaaSpellOf
import Derived.WalkKit
import Derived.WalkSpells
import Derived.WalkSmall
import Derived.Below
import Derived.Lib.Hide
import Derived.Shelf.Abstract
import Derived.BigQuiet
import Derived.OwnWalk
import Derived.Outline
import Derived.Deep.DeepCutAuto
import Derived.StillTailTactics
import Derived.Maps.RangeWalk
import Derived.Deep.RegionHeld3
import Derived.Lib.MinMax
import Derived.OrdersHeld
namespace Go.Proofs.Ytolbihfnogbjaaa
open Go.RowKit

theorem wrap_small (c : Int) (h0 : -1000000 ≤ c) (h1 : c ≤ 1000000) : IntKind.i64.wrap c = c := by
  simp [IntKind.wrap, IntKind.bits, IntKind.signed]
  omega
theorem wp_store_one {P : Program} {o : Oper} {a : Act} {w : World} {K : Act → World → Prop} {Q : Exit → Act → World → Prop} (ty : TypeId) (x y : Operand) (ho : o.op = .store ty x y)
    (g k : Nat) (v : Value) (hx : a.eval x = .pointer (some ⟨g, k, none⟩)) (hy : a.eval y = v) (h1 : v.oneCell' = true) (t : TypeId) (cs : Array Value) (hb : Bx w g t cs) (hk : k < cs.size) (hi : (P.info? ty).map (·.size) = some 1)
    (h : ∀ W', Upd w g t (cs.setIfInBounds k v) W' → K (a.put o.dst undef) W') : o.wp P a w K Q := by
  unfold Oper.wp execOp
  simp only [ho, hx, hy, Instr.storeAt, Instr.sureAddr, Sem.run_bind, Sem.run_pure, Result.andThen_ok, run_storeVar_fld w g k t ty cs v hb hk hi h1]
  exact h _ (Upd.of_setRow _ hb)

set_option maxRecDepth 100000 in
set_option maxHeartbeats 4000000 in
theorem rise_any (g : Nat) (x : Nat → Int) (m : Mt) (n : Nat) (w : World) (hb : Cn w g x m n) (hn : n < 1024) (hm : MayM m) (hl : 0 < m.lie) (hx : May x) :
    Calls Try.prog 63 #[.pointer (some ⟨g, 0, none⟩)] w fun e w' => e = .returned (.tuple #[]) ∧ CnTo w g x (endM (endW x m) m) (orB (orB n 8 (c8 (endW x m) m)) 6 (c6 x (endW x m) m)) w' := by
  have h2 := may_e1 (endW x m) hm
  obtain ⟨a0, a1, a2, a3, a4, a5, a6, a7, a8, a9, a10, a11, a12, a13⟩ := m
  have OF := fun W => of_good x (a0 - a3) a0 (min a4 (a0 - a3)) a2 a7 W hx (by unfold MayM at hm; dsimp only at hm hl; omega) (by unfold MayM at hm; dsimp only at hm hl; omega) (by unfold MayM at hm; dsimp only at hm hl; omega) (by unfold MayM at hm; dsimp only at hm hl; omega) (by omega)
  have hv : endW x ⟨a0, a1, a2, a3, a4, a5, a6, a7, a8, a9, a10, a11, a12, a13⟩ = ofV x (a0 - a3) a0 (min a4 (a0 - a3)) a2 a7 := rfl
  rw [hv] at h2 ⊢
  clear hv
  generalize ofV x (a0 - a3) a0 (min a4 (a0 - a3)) a2 a7 = V at OF h2 ⊢
  unfold MayM at hm
  dsimp only at hm hl
  obtain ⟨⟨r0, s0⟩, -, ⟨r3, s3⟩, ⟨r4, s4⟩, -⟩ := hm
  have C : CnTo w g x ⟨a0, a1, a2, a3, a4, a5, a6, a7, a8, a9, a10, a11, a12, a13⟩ n w := Chg.refl hb
  have hgw := hb.lt
  clear hb hx
  go_enter Try.func63, Try.ntmps63
  go_upto_region 1 with fail
  go_cut [3] (fun u3 wx => ∃ B : Nat, u3 = .pointer (some ⟨B, 0, none⟩) ∧ Bx wx B 102 #[.int .i64 (a0 - a3), .int .i64 a0] ∧ w.heap.size ≤ B ∧ Below w.heap.size w wx)
  case first =>
    have f19 : w.cell? ⟨g, 19, none⟩ = some (.int .i64 a0) := C.box.cell rfl
    have f22 : w.cell? ⟨g, 22, none⟩ = some (.int .i64 a3) := C.box.cell rfl
    refine wp_region_noPanic ?_
    refine wp_region_held_drew (S := fun w' => Below w.heap.size w w') (by kernel_rfl) ?_ (fun hHeld => ?_)
    · exact b_dr (Below.refl _ _)
    refine wpAnyH_take (i := 0) (oi := ⟨some 9, _, _, _, _, _⟩) (v := ?_) rfl (by kernel_rfl) (by kernel_rfl) (by kernel_rfl) (fun _ _ _ h => h) (Or.inl ⟨by rfl, ?_⟩) (by assumption) ?_
    rotate_left
    · (intro w' hSw; clear hSw; go_simp; try (with_reducible rfl))
    (try simp only [Act.put, List.setIfInBounds_toArray, List.set_cons_zero, List.set_cons_succ])
    refine wpAnyH_take (i := 1) (oi := ⟨some 10, _, _, _, _, _⟩) (v := ?_) rfl (by kernel_rfl) (by kernel_rfl) (by kernel_rfl) (fun _ _ _ h => h) (Or.inl ⟨by rfl, ?_⟩) (by assumption) ?_
    rotate_left
    · (intro w' hSw; clear hSw; go_simp; try (with_reducible rfl))
    (try simp only [Act.put, List.setIfInBounds_toArray, List.set_cons_zero, List.set_cons_succ])
    refine wpAnyH_take (i := 2) (oi := ⟨some 11, _, _, _, _, _⟩) (v := ?_) rfl (by kernel_rfl) (by kernel_rfl) (by kernel_rfl) (fun _ _ _ h => h) (Or.inl ⟨by rfl, ?_⟩) (by assumption) ?_
    rotate_left
    · (intro w' hSw; clear hSw; go_simp; try (with_reducible rfl))
    (try simp only [Act.put, List.setIfInBounds_toArray, List.set_cons_zero, List.set_cons_succ])
    refine wpAnyH_take (i := 3) (oi := ⟨some 12, _, _, _, _, _⟩) (v := ?_) rfl (by kernel_rfl) (by kernel_rfl) (by kernel_rfl) (fun _ _ _ h => h) (Or.inl ⟨by rfl, ?_⟩) (by assumption) ?_
    rotate_left
    · (intro w' hSw; have q0 := c_cl f19 hSw; clear hSw; go_simp; try (with_reducible rfl))
    (try simp only [Act.put, List.setIfInBounds_toArray, List.set_cons_zero, List.set_cons_succ])
    refine wpAnyH_take (i := 4) (oi := ⟨some 13, _, _, _, _, _⟩) (v := ?_) rfl (by kernel_rfl) (by kernel_rfl) (by kernel_rfl) (fun _ _ _ h => h) (Or.inl ⟨by rfl, ?_⟩) (by assumption) ?_
    rotate_left
    · (intro w' hSw; clear hSw; go_simp; try (with_reducible rfl))
    (try simp only [Act.put, List.setIfInBounds_toArray, List.set_cons_zero, List.set_cons_succ])
    refine wpAnyH_take (i := 5) (oi := ⟨some 14, _, _, _, _, _⟩) (v := ?_) rfl (by kernel_rfl) (by kernel_rfl) (by kernel_rfl) (fun _ _ _ h => h) (Or.inl ⟨by rfl, ?_⟩) (by assumption) ?_
    rotate_left
    · (intro w' hSw; clear hSw; go_simp; try (with_reducible rfl))
    (try simp only [Act.put, List.setIfInBounds_toArray, List.set_cons_zero, List.set_cons_succ])
    refine wpAnyH_take (i := 6) (oi := ⟨some 15, _, _, _, _, _⟩) (v := ?_) rfl (by kernel_rfl) (by kernel_rfl) (by kernel_rfl) (fun _ _ _ h => h) (Or.inl ⟨by rfl, ?_⟩) (by assumption) ?_
    rotate_left
    · (intro w' hSw; clear hSw; go_simp; try (with_reducible rfl))
    (try simp only [Act.put, List.setIfInBounds_toArray, List.set_cons_zero, List.set_cons_succ])
    refine wpAnyH_take (i := 7) (oi := ⟨some 16, _, _, _, _, _⟩) (v := ?_) rfl (by kernel_rfl) (by kernel_rfl) (by kernel_rfl) (fun _ _ _ h => h) (Or.inl ⟨by rfl, ?_⟩) (by assumption) ?_
    rotate_left
    · (intro w' hSw; have q0 := c_cl f22 hSw; clear hSw; go_simp; try (with_reducible rfl))
    (try simp only [Act.put, List.setIfInBounds_toArray, List.set_cons_zero, List.set_cons_succ])
    refine wpAnyH_take (i := 8) (oi := ⟨some 17, _, _, _, _, _⟩) (v := ?_) rfl (by kernel_rfl) (by kernel_rfl) (by kernel_rfl) (fun _ _ _ h => h) (Or.inl ⟨by rfl, ?_⟩) (by assumption) ?_
    rotate_left
    · (intro w' hSw; have hwr := wrap_small (a0 - a3) (by omega) (by omega); clear hSw; go_simp; try (with_reducible rfl))
    (try simp only [Act.put, List.setIfInBounds_toArray, List.set_cons_zero, List.set_cons_succ])
    refine wpAnyH_take (i := 9) (oi := ⟨some 18, _, _, _, _, _⟩) (v := ?_) rfl (by kernel_rfl) (by kernel_rfl) (by kernel_rfl) (fun _ _ _ h => h) (Or.inl ⟨by rfl, ?_⟩) (by assumption) ?_
    rotate_left
    · (intro w' hSw; clear hSw; go_simp; try (with_reducible rfl))
    (try simp only [Act.put, List.setIfInBounds_toArray, List.set_cons_zero, List.set_cons_succ])
    refine wpAnyH_take (i := 10) (oi := ⟨some 19, _, _, _, _, _⟩) (v := ?_) rfl (by kernel_rfl) (by kernel_rfl) (by kernel_rfl) (fun _ _ _ h => h) (Or.inl ⟨by rfl, ?_⟩) (by assumption) ?_
    rotate_left
    · (intro w' hSw; clear hSw; go_simp; try (with_reducible rfl))
    (try simp only [Act.put, List.setIfInBounds_toArray, List.set_cons_zero, List.set_cons_succ])
    refine wpAnyH_take (i := 11) (oi := ⟨some 20, _, _, _, _, _⟩) (v := ?_) rfl (by kernel_rfl) (by kernel_rfl) (by kernel_rfl) (fun _ _ _ h => h) (Or.inl ⟨by rfl, ?_⟩) (by assumption) ?_
    rotate_left
    · (intro w' hSw; clear hSw; go_simp; try (with_reducible rfl))
    (try simp only [Act.put, List.setIfInBounds_toArray, List.set_cons_zero, List.set_cons_succ])
    refine wpAnyH_take (i := 12) (oi := ⟨some 21, _, _, _, _, _⟩) (v := ?_) rfl (by kernel_rfl) (by kernel_rfl) (by kernel_rfl) (fun _ _ _ h => h) (Or.inl ⟨by rfl, ?_⟩) (by assumption) ?_
    rotate_left
    · (intro w' hSw; have q0 := c_cl f19 hSw; clear hSw; go_simp; try (with_reducible rfl))
    (try simp only [Act.put, List.setIfInBounds_toArray, List.set_cons_zero, List.set_cons_succ])
    refine wpAnyH_take (i := 13) (oi := ⟨some 22, _, _, _, _, _⟩) (v := .agg #[.int .i64 (a0 - a3), .int .i64 a0]) rfl (by kernel_rfl) (by kernel_rfl) (by kernel_rfl) (fun _ _ _ h => h) (Or.inl ⟨by rfl, fun w' hSw => exec_build _ _ rfl (by kernel_rfl)⟩) (by assumption) ?_
    (try simp only [Act.put, List.setIfInBounds_toArray, List.set_cons_zero, List.set_cons_succ])
    refine wpAnyH_ready (rs := [14]) (by kernel_rfl) (by simp) ?_
    refine AllReadyH.cons (o := ⟨some 3, _, _, _, _, _⟩) rfl (fun K hK => ?_) AllReadyH.nil
    refine wp_alloc_any 102 (#[.int .i64 0, .int .i64 0]) (by kernel_rfl) (fun g_1 W' hg hA hbA => ?_)
    have hgN := Nat.le_trans hHeld.size hg
    refine hK.out _ _ (b_cl hHeld (Nat.le_refl _) hbA) (fun hHeld => ?_)
    clear hK K hbA hg
    (try simp only [Act.put, List.setIfInBounds_toArray, List.set_cons_zero, List.set_cons_succ])
    refine wpAnyH_ready (rs := [15]) (by kernel_rfl) (by simp) ?_
    refine AllReadyH.cons (o := ⟨none, _, _, _, _, _⟩) rfl (fun K hK => ?_) AllReadyH.nil
    refine wp_store_any 102 _ _ rfl g_1 (#[.int .i64 (a0 - a3), .int .i64 a0]) rfl rfl 102 (#[.int .i64 0, .int .i64 0]) hA (by kernel_rfl) rfl ((by kernel_rfl)) (fun W' u => ?_)
    refine hK.out _ _ (hHeld.trans (u.bel _ hgN)) (fun hHeld => ?_)
    clear hK K
    (try simp only [Act.put])
    refine wpAnyH_done (by kernel_rfl) ?_ _
    refine NoPanic.normal ?_
    go_wp2_with fail
    go_meet
    exact ⟨g_1, rfl, u.box, hgN, hHeld⟩
  case rest =>
  obtain ⟨B, rfl, HS, hBw, hbe⟩ := hcut
  rename World => w1
  replace C : CnTo w g x ⟨a0, a1, a2, a3, a4, a5, a6, a7, a8, a9, a10, a11, a12, a13⟩ n w1 := Chg.trans C ⟨hbe.size, C.box.below hbe, fun k _ hk => hbe.block k hk, fun k hk hl => hbe.mono hl⟩
  have hz1 := hbe.size
  clear hbe
  go_upto_region 2 with fail
  go_cut [4] (fun u4 wx => ∃ R : Nat, u4 = .pointer (some ⟨R, 0, none⟩) ∧ Bx wx R 129 (wo V) ∧ w1.heap.size ≤ R ∧ Below w1.heap.size w1 wx)
  case first =>
    have f21 : w1.cell? ⟨g, 21, none⟩ = some (.bool a2) := C.box.cell rfl
    have f23 : w1.cell? ⟨g, 23, none⟩ = some (.int .i64 a4) := C.box.cell rfl
    have f26 : w1.cell? ⟨g, 26, none⟩ = some (.bool a7) := C.box.cell rfl
    have p0 : w1.cell? ⟨B, 0, none⟩ = some (.int .i64 (a0 - a3)) := HS.cell rfl
    have hk : RdI w1 g 0 x := Cn.rdI C.box
    refine wp_region_noPanic ?_
    refine wp_region_held_drew (S := fun w' => Below w1.heap.size w1 w') (by kernel_rfl) ?_ (fun hHeld => ?_)
    · exact b_dr (Below.refl _ _)
    refine wpAnyH_take (i := 0) (oi := ⟨some 24, _, _, _, _, _⟩) (v := ?_) rfl (by kernel_rfl) (by kernel_rfl) (by kernel_rfl) (fun _ _ _ h => h) (Or.inl ⟨by rfl, ?_⟩) (by assumption) ?_
    rotate_left
    · (intro w' hSw; clear hSw; go_simp; try (with_reducible rfl))
    (try simp only [Act.put, List.setIfInBounds_toArray, List.set_cons_zero, List.set_cons_succ])
    refine wpAnyH_take (i := 1) (oi := ⟨some 25, _, _, _, _, _⟩) (v := ?_) rfl (by kernel_rfl) (by kernel_rfl) (by kernel_rfl) (fun _ _ _ h => h) (Or.inl ⟨by rfl, ?_⟩) (by assumption) ?_
    rotate_left
    · (intro w' hSw; clear hSw; go_simp; try (with_reducible rfl))
    (try simp only [Act.put, List.setIfInBounds_toArray, List.set_cons_zero, List.set_cons_succ])
    refine wpAnyH_take (i := 2) (oi := ⟨some 26, _, _, _, _, _⟩) (v := ?_) rfl (by kernel_rfl) (by kernel_rfl) (by kernel_rfl) (fun _ _ _ h => h) (Or.inl ⟨by rfl, ?_⟩) (by assumption) ?_
    rotate_left
    · (intro w' hSw; clear hSw; go_simp; try (with_reducible rfl))
    (try simp only [Act.put, List.setIfInBounds_toArray, List.set_cons_zero, List.set_cons_succ])
    refine wpAnyH_take (i := 3) (oi := ⟨some 27, _, _, _, _, _⟩) (v := .agg (bk x)) rfl (by kernel_rfl) (by kernel_rfl) (by kernel_rfl) (fun _ _ _ h => h) (Or.inl ⟨by rfl, fun w' hSw => exec_load g 0 x _ w' rfl rfl (hk.below hSw) Try.underlying23 rfl (by kernel_rfl)⟩) (by assumption) ?_
    (try simp only [Act.put, List.setIfInBounds_toArray, List.set_cons_zero, List.set_cons_succ])
    refine wpAnyH_take (i := 4) (oi := ⟨some 28, _, _, _, _, _⟩) (v := .agg #[.int .i64 (a0 - a3), .int .i64 a0]) rfl (by kernel_rfl) (by kernel_rfl) (by kernel_rfl) (fun _ _ _ h => h) (Or.inl ⟨by rfl, fun w' hSw => exec_load_box B 102 _ _ w' rfl rfl (HS.below hSw) Try.underlying102 rfl (by kernel_rfl)⟩) (by assumption) ?_
    (try simp only [Act.put, List.setIfInBounds_toArray, List.set_cons_zero, List.set_cons_succ])
    refine wpAnyH_take (i := 5) (oi := ⟨some 29, _, _, _, _, _⟩) (v := ?_) rfl (by kernel_rfl) (by kernel_rfl) (by kernel_rfl) (fun _ _ _ h => h) (Or.inl ⟨by rfl, ?_⟩) (by assumption) ?_
    rotate_left
    · (intro w' hSw; clear hSw; go_simp; try (with_reducible rfl))
    (try simp only [Act.put, List.setIfInBounds_toArray, List.set_cons_zero, List.set_cons_succ])
    refine wpAnyH_take (i := 6) (oi := ⟨some 30, _, _, _, _, _⟩) (v := ?_) rfl (by kernel_rfl) (by kernel_rfl) (by kernel_rfl) (fun _ _ _ h => h) (Or.inl ⟨by rfl, ?_⟩) (by assumption) ?_
    rotate_left
    · (intro w' hSw; clear hSw; go_simp; try (with_reducible rfl))
    (try simp only [Act.put, List.setIfInBounds_toArray, List.set_cons_zero, List.set_cons_succ])
    refine wpAnyH_take (i := 7) (oi := ⟨some 31, _, _, _, _, _⟩) (v := ?_) rfl (by kernel_rfl) (by kernel_rfl) (by kernel_rfl) (fun _ _ _ h => h) (Or.inl ⟨by rfl, ?_⟩) (by assumption) ?_
    rotate_left
    · (intro w' hSw; clear hSw; go_simp; try (with_reducible rfl))
    (try simp only [Act.put, List.setIfInBounds_toArray, List.set_cons_zero, List.set_cons_succ])
    refine wpAnyH_take (i := 8) (oi := ⟨some 32, _, _, _, _, _⟩) (v := ?_) rfl (by kernel_rfl) (by kernel_rfl) (by kernel_rfl) (fun _ _ _ h => h) (Or.inl ⟨by rfl, ?_⟩) (by assumption) ?_
    rotate_left
    · (intro w' hSw; have q0 := c_cl f23 hSw; clear hSw; go_simp; try (with_reducible rfl))
    (try simp only [Act.put, List.setIfInBounds_toArray, List.set_cons_zero, List.set_cons_succ])
    refine wpAnyH_take (i := 9) (oi := ⟨some 33, _, _, _, _, _⟩) (v := ?_) rfl (by kernel_rfl) (by kernel_rfl) (by kernel_rfl) (fun _ _ _ h => h) (Or.inl ⟨by rfl, ?_⟩) (by assumption) ?_
    rotate_left
    · (intro w' hSw; clear hSw; go_simp; try (with_reducible rfl))
    (try simp only [Act.put, List.setIfInBounds_toArray, List.set_cons_zero, List.set_cons_succ])
    refine wpAnyH_take (i := 10) (oi := ⟨some 34, _, _, _, _, _⟩) (v := ?_) rfl (by kernel_rfl) (by kernel_rfl) (by kernel_rfl) (fun _ _ _ h => h) (Or.inl ⟨by rfl, ?_⟩) (by assumption) ?_
    rotate_left
    · (intro w' hSw; have q0 := c_cl p0 hSw; clear hSw; go_simp; try (with_reducible rfl))
    (try simp only [Act.put, List.setIfInBounds_toArray, List.set_cons_zero, List.set_cons_succ])
    refine wpAnyH_take (i := 11) (oi := ⟨some 35, _, _, _, _, _⟩) (v := ?_) rfl (by kernel_rfl) (by kernel_rfl) (by kernel_rfl) (fun _ _ _ h => h) (Or.inl ⟨by rfl, ?_⟩) (by assumption) ?_
    rotate_left
    · (intro w' hSw; clear hSw; go_simp; try (with_reducible rfl))
    (try simp only [Act.put, List.setIfInBounds_toArray, List.set_cons_zero, List.set_cons_succ])
    refine wpAnyH_take (i := 12) (oi := ⟨some 36, _, _, _, _, _⟩) (v := ?_) rfl (by kernel_rfl) (by kernel_rfl) (by kernel_rfl) (fun _ _ _ h => h) (Or.inl ⟨by rfl, ?_⟩) (by assumption) ?_
    rotate_left
    · (intro w' hSw; clear hSw; go_simp; try (with_reducible rfl))
    (try simp only [Act.put, List.setIfInBounds_toArray, List.set_cons_zero, List.set_cons_succ])
    refine wpAnyH_take (i := 13) (oi := ⟨some 37, _, _, _, _, _⟩) (v := ?_) rfl (by kernel_rfl) (by kernel_rfl) (by kernel_rfl) (fun _ _ _ h => h) (Or.inl ⟨by rfl, ?_⟩) (by assumption) ?_
    rotate_left
    · (intro w' hSw; clear hSw; go_simp; try (with_reducible rfl))
    (try simp only [Act.put, List.setIfInBounds_toArray, List.set_cons_zero, List.set_cons_succ])
    refine wpAnyH_take (i := 14) (oi := ⟨some 38, _, _, _, _, _⟩) (v := ?_) rfl (by kernel_rfl) (by kernel_rfl) (by kernel_rfl) (fun _ _ _ h => h) (Or.inl ⟨by rfl, ?_⟩) (by assumption) ?_
    rotate_left
    · (intro w' hSw; clear hSw; go_simp; try (with_reducible rfl))
    (try simp only [Act.put, List.setIfInBounds_toArray, List.set_cons_zero, List.set_cons_succ])
    refine wpAnyH_take (i := 15) (oi := ⟨some 39, _, _, _, _, _⟩) (v := ?_) rfl (by kernel_rfl) (by kernel_rfl) (by kernel_rfl) (fun _ _ _ h => h) (Or.inl ⟨by rfl, ?_⟩) (by assumption) ?_
    rotate_left
    · (intro w' hSw; have q0 := c_cl f21 hSw; clear hSw; go_simp; try (with_reducible rfl))
    (try simp only [Act.put, List.setIfInBounds_toArray, List.set_cons_zero, List.set_cons_succ])
    refine wpAnyH_take (i := 16) (oi := ⟨some 40, _, _, _, _, _⟩) (v := ?_) rfl (by kernel_rfl) (by kernel_rfl) (by kernel_rfl) (fun _ _ _ h => h) (Or.inl ⟨by rfl, ?_⟩) (by assumption) ?_
    rotate_left
    · (intro w' hSw; clear hSw; go_simp; try (with_reducible rfl))
    (try simp only [Act.put, List.setIfInBounds_toArray, List.set_cons_zero, List.set_cons_succ])
    refine wpAnyH_take (i := 17) (oi := ⟨some 41, _, _, _, _, _⟩) (v := ?_) rfl (by kernel_rfl) (by kernel_rfl) (by kernel_rfl) (fun _ _ _ h => h) (Or.inl ⟨by rfl, ?_⟩) (by assumption) ?_
    rotate_left
    · (intro w' hSw; clear hSw; go_simp; try (with_reducible rfl))
    (try simp only [Act.put, List.setIfInBounds_toArray, List.set_cons_zero, List.set_cons_succ])
    refine wpAnyH_take (i := 18) (oi := ⟨some 42, _, _, _, _, _⟩) (v := ?_) rfl (by kernel_rfl) (by kernel_rfl) (by kernel_rfl) (fun _ _ _ h => h) (Or.inl ⟨by rfl, ?_⟩) (by assumption) ?_
    rotate_left
    · (intro w' hSw; clear hSw; go_simp; try (with_reducible rfl))
    (try simp only [Act.put, List.setIfInBounds_toArray, List.set_cons_zero, List.set_cons_succ])
    refine wpAnyH_take (i := 19) (oi := ⟨some 43, _, _, _, _, _⟩) (v := ?_) rfl (by kernel_rfl) (by kernel_rfl) (by kernel_rfl) (fun _ _ _ h => h) (Or.inl ⟨by rfl, ?_⟩) (by assumption) ?_
    rotate_left
    · (intro w' hSw; have q0 := c_cl f26 hSw; clear hSw; go_simp; try (with_reducible rfl))
    (try simp only [Act.put, List.setIfInBounds_toArray, List.set_cons_zero, List.set_cons_succ])
    refine wpAnyH_ready (rs := [20, 24]) (by kernel_rfl) (by simp) ?_
    refine AllReadyH.cons (o := ⟨some 44, _, _, _, _, _⟩) rfl (fun K hK => ?_) (AllReadyH.cons (o := ⟨some 4, _, _, _, _, _⟩) rfl (fun K hK => ?_) AllReadyH.nil)
    ·
      go_simp
      (go_at_call 73; (with_reducible refine (OF _).mono ?_); rintro e w2 ⟨rfl, hb2⟩)
      go_wp2_with fail
      refine hK.out _ _ (b_cl hHeld (Nat.le_refl _) (by assumption)) (fun hHeld => ?_)
      clear hK K
      (try simp only [Act.put, List.setIfInBounds_toArray, List.set_cons_zero, List.set_cons_succ])
      refine wpAnyH_take (i := 21) (oi := ⟨some 23, _, _, _, _, _⟩) (v := ?_) rfl (by kernel_rfl) (by kernel_rfl) (by kernel_rfl) (fun _ _ _ h => h) (Or.inl ⟨by rfl, ?_⟩) (by assumption) ?_
      rotate_left
      · (intro w' hSw; clear hSw; go_simp; try (with_reducible rfl))
      (try simp only [Act.put, List.setIfInBounds_toArray, List.set_cons_zero, List.set_cons_succ])
      refine wpAnyH_take (i := 22) (oi := ⟨some 45, _, _, _, _, _⟩) (v := ?_) rfl (by kernel_rfl) (by kernel_rfl) (by kernel_rfl) (fun _ _ _ h => h) (Or.inl ⟨by rfl, ?_⟩) (by assumption) ?_
      rotate_left
      · (intro w' hSw; clear hSw; go_simp; try (with_reducible rfl))
      (try simp only [Act.put, List.setIfInBounds_toArray, List.set_cons_zero, List.set_cons_succ])
      refine wpAnyH_take (i := 23) (oi := ⟨some 46, _, _, _, _, _⟩) (v := ?_) rfl (by kernel_rfl) (by kernel_rfl) (by kernel_rfl) (fun _ _ _ h => h) (Or.inl ⟨by rfl, ?_⟩) (by assumption) ?_
      rotate_left
      · (intro w' hSw; clear hSw; go_simp; try (with_reducible rfl))
      (try simp only [Act.put, List.setIfInBounds_toArray, List.set_cons_zero, List.set_cons_succ])
      refine wpAnyH_ready (rs := [24]) (by kernel_rfl) (by simp) ?_
      refine AllReadyH.cons (o := ⟨some 4, _, _, _, _, _⟩) rfl (fun K hK => ?_) AllReadyH.nil
      refine wp_alloc_any 129 (wo .zero) (by kernel_rfl) (fun g_1 W' hg hA hbA => ?_)
      have hgN := Nat.le_trans hHeld.size hg
      refine hK.out _ _ (b_cl hHeld (Nat.le_refl _) hbA) (fun hHeld => ?_)
      clear hK K hbA hg
      (try simp only [Act.put, List.setIfInBounds_toArray, List.set_cons_zero, List.set_cons_succ])
      refine wpAnyH_ready (rs := [25]) (by kernel_rfl) (by simp) ?_
      refine AllReadyH.cons (o := ⟨none, _, _, _, _, _⟩) rfl (fun K hK => ?_) AllReadyH.nil
      refine wp_store_any 129 _ _ rfl g_1 (wo V) rfl rfl 129 (wo .zero) hA (by kernel_rfl) rfl (wo_one _) (fun W' u => ?_)
      refine hK.out _ _ (hHeld.trans (u.bel _ hgN)) (fun hHeld => ?_)
      clear hK K
      (try simp only [Act.put])
      refine wpAnyH_take (i := 26) (oi := ⟨some 5, _, _, _, _, _⟩) (v := ?_) rfl (by kernel_rfl) (by kernel_rfl) (by kernel_rfl) (fun _ _ _ h => h) (Or.inl ⟨by rfl, ?_⟩) (by assumption) ?_
      rotate_left
      · (intro w' hSw; clear hSw; go_simp; try (with_reducible rfl))
      (try simp only [Act.put, List.setIfInBounds_toArray, List.set_cons_zero, List.set_cons_succ])
      refine wpAnyH_done (by kernel_rfl) ?_ _
      refine NoPanic.normal ?_
      go_wp2_with fail
      go_meet
      exact ⟨g_1, rfl, u.box, hgN, hHeld⟩
    ·
      refine wp_alloc_any 129 (wo .zero) (by kernel_rfl) (fun g_1 W' hg hA hbA => ?_)
      have hgN := Nat.le_trans hHeld.size hg
      refine hK.out _ _ (b_cl hHeld (Nat.le_refl _) hbA) (fun hHeld => ?_)
      clear hK K hbA hg
      (try simp only [Act.put, List.setIfInBounds_toArray, List.set_cons_zero, List.set_cons_succ])
      refine wpAnyH_ready (rs := [20]) (by kernel_rfl) (by simp) ?_
      refine AllReadyH.cons (o := ⟨some 44, _, _, _, _, _⟩) rfl (fun K hK => ?_) AllReadyH.nil
      go_simp
      (go_at_call 73; (with_reducible refine (OF _).mono ?_); rintro e w2 ⟨rfl, hb2⟩)
      go_wp2_with fail
      refine hK.out _ _ (b_cl hHeld (Nat.le_refl _) (by assumption)) (fun hHeld => ?_)
      replace hA := hA.below (by assumption)
      clear hK K
      (try simp only [Act.put, List.setIfInBounds_toArray, List.set_cons_zero, List.set_cons_succ])
      refine wpAnyH_take (i := 21) (oi := ⟨some 23, _, _, _, _, _⟩) (v := ?_) rfl (by kernel_rfl) (by kernel_rfl) (by kernel_rfl) (fun _ _ _ h => h) (Or.inl ⟨by rfl, ?_⟩) (by assumption) ?_
      rotate_left
      · (intro w' hSw; clear hSw; go_simp; try (with_reducible rfl))
      (try simp only [Act.put, List.setIfInBounds_toArray, List.set_cons_zero, List.set_cons_succ])
      refine wpAnyH_take (i := 22) (oi := ⟨some 45, _, _, _, _, _⟩) (v := ?_) rfl (by kernel_rfl) (by kernel_rfl) (by kernel_rfl) (fun _ _ _ h => h) (Or.inl ⟨by rfl, ?_⟩) (by assumption) ?_
      rotate_left
      · (intro w' hSw; clear hSw; go_simp; try (with_reducible rfl))
      (try simp only [Act.put, List.setIfInBounds_toArray, List.set_cons_zero, List.set_cons_succ])
      refine wpAnyH_take (i := 23) (oi := ⟨some 46, _, _, _, _, _⟩) (v := ?_) rfl (by kernel_rfl) (by kernel_rfl) (by kernel_rfl) (fun _ _ _ h => h) (Or.inl ⟨by rfl, ?_⟩) (by assumption) ?_
      rotate_left
      · (intro w' hSw; clear hSw; go_simp; try (with_reducible rfl))
      (try simp only [Act.put, List.setIfInBounds_toArray, List.set_cons_zero, List.set_cons_succ])
      refine wpAnyH_ready (rs := [25]) (by kernel_rfl) (by simp) ?_
      refine AllReadyH.cons (o := ⟨none, _, _, _, _, _⟩) rfl (fun K hK => ?_) AllReadyH.nil
      refine wp_store_any 129 _ _ rfl g_1 (wo V) rfl rfl 129 (wo .zero) hA (by kernel_rfl) rfl (wo_one _) (fun W' u => ?_)
      refine hK.out _ _ (hHeld.trans (u.bel _ hgN)) (fun hHeld => ?_)
      clear hK K
      (try simp only [Act.put])
      refine wpAnyH_take (i := 26) (oi := ⟨some 5, _, _, _, _, _⟩) (v := ?_) rfl (by kernel_rfl) (by kernel_rfl) (by kernel_rfl) (fun _ _ _ h => h) (Or.inl ⟨by rfl, ?_⟩) (by assumption) ?_
      rotate_left
      · (intro w' hSw; clear hSw; go_simp; try (with_reducible rfl))
      (try simp only [Act.put, List.setIfInBounds_toArray, List.set_cons_zero, List.set_cons_succ])
      refine wpAnyH_done (by kernel_rfl) ?_ _
      refine NoPanic.normal ?_
      go_wp2_with fail
      go_meet
      exact ⟨g_1, rfl, u.box, hgN, hHeld⟩
  case rest =>
  obtain ⟨R, rfl, HR, hRw, hbe⟩ := hcut
  rename World => w2
  replace C : CnTo w g x ⟨a0, a1, a2, a3, a4, a5, a6, a7, a8, a9, a10, a11, a12, a13⟩ n w2 := C.below hbe
  have hne : R ≠ g := by have := C.size; omega
  clear hbe HS OF
  obtain ⟨v0, v1, v2, v3, v4, v5, v6⟩ := V
  have q5 : w2.cell? ⟨R, 5, none⟩ = some (.bool v5) := HR.cell rfl
  go_upto_if 48 with fail
  go_cut [] (fun wx => CnTo w g x (e1 ⟨v0, v1, v2, v3, v4, v5, v6⟩ ⟨a0, a1, a2, a3, a4, a5, a6, a7, a8, a9, a10, a11, a12, a13⟩) (orB n 8 (c8 ⟨v0, v1, v2, v3, v4, v5, v6⟩ ⟨a0, a1, a2, a3, a4, a5, a6, a7, a8, a9, a10, a11, a12, a13⟩)) wx ∧ Bx wx R 129 (wo ⟨v0, v1, v2, v3, v4, v5, v6⟩))
  case first =>
    have q6 : w2.cell? ⟨R, 6, none⟩ = some (.bool v6) := HR.cell rfl
    cases v5
    case false =>
      go_wp2
      go_meet
      exact ⟨by show CnTo w g x ⟨a0, a1, a2, a3, a4, a5, a6, a7, a8, a9, a10, a11, a12, a13⟩ (orB n 8 false) _; rw [orB_no]; exact C, HR⟩
    case true =>
      cases v6
      case false =>
        have f29 : w2.cell? ⟨g, 29, none⟩ = some (.bool (a10)) := C.box.cell rfl
        go_upto_region 5 with (first
          | (go_at_call 64; (with_reducible refine (breaks_any g x ⟨a0, a1, a2, a3, a4, a5, a6, a7, a8, a9, a10, a11, a12, a13⟩ (n) 8 _ _ _ C.box hn (by omega) (by decide)).mono ?_); rintro e w3 ⟨rfl, c⟩; replace C : CnTo w g x ⟨a0, a1, a2, a3, a4, a5, a6, a7, a8, a9, a10, a11, a12, a13⟩ (orB (n) 8 (false)) w3 := C.trans c; replace HR := c.bx HR hne; clear c; have hn3 : orB (n) 8 (false) < 1024 := orB_lt _ hn (by omega); have f19 : w3.cell? ⟨g, 19, none⟩ = some (.int .i64 (a0)) := C.box.cell rfl; have q6 : w3.cell? ⟨R, 6, none⟩ = some (.bool false) := HR.cell rfl))
        (try go_frame)
        go_cut [] (fun wx => CnTo w g x ⟨a0, a1, a2, a3, a4, a5, a6, a7, a8, a0, false, a11, a12, a13⟩ (orB (n) 8 (false)) wx ∧ Bx wx R 129 (wo ⟨v0, v1, v2, v3, v4, true, false⟩))
        case first =>
          refine wp_region_noPanic ?_
          refine wp_region_held_drew (S := fun w' => ∃ br sa, CnTo w g x ⟨a0, a1, a2, a3, a4, a5, a6, a7, a8, sa, br, a11, a12, a13⟩ (orB (n) 8 (false)) w' ∧ Bx w' R 129 (wo ⟨v0, v1, v2, v3, v4, true, false⟩)) (by kernel_rfl) ?_ (fun hHeld => ?_)
          · exact ⟨_, _, C.drew, HR.drew⟩
          refine wpAnyH_take (i := 0) (oi := ⟨some 59, _, _, _, _, _⟩) (v := ?_) rfl (by kernel_rfl) (by kernel_rfl) (by kernel_rfl) (fun _ _ _ h => h) (Or.inl ⟨by rfl, ?_⟩) (by assumption) ?_
          rotate_left
          · (intro w' hSw; clear hSw; go_simp; try (with_reducible rfl))
          (try simp only [Act.put, List.setIfInBounds_toArray, List.set_cons_zero, List.set_cons_succ])
          refine wpAnyH_take (i := 1) (oi := ⟨some 60, _, _, _, _, _⟩) (v := ?_) rfl (by kernel_rfl) (by kernel_rfl) (by kernel_rfl) (fun _ _ _ h => h) (Or.inl ⟨by rfl, ?_⟩) (by assumption) ?_
          rotate_left
          · (intro w' hSw; clear hSw; go_simp; try (with_reducible rfl))
          (try simp only [Act.put, List.setIfInBounds_toArray, List.set_cons_zero, List.set_cons_succ])
          refine wpAnyH_take (i := 2) (oi := ⟨some 61, _, _, _, _, _⟩) (v := ?_) rfl (by kernel_rfl) (by kernel_rfl) (by kernel_rfl) (fun _ _ _ h => h) (Or.inl ⟨by rfl, ?_⟩) (by assumption) ?_
          rotate_left
          · (intro w' hSw; clear hSw; go_simp; try (with_reducible rfl))
          (try simp only [Act.put, List.setIfInBounds_toArray, List.set_cons_zero, List.set_cons_succ])
          refine wpAnyH_take (i := 3) (oi := ⟨some 62, _, _, _, _, _⟩) (v := ?_) rfl (by kernel_rfl) (by kernel_rfl) (by kernel_rfl) (fun _ _ _ h => h) (Or.inl ⟨by rfl, ?_⟩) (by assumption) ?_
          rotate_left
          · (intro w' hSw; obtain ⟨br, sa, hC, hR⟩ := hSw; have q6 : w'.cell? ⟨R, 6, none⟩ = some (.bool false) := hR.cell rfl; clear hC hR; go_simp; try (with_reducible rfl))
          (try simp only [Act.put, List.setIfInBounds_toArray, List.set_cons_zero, List.set_cons_succ])
          refine wpAnyH_take (i := 4) (oi := ⟨some 63, _, _, _, _, _⟩) (v := ?_) rfl (by kernel_rfl) (by kernel_rfl) (by kernel_rfl) (fun _ _ _ h => h) (Or.inl ⟨by rfl, ?_⟩) (by assumption) ?_
          rotate_left
          · (intro w' hSw; clear hSw; go_simp; try (with_reducible rfl))
          (try simp only [Act.put, List.setIfInBounds_toArray, List.set_cons_zero, List.set_cons_succ])
          refine wpAnyH_take (i := 5) (oi := ⟨some 64, _, _, _, _, _⟩) (v := ?_) rfl (by kernel_rfl) (by kernel_rfl) (by kernel_rfl) (fun _ _ _ h => h) (Or.inl ⟨by rfl, ?_⟩) (by assumption) ?_
          rotate_left
          · (intro w' hSw; clear hSw; go_simp; try (with_reducible rfl))
          (try simp only [Act.put, List.setIfInBounds_toArray, List.set_cons_zero, List.set_cons_succ])
          refine wpAnyH_take (i := 6) (oi := ⟨some 65, _, _, _, _, _⟩) (v := ?_) rfl (by kernel_rfl) (by kernel_rfl) (by kernel_rfl) (fun _ _ _ h => h) (Or.inl ⟨by rfl, ?_⟩) (by assumption) ?_
          rotate_left
          · (intro w' hSw; clear hSw; go_simp; try (with_reducible rfl))
          (try simp only [Act.put, List.setIfInBounds_toArray, List.set_cons_zero, List.set_cons_succ])
          refine wpAnyH_take (i := 7) (oi := ⟨some 66, _, _, _, _, _⟩) (v := ?_) rfl (by kernel_rfl) (by kernel_rfl) (by kernel_rfl) (fun _ _ _ h => h) (Or.inl ⟨by rfl, ?_⟩) (by assumption) ?_
          rotate_left
          · (intro w' hSw; obtain ⟨br, sa, hC, hR⟩ := hSw; have q19 : w'.cell? ⟨g, 19, none⟩ = some (.int .i64 a0) := hC.box.cell rfl; clear hC hR; go_simp; try (with_reducible rfl))
          (try simp only [Act.put, List.setIfInBounds_toArray, List.set_cons_zero, List.set_cons_succ])
          refine wpAnyH_take (i := 8) (oi := ⟨some 67, _, _, _, _, _⟩) (v := ?_) rfl (by kernel_rfl) (by kernel_rfl) (by kernel_rfl) (fun _ _ _ h => h) (Or.inl ⟨by rfl, ?_⟩) (by assumption) ?_
          rotate_left
          · (intro w' hSw; clear hSw; go_simp; try (with_reducible rfl))
          (try simp only [Act.put, List.setIfInBounds_toArray, List.set_cons_zero, List.set_cons_succ])
          refine wpAnyH_take (i := 9) (oi := ⟨some 68, _, _, _, _, _⟩) (v := ?_) rfl (by kernel_rfl) (by kernel_rfl) (by kernel_rfl) (fun _ _ _ h => h) (Or.inl ⟨by rfl, ?_⟩) (by assumption) ?_
          rotate_left
          · (intro w' hSw; clear hSw; go_simp; try (with_reducible rfl))
          (try simp only [Act.put, List.setIfInBounds_toArray, List.set_cons_zero, List.set_cons_succ])
          refine wpAnyH_ready (rs := [10]) (by kernel_rfl) (by simp) ?_
          refine AllReadyH.cons (o := ⟨none, _, _, _, _, _⟩) rfl (fun K hK => ?_) AllReadyH.nil
          refine wp_store_one 4 _ _ rfl g 29 (.bool (false)) rfl rfl rfl _ _ C.drew.box (by rw [cnt_size]; decide) (by kernel_rfl) (fun w4 u => ?_)
          replace C : CnTo w g x ⟨a0, a1, a2, a3, a4, a5, a6, a7, a8, a9, false, a11, a12, a13⟩ (orB (n) 8 (false)) w4 := C.drew.upd u
          replace HR := u.bx HR.drew hne
          refine hK.out _ _ ⟨_, _, C, HR⟩ (fun hHeld => ?_)
          clear hK K u
          (try simp only [Act.put])
          refine wpAnyH_take (i := 11) (oi := ⟨some 69, _, _, _, _, _⟩) (v := ?_) rfl (by kernel_rfl) (by kernel_rfl) (by kernel_rfl) (fun _ _ _ h => h) (Or.inl ⟨by rfl, ?_⟩) (by assumption) ?_
          rotate_left
          · (intro w' hSw; clear hSw; go_simp; try (with_reducible rfl))
          (try simp only [Act.put, List.setIfInBounds_toArray, List.set_cons_zero, List.set_cons_succ])
          refine wpAnyH_take (i := 12) (oi := ⟨some 70, _, _, _, _, _⟩) (v := ?_) rfl (by kernel_rfl) (by kernel_rfl) (by kernel_rfl) (fun _ _ _ h => h) (Or.inl ⟨by rfl, ?_⟩) (by assumption) ?_
          rotate_left
          · (intro w' hSw; clear hSw; go_simp; try (with_reducible rfl))
          (try simp only [Act.put, List.setIfInBounds_toArray, List.set_cons_zero, List.set_cons_succ])
          refine wpAnyH_ready (rs := [13]) (by kernel_rfl) (by simp) ?_
          refine AllReadyH.cons (o := ⟨none, _, _, _, _, _⟩) rfl (fun K hK => ?_) AllReadyH.nil
          refine wp_store_one 3 _ _ rfl g 28 (.int .i64 (a0)) rfl rfl rfl _ _ C.box (by rw [cnt_size]; decide) (by kernel_rfl) (fun w5 u => ?_)
          replace C : CnTo w g x ⟨a0, a1, a2, a3, a4, a5, a6, a7, a8, a0, false, a11, a12, a13⟩ (orB (n) 8 (false)) w5 := C.upd u
          replace HR := u.bx HR hne
          refine hK.out _ _ ⟨_, _, C, HR⟩ (fun hHeld => ?_)
          clear hK K u
          (try simp only [Act.put])
          refine wpAnyH_done (by kernel_rfl) ?_ _
          refine NoPanic.normal ?_
          go_wp2_with fail
          go_meet
          exact ⟨C, HR⟩
        case rest =>
        obtain ⟨C, HR⟩ := hcut
        rename World => w6
        go_wp2_with (first
          | (refine wpList_store_fld (by rfl) 3 _ _ rfl g 25 (.int .i64 (0)) rfl rfl rfl _ _ C.box (by rw [cnt_size]; decide) (by kernel_rfl) (fun w7 u => ?_); replace C : CnTo w g x ⟨a0, a1, a2, a3, a4, a5, 0, a7, a8, a0, false, a11, a12, a13⟩ (orB (n) 8 (false)) w7 := C.upd u; replace HR := u.bx HR hne; clear u)
          | (refine wpList_store_fld (by rfl) 3 _ _ rfl g 27 (.int .i64 (0)) rfl rfl rfl _ _ C.box (by rw [cnt_size]; decide) (by kernel_rfl) (fun w8 u => ?_); replace C : CnTo w g x ⟨a0, a1, a2, a3, a4, a5, 0, a7, 0, a0, false, a11, a12, a13⟩ (orB (n) 8 (false)) w8 := C.upd u; replace HR := u.bx HR hne; clear u))
        go_meet
        exact ⟨C, HR⟩
      case true =>
        have f29 : w2.cell? ⟨g, 29, none⟩ = some (.bool (a10)) := C.box.cell rfl
        go_upto_region 5 with (first
          | (go_at_call 64; (with_reducible refine (breaks_any g x ⟨a0, a1, a2, a3, a4, a5, a6, a7, a8, a9, a10, a11, a12, a13⟩ (n) 8 _ _ _ C.box hn (by omega) (by decide)).mono ?_); rintro e w3 ⟨rfl, c⟩; replace C : CnTo w g x ⟨a0, a1, a2, a3, a4, a5, a6, a7, a8, a9, a10, a11, a12, a13⟩ (orB (n) 8 (a10)) w3 := C.trans c; replace HR := c.bx HR hne; clear c; have hn3 : orB (n) 8 (a10) < 1024 := orB_lt _ hn (by omega); have f19 : w3.cell? ⟨g, 19, none⟩ = some (.int .i64 (a0)) := C.box.cell rfl; have q6 : w3.cell? ⟨R, 6, none⟩ = some (.bool true) := HR.cell rfl))
        (try go_frame)
        go_cut [] (fun wx => CnTo w g x ⟨a0, a1, a2, a3, a4, a5, a6, a7, a8, a0, true, a11, a12, a13⟩ (orB (n) 8 (a10)) wx ∧ Bx wx R 129 (wo ⟨v0, v1, v2, v3, v4, true, true⟩))
        case first =>
          refine wp_region_noPanic ?_
          refine wp_region_held_drew (S := fun w' => ∃ br sa, CnTo w g x ⟨a0, a1, a2, a3, a4, a5, a6, a7, a8, sa, br, a11, a12, a13⟩ (orB (n) 8 (a10)) w' ∧ Bx w' R 129 (wo ⟨v0, v1, v2, v3, v4, true, true⟩)) (by kernel_rfl) ?_ (fun hHeld => ?_)
          · exact ⟨_, _, C.drew, HR.drew⟩
          refine wpAnyH_take (i := 0) (oi := ⟨some 59, _, _, _, _, _⟩) (v := ?_) rfl (by kernel_rfl) (by kernel_rfl) (by kernel_rfl) (fun _ _ _ h => h) (Or.inl ⟨by rfl, ?_⟩) (by assumption) ?_
          rotate_left
          · (intro w' hSw; clear hSw; go_simp; try (with_reducible rfl))
          (try simp only [Act.put, List.setIfInBounds_toArray, List.set_cons_zero, List.set_cons_succ])
          refine wpAnyH_take (i := 1) (oi := ⟨some 60, _, _, _, _, _⟩) (v := ?_) rfl (by kernel_rfl) (by kernel_rfl) (by kernel_rfl) (fun _ _ _ h => h) (Or.inl ⟨by rfl, ?_⟩) (by assumption) ?_
          rotate_left
          · (intro w' hSw; clear hSw; go_simp; try (with_reducible rfl))
          (try simp only [Act.put, List.setIfInBounds_toArray, List.set_cons_zero, List.set_cons_succ])
          refine wpAnyH_take (i := 2) (oi := ⟨some 61, _, _, _, _, _⟩) (v := ?_) rfl (by kernel_rfl) (by kernel_rfl) (by kernel_rfl) (fun _ _ _ h => h) (Or.inl ⟨by rfl, ?_⟩) (by assumption) ?_
          rotate_left
          · (intro w' hSw; clear hSw; go_simp; try (with_reducible rfl))
          (try simp only [Act.put, List.setIfInBounds_toArray, List.set_cons_zero, List.set_cons_succ])
          refine wpAnyH_take (i := 3) (oi := ⟨some 62, _, _, _, _, _⟩) (v := ?_) rfl (by kernel_rfl) (by kernel_rfl) (by kernel_rfl) (fun _ _ _ h => h) (Or.inl ⟨by rfl, ?_⟩) (by assumption) ?_
          rotate_left
          · (intro w' hSw; obtain ⟨br, sa, hC, hR⟩ := hSw; have q6 : w'.cell? ⟨R, 6, none⟩ = some (.bool true) := hR.cell rfl; clear hC hR; go_simp; try (with_reducible rfl))
          (try simp only [Act.put, List.setIfInBounds_toArray, List.set_cons_zero, List.set_cons_succ])
          refine wpAnyH_take (i := 4) (oi := ⟨some 63, _, _, _, _, _⟩) (v := ?_) rfl (by kernel_rfl) (by kernel_rfl) (by kernel_rfl) (fun _ _ _ h => h) (Or.inl ⟨by rfl, ?_⟩) (by assumption) ?_
          rotate_left
          · (intro w' hSw; clear hSw; go_simp; try (with_reducible rfl))
          (try simp only [Act.put, List.setIfInBounds_toArray, List.set_cons_zero, List.set_cons_succ])
          refine wpAnyH_take (i := 5) (oi := ⟨some 64, _, _, _, _, _⟩) (v := ?_) rfl (by kernel_rfl) (by kernel_rfl) (by kernel_rfl) (fun _ _ _ h => h) (Or.inl ⟨by rfl, ?_⟩) (by assumption) ?_
          rotate_left
          · (intro w' hSw; clear hSw; go_simp; try (with_reducible rfl))
          (try simp only [Act.put, List.setIfInBounds_toArray, List.set_cons_zero, List.set_cons_succ])
          refine wpAnyH_take (i := 6) (oi := ⟨some 65, _, _, _, _, _⟩) (v := ?_) rfl (by kernel_rfl) (by kernel_rfl) (by kernel_rfl) (fun _ _ _ h => h) (Or.inl ⟨by rfl, ?_⟩) (by assumption) ?_
          rotate_left
          · (intro w' hSw; clear hSw; go_simp; try (with_reducible rfl))
          (try simp only [Act.put, List.setIfInBounds_toArray, List.set_cons_zero, List.set_cons_succ])
          refine wpAnyH_take (i := 7) (oi := ⟨some 66, _, _, _, _, _⟩) (v := ?_) rfl (by kernel_rfl) (by kernel_rfl) (by kernel_rfl) (fun _ _ _ h => h) (Or.inl ⟨by rfl, ?_⟩) (by assumption) ?_
          rotate_left
          · (intro w' hSw; obtain ⟨br, sa, hC, hR⟩ := hSw; have q19 : w'.cell? ⟨g, 19, none⟩ = some (.int .i64 a0) := hC.box.cell rfl; clear hC hR; go_simp; try (with_reducible rfl))
          (try simp only [Act.put, List.setIfInBounds_toArray, List.set_cons_zero, List.set_cons_succ])
          refine wpAnyH_take (i := 8) (oi := ⟨some 67, _, _, _, _, _⟩) (v := ?_) rfl (by kernel_rfl) (by kernel_rfl) (by kernel_rfl) (fun _ _ _ h => h) (Or.inl ⟨by rfl, ?_⟩) (by assumption) ?_
          rotate_left
          · (intro w' hSw; clear hSw; go_simp; try (with_reducible rfl))
          (try simp only [Act.put, List.setIfInBounds_toArray, List.set_cons_zero, List.set_cons_succ])
          refine wpAnyH_take (i := 9) (oi := ⟨some 68, _, _, _, _, _⟩) (v := ?_) rfl (by kernel_rfl) (by kernel_rfl) (by kernel_rfl) (fun _ _ _ h => h) (Or.inl ⟨by rfl, ?_⟩) (by assumption) ?_
          rotate_left
          · (intro w' hSw; clear hSw; go_simp; try (with_reducible rfl))
          (try simp only [Act.put, List.setIfInBounds_toArray, List.set_cons_zero, List.set_cons_succ])
          refine wpAnyH_ready (rs := [10]) (by kernel_rfl) (by simp) ?_
          refine AllReadyH.cons (o := ⟨none, _, _, _, _, _⟩) rfl (fun K hK => ?_) AllReadyH.nil
          refine wp_store_one 4 _ _ rfl g 29 (.bool (true)) rfl rfl rfl _ _ C.drew.box (by rw [cnt_size]; decide) (by kernel_rfl) (fun w4 u => ?_)
          replace C : CnTo w g x ⟨a0, a1, a2, a3, a4, a5, a6, a7, a8, a9, true, a11, a12, a13⟩ (orB (n) 8 (a10)) w4 := C.drew.upd u
          replace HR := u.bx HR.drew hne
          refine hK.out _ _ ⟨_, _, C, HR⟩ (fun hHeld => ?_)
          clear hK K u
          (try simp only [Act.put])
          refine wpAnyH_take (i := 11) (oi := ⟨some 69, _, _, _, _, _⟩) (v := ?_) rfl (by kernel_rfl) (by kernel_rfl) (by kernel_rfl) (fun _ _ _ h => h) (Or.inl ⟨by rfl, ?_⟩) (by assumption) ?_
          rotate_left
          · (intro w' hSw; clear hSw; go_simp; try (with_reducible rfl))
          (try simp only [Act.put, List.setIfInBounds_toArray, List.set_cons_zero, List.set_cons_succ])
          refine wpAnyH_take (i := 12) (oi := ⟨some 70, _, _, _, _, _⟩) (v := ?_) rfl (by kernel_rfl) (by kernel_rfl) (by kernel_rfl) (fun _ _ _ h => h) (Or.inl ⟨by rfl, ?_⟩) (by assumption) ?_
          rotate_left
          · (intro w' hSw; clear hSw; go_simp; try (with_reducible rfl))
          (try simp only [Act.put, List.setIfInBounds_toArray, List.set_cons_zero, List.set_cons_succ])
          refine wpAnyH_ready (rs := [13]) (by kernel_rfl) (by simp) ?_
          refine AllReadyH.cons (o := ⟨none, _, _, _, _, _⟩) rfl (fun K hK => ?_) AllReadyH.nil
          refine wp_store_one 3 _ _ rfl g 28 (.int .i64 (a0)) rfl rfl rfl _ _ C.box (by rw [cnt_size]; decide) (by kernel_rfl) (fun w5 u => ?_)
          replace C : CnTo w g x ⟨a0, a1, a2, a3, a4, a5, a6, a7, a8, a0, true, a11, a12, a13⟩ (orB (n) 8 (a10)) w5 := C.upd u
          replace HR := u.bx HR hne
          refine hK.out _ _ ⟨_, _, C, HR⟩ (fun hHeld => ?_)
          clear hK K u
          (try simp only [Act.put])
          refine wpAnyH_done (by kernel_rfl) ?_ _
          refine NoPanic.normal ?_
          go_wp2_with fail
          go_meet
          exact ⟨C, HR⟩
        case rest =>
        obtain ⟨C, HR⟩ := hcut
        rename World => w6
        go_wp2_with (first
          | (refine wpList_store_fld (by rfl) 3 _ _ rfl g 25 (.int .i64 (0)) rfl rfl rfl _ _ C.box (by rw [cnt_size]; decide) (by kernel_rfl) (fun w7 u => ?_); replace C : CnTo w g x ⟨a0, a1, a2, a3, a4, a5, 0, a7, a8, a0, true, a11, a12, a13⟩ (orB (n) 8 (a10)) w7 := C.upd u; replace HR := u.bx HR hne; clear u)
          | (refine wpList_store_fld (by rfl) 3 _ _ rfl g 27 (.int .i64 (0)) rfl rfl rfl _ _ C.box (by rw [cnt_size]; decide) (by kernel_rfl) (fun w8 u => ?_); replace C : CnTo w g x ⟨a0, a1, a2, a3, a4, a5, 0, a7, 0, a0, true, a11, a12, a13⟩ (orB (n) 8 (a10)) w8 := C.upd u; replace HR := u.bx HR hne; clear u))
        go_meet
        exact ⟨C, HR⟩
  case rest =>
  obtain ⟨C, HR⟩ := hcut
  rename World => w3
  clear q5
  have hn1 : orB n 8 (c8 ⟨v0, v1, v2, v3, v4, v5, v6⟩ ⟨a0, a1, a2, a3, a4, a5, a6, a7, a8, a9, a10, a11, a12, a13⟩) < 1024 := orB_lt _ hn (by omega)
  obtain ⟨n1, hn1e⟩ : ∃ n1, orB n 8 (c8 ⟨v0, v1, v2, v3, v4, v5, v6⟩ ⟨a0, a1, a2, a3, a4, a5, a6, a7, a8, a9, a10, a11, a12, a13⟩) = n1 := ⟨_, rfl⟩
  rw [hn1e] at C hn1
  have HN1 := Lib.hid hn1e
  obtain ⟨m1, hm1⟩ : ∃ m1, e1 ⟨v0, v1, v2, v3, v4, v5, v6⟩ ⟨a0, a1, a2, a3, a4, a5, a6, a7, a8, a9, a10, a11, a12, a13⟩ = m1 := ⟨_, rfl⟩
  rw [hm1] at C h2
  have HM1 := Lib.hid hm1
  clear hn1e hm1
  have h3 := may_e2 ⟨v0, v1, v2, v3, v4, v5, v6⟩ h2.1
  obtain ⟨b0, b1, b2, b3, b4, b5, b6, b7, b8, b9, b10, b11, b12, b13⟩ := m1
  obtain ⟨h2, -⟩ := h2
  unfold MayM at h2
  dsimp only at h2
  obtain ⟨⟨r0', s0'⟩, -, -, -, -, -, ⟨r8, s8⟩, -⟩ := h2
  have q4 : w3.cell? ⟨R, 4, none⟩ = some (.bool v4) := HR.cell rfl
  go_upto_if 78 with fail
  go_cut [] (fun wx => CnTo w g x (e2 ⟨v0, v1, v2, v3, v4, v5, v6⟩ ⟨b0, b1, b2, b3, b4, b5, b6, b7, b8, b9, b10, b11, b12, b13⟩) (orB n1 6 (v4 && decide (x 9 < (e2 ⟨v0, v1, v2, v3, v4, v5, v6⟩ ⟨b0, b1, b2, b3, b4, b5, b6, b7, b8, b9, b10, b11, b12, b13⟩).reduces))) wx ∧ Bx wx R 129 (wo ⟨v0, v1, v2, v3, v4, v5, v6⟩))
  case first =>
    cases v4
    case false =>
      go_wp2
      go_meet
      exact ⟨by show CnTo w g x ⟨b0, b1, b2, b3, b4, b5, b6, b7, b8, b9, b10, b11, b12, b13⟩ (orB n1 6 false) _; rw [orB_no]; exact C, HR⟩
    case true =>
      have f27 : w3.cell? ⟨g, 27, none⟩ = some (.int .i64 (b8)) := C.box.cell rfl
      go_upto_region 9 with (first
        | (refine wpList_store_fld (by rfl) 3 _ _ rfl g 27 (.int .i64 (b8 + 1)) rfl rfl rfl _ _ C.box (by rw [cnt_size]; decide) (by kernel_rfl) (fun w4 u => ?_); replace C : CnTo w g x ⟨b0, b1, b2, b3, b4, b5, b6, b7, b8 + 1, b9, b10, b11, b12, b13⟩ (n1) w4 := C.upd u; replace HR := u.bx HR hne; clear u; have f27 : w4.cell? ⟨g, 27, none⟩ = some (.int .i64 (b8 + 1)) := C.box.cell rfl; have f9 : w4.cell? ⟨g, 9, none⟩ = some (.int .i64 (x 9)) := C.box.cell rfl))
      (try go_frame)
      go_still_tail 11, (by kernel_rfl)
      change wpList _ _ _ _ _ w4.drew
      go_wp2_with (first
        | (go_at_call 64; (with_reducible refine (breaks_any g x ⟨b0, b1, b2, b3, b4, b5, b6, b7, b8 + 1, b9, b10, b11, b12, b13⟩ (n1) 6 _ _ _ C.drew.box hn1 (by omega) (by decide)).mono ?_); rintro e w5 ⟨rfl, c⟩; replace C : CnTo w g x ⟨b0, b1, b2, b3, b4, b5, b6, b7, b8 + 1, b9, b10, b11, b12, b13⟩ (orB (n1) 6 (decide (x 9 < b8 + 1))) w5 := C.drew.trans c; replace HR := c.bx HR.drew hne; clear c; have hn5 : orB (n1) 6 (decide (x 9 < b8 + 1)) < 1024 := orB_lt _ hn1 (by omega)))
      go_meet
      exact ⟨C, HR⟩
  case rest =>
  obtain ⟨C, HR⟩ := hcut
  rename World => w4
  clear q4
  obtain ⟨n2, hn2⟩ : ∃ n2, orB n1 6 (v4 && decide (x 9 < (e2 ⟨v0, v1, v2, v3, v4, v5, v6⟩ ⟨b0, b1, b2, b3, b4, b5, b6, b7, b8, b9, b10, b11, b12, b13⟩).reduces)) = n2 := ⟨_, rfl⟩
  rw [hn2] at C
  have HN2 := Lib.hid hn2
  obtain ⟨m2, hm2⟩ : ∃ m2, e2 ⟨v0, v1, v2, v3, v4, v5, v6⟩ ⟨b0, b1, b2, b3, b4, b5, b6, b7, b8, b9, b10, b11, b12, b13⟩ = m2 := ⟨_, rfl⟩
  rw [hm2] at C h3
  have HM2 := Lib.hid hm2
  clear hn2 hm2
  clear h3 hn1 r8 s8 r0' s0'
  obtain ⟨d0, d1, d2, d3, d4, d5, d6, d7, d8, d9, d10, d11, d12, d13⟩ := m2
  have q3 : w4.cell? ⟨R, 3, none⟩ = some (.bool v3) := HR.cell rfl
  go_upto_if 99 with fail
  go_cut [] (fun wx => CnTo w g x (e3 ⟨v0, v1, v2, v3, v4, v5, v6⟩ ⟨d0, d1, d2, d3, d4, d5, d6, d7, d8, d9, d10, d11, d12, d13⟩) n2 wx)
  case first =>
    have q0 : w4.cell? ⟨R, 0, none⟩ = some (.bool v0) := HR.cell rfl
    have q1 : w4.cell? ⟨R, 1, none⟩ = some (.bool v1) := HR.cell rfl
    have q2 : w4.cell? ⟨R, 2, none⟩ = some (.bool v2) := HR.cell rfl
    cases v3
    case true =>
      have f19 : w4.cell? ⟨g, 19, none⟩ = some (.int .i64 (d0)) := C.box.cell rfl
      go_wp2_with (first
        | (refine wpList_store_fld (by rfl) 3 _ _ rfl g 23 (.int .i64 (d0)) rfl rfl rfl _ _ C.box (by rw [cnt_size]; decide) (by kernel_rfl) (fun w5 u => ?_); replace C : CnTo w g x ⟨d0, d1, d2, d3, d0, d5, d6, d7, d8, d9, d10, d11, d12, d13⟩ (n2) w5 := C.upd u; replace HR := u.bx HR hne; clear u)
        | (refine wpList_store_fld (by rfl) 3 _ _ rfl g 24 (.int .i64 (0)) rfl rfl rfl _ _ C.box (by rw [cnt_size]; decide) (by kernel_rfl) (fun w6 u => ?_); replace C : CnTo w g x ⟨d0, d1, d2, d3, d0, 0, d6, d7, d8, d9, d10, d11, d12, d13⟩ (n2) w6 := C.upd u; replace HR := u.bx HR hne; clear u)
        | (refine wpList_store_fld (by rfl) 3 _ _ rfl g 20 (.int .i64 (0)) rfl rfl rfl _ _ C.box (by rw [cnt_size]; decide) (by kernel_rfl) (fun w7 u => ?_); replace C : CnTo w g x ⟨d0, 0, d2, d3, d0, 0, d6, d7, d8, d9, d10, d11, d12, d13⟩ (n2) w7 := C.upd u; replace HR := u.bx HR hne; clear u)
        | (refine wpList_store_fld (by rfl) 4 _ _ rfl g 21 (.bool (false)) rfl rfl rfl _ _ C.box (by rw [cnt_size]; decide) (by kernel_rfl) (fun w8 u => ?_); replace C : CnTo w g x ⟨d0, 0, false, d3, d0, 0, d6, d7, d8, d9, d10, d11, d12, d13⟩ (n2) w8 := C.upd u; replace HR := u.bx HR hne; clear u)
        | (refine wpList_store_fld (by rfl) 4 _ _ rfl g 26 (.bool (false)) rfl rfl rfl _ _ C.box (by rw [cnt_size]; decide) (by kernel_rfl) (fun w9 u => ?_); replace C : CnTo w g x ⟨d0, 0, false, d3, d0, 0, d6, false, d8, d9, d10, d11, d12, d13⟩ (n2) w9 := C.upd u; replace HR := u.bx HR hne; clear u))
      go_meet
      exact C
    case false =>
      cases d7
      case false =>
        cases v0
        case false =>
          have f26 : w4.cell? ⟨g, 26, none⟩ = some (.bool (false)) := C.box.cell rfl
          go_wp2_with (first
            | (refine wpList_store_fld (by rfl) 4 _ _ rfl g 26 (.bool (v2)) rfl rfl rfl _ _ C.box (by rw [cnt_size]; decide) (by kernel_rfl) (fun w5 u => ?_); replace C : CnTo w g x ⟨d0, d1, d2, d3, d4, d5, d6, v2, d8, d9, d10, d11, d12, d13⟩ (n2) w5 := C.upd u; replace HR := u.bx HR hne; clear u; have q0 : w5.cell? ⟨R, 0, none⟩ = some (.bool false) := HR.cell rfl; have q1 : w5.cell? ⟨R, 1, none⟩ = some (.bool v1) := HR.cell rfl)
            | (refine wpList_store_fld (by rfl) 4 _ _ rfl g 21 (.bool (v1)) rfl rfl rfl _ _ C.box (by rw [cnt_size]; decide) (by kernel_rfl) (fun w6 u => ?_); replace C : CnTo w g x ⟨d0, d1, v1, d3, d4, d5, d6, v2, d8, d9, d10, d11, d12, d13⟩ (n2) w6 := C.upd u; replace HR := u.bx HR hne; clear u; have q0 : w6.cell? ⟨R, 0, none⟩ = some (.bool false) := HR.cell rfl))
          go_meet
          exact C
        case true =>
          have f26 : w4.cell? ⟨g, 26, none⟩ = some (.bool (false)) := C.box.cell rfl
          go_wp2_with (first
            | (refine wpList_store_fld (by rfl) 4 _ _ rfl g 26 (.bool (v2)) rfl rfl rfl _ _ C.box (by rw [cnt_size]; decide) (by kernel_rfl) (fun w5 u => ?_); replace C : CnTo w g x ⟨d0, d1, d2, d3, d4, d5, d6, v2, d8, d9, d10, d11, d12, d13⟩ (n2) w5 := C.upd u; replace HR := u.bx HR hne; clear u; have q0 : w5.cell? ⟨R, 0, none⟩ = some (.bool true) := HR.cell rfl; have q1 : w5.cell? ⟨R, 1, none⟩ = some (.bool v1) := HR.cell rfl)
            | (refine wpList_store_fld (by rfl) 4 _ _ rfl g 21 (.bool (v1)) rfl rfl rfl _ _ C.box (by rw [cnt_size]; decide) (by kernel_rfl) (fun w6 u => ?_); replace C : CnTo w g x ⟨d0, d1, v1, d3, d4, d5, d6, v2, d8, d9, d10, d11, d12, d13⟩ (n2) w6 := C.upd u; replace HR := u.bx HR hne; clear u; have q0 : w6.cell? ⟨R, 0, none⟩ = some (.bool true) := HR.cell rfl)
            | (refine wpList_store_fld (by rfl) 3 _ _ rfl g 20 (.int .i64 (0)) rfl rfl rfl _ _ C.box (by rw [cnt_size]; decide) (by kernel_rfl) (fun w7 u => ?_); replace C : CnTo w g x ⟨d0, 0, v1, d3, d4, d5, d6, v2, d8, d9, d10, d11, d12, d13⟩ (n2) w7 := C.upd u; replace HR := u.bx HR hne; clear u))
          go_meet
          exact C
      case true =>
        cases v0
        case false =>
          have f26 : w4.cell? ⟨g, 26, none⟩ = some (.bool (true)) := C.box.cell rfl
          go_wp2_with (first
            | (refine wpList_store_fld (by rfl) 4 _ _ rfl g 26 (.bool (true)) rfl rfl rfl _ _ C.box (by rw [cnt_size]; decide) (by kernel_rfl) (fun w5 u => ?_); replace C : CnTo w g x ⟨d0, d1, d2, d3, d4, d5, d6, true, d8, d9, d10, d11, d12, d13⟩ (n2) w5 := C.upd u; replace HR := u.bx HR hne; clear u; have q0 : w5.cell? ⟨R, 0, none⟩ = some (.bool false) := HR.cell rfl; have q1 : w5.cell? ⟨R, 1, none⟩ = some (.bool v1) := HR.cell rfl)
            | (refine wpList_store_fld (by rfl) 4 _ _ rfl g 21 (.bool (v1)) rfl rfl rfl _ _ C.box (by rw [cnt_size]; decide) (by kernel_rfl) (fun w6 u => ?_); replace C : CnTo w g x ⟨d0, d1, v1, d3, d4, d5, d6, true, d8, d9, d10, d11, d12, d13⟩ (n2) w6 := C.upd u; replace HR := u.bx HR hne; clear u; have q0 : w6.cell? ⟨R, 0, none⟩ = some (.bool false) := HR.cell rfl))
          go_meet
          exact C
        case true =>
          have f26 : w4.cell? ⟨g, 26, none⟩ = some (.bool (true)) := C.box.cell rfl
          go_wp2_with (first
            | (refine wpList_store_fld (by rfl) 4 _ _ rfl g 26 (.bool (true)) rfl rfl rfl _ _ C.box (by rw [cnt_size]; decide) (by kernel_rfl) (fun w5 u => ?_); replace C : CnTo w g x ⟨d0, d1, d2, d3, d4, d5, d6, true, d8, d9, d10, d11, d12, d13⟩ (n2) w5 := C.upd u; replace HR := u.bx HR hne; clear u; have q0 : w5.cell? ⟨R, 0, none⟩ = some (.bool true) := HR.cell rfl; have q1 : w5.cell? ⟨R, 1, none⟩ = some (.bool v1) := HR.cell rfl)
            | (refine wpList_store_fld (by rfl) 4 _ _ rfl g 21 (.bool (v1)) rfl rfl rfl _ _ C.box (by rw [cnt_size]; decide) (by kernel_rfl) (fun w6 u => ?_); replace C : CnTo w g x ⟨d0, d1, v1, d3, d4, d5, d6, true, d8, d9, d10, d11, d12, d13⟩ (n2) w6 := C.upd u; replace HR := u.bx HR hne; clear u; have q0 : w6.cell? ⟨R, 0, none⟩ = some (.bool true) := HR.cell rfl)
            | (refine wpList_store_fld (by rfl) 3 _ _ rfl g 20 (.int .i64 (0)) rfl rfl rfl _ _ C.box (by rw [cnt_size]; decide) (by kernel_rfl) (fun w7 u => ?_); replace C : CnTo w g x ⟨d0, 0, v1, d3, d4, d5, d6, true, d8, d9, d10, d11, d12, d13⟩ (n2) w7 := C.upd u; replace HR := u.bx HR hne; clear u))
          go_meet
          exact C
  case rest =>
  have C := hcut
  clear hcut
  rename World => w5
  clear HR q3
  obtain ⟨m3, hm3⟩ : ∃ m3, e3 ⟨v0, v1, v2, v3, v4, v5, v6⟩ ⟨d0, d1, d2, d3, d4, d5, d6, d7, d8, d9, d10, d11, d12, d13⟩ = m3 := ⟨_, rfl⟩
  rw [hm3] at C
  have HM3 := Lib.hid hm3
  clear hm3
  obtain ⟨t0, t1, t2, t3, t4, t5, t6, t7, t8, t9, t10, t11, t12, t13⟩ := m3
  go_wp2_with (first
    | (refine wpList_store_fld (by rfl) 3 _ _ rfl g 22 (.int .i64 (0)) rfl rfl rfl _ _ C.box (by rw [cnt_size]; decide) (by kernel_rfl) (fun w6 u => ?_); replace C : CnTo w g x ⟨t0, t1, t2, 0, t4, t5, t6, t7, t8, t9, t10, t11, t12, t13⟩ (n2) w6 := C.upd u; clear u))
  refine bodyPost_end (results_none Try.results63 _ _ _) rfl ⟨rfl, ?_⟩
  have he : endM ⟨v0, v1, v2, v3, v4, v5, v6⟩ ⟨a0, a1, a2, a3, a4, a5, a6, a7, a8, a9, a10, a11, a12, a13⟩ = ⟨t0, t1, t2, 0, t4, t5, t6, t7, t8, t9, t10, t11, t12, t13⟩ := by unfold endM; rw [HM1.out, HM2.out, HM3.out]
  have hn2 : orB (orB n 8 (c8 ⟨v0, v1, v2, v3, v4, v5, v6⟩ ⟨a0, a1, a2, a3, a4, a5, a6, a7, a8, a9, a10, a11, a12, a13⟩)) 6 (c6 x ⟨v0, v1, v2, v3, v4, v5, v6⟩ ⟨a0, a1, a2, a3, a4, a5, a6, a7, a8, a9, a10, a11, a12, a13⟩) = n2 := by unfold c6; rw [HN1.out, HM1.out]; exact HN2.out
  rw [he, hn2]
  exact C

end Go.Proofs.Ytolbihfnogbjaaa
