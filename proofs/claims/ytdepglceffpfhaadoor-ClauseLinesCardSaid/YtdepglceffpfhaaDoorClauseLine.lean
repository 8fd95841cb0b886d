/- What Line of layer 15, and the document's own, return. Conditions: as each theorem says; the program's listed variables are laid. -/
import Derived.Test.YtdepglceffpfhaaDoorRows
import Derived.Test.YtdepglceffpfhaaDoorBase
import Derived.Test.YtdepglceffpfhaaDoorRow
import Derived.Test.YtdepglceffpfhaaDoorWordHeap
import Derived.Test.YtdepglceffpfhaaDoorWordJoin
import Derived.Test.YtdepglceffpfhaaDoorWordTold
import Derived.Test.YtdepglceffpfhaaDoorClauseMath
import Derived.Test.YtdepglceffpfhaaDoorClauseFind
import Derived.WalkKit
import Derived.WalkSpells
import Derived.WalkSmall
import Derived.Below
import Derived.Outline
import Derived.OwnWalk
import Derived.Lib.Hide
import Derived.BigQuiet
import Derived.BigRegion
import Derived.Deep.QuietTactic
import Derived.Deep.RegionHeld3
namespace Go.Proofs.YtdepglceffpfhaaDoor
open Go.RowKit

/-- The listed variables that all of layer 15 reads. -/
structure Laid15 (w : World) : Prop where
  titles : Titles w
  tab : Lib.TabIs Tryd.prog w "internal/strconv.uint64pow10" .u64 Lib.pow10Tab

theorem Laid15.below {w w' : World} (h : Laid15 w) (hb : Below w.heap.size w w') : Laid15 w' := ⟨h.titles.below hb, var_below h.tab hb⟩

theorem tab_below {w w' : World} (h : Lib.TabIs Tryd.prog w "internal/strconv.uint64pow10" .u64 Lib.pow10Tab) (hb : Below w.heap.size w w') : Lib.TabIs Tryd.prog w' "internal/strconv.uint64pow10" .u64 Lib.pow10Tab := var_below h hb

theorem three_read {W : World} {n : Nat} {a b c : ByteArray} (h0 : W.cell? ⟨n, 0, none⟩ = some (.string a)) (h1 : W.cell? ⟨n, 1, none⟩ = some (.string b)) (h2 : W.cell? ⟨n, 2, none⟩ = some (.string c)) : RdT W (some ⟨n, 0, none⟩) [a, b, c] := fun _ => ⟨n, 0, rfl, World.block_lt_of_cell? W ⟨n, 0, none⟩ h0, fun k hk => by
  have : k = 0 ∨ k = 1 ∨ k = 2 := by simp at hk; omega
  rcases this with rfl | rfl | rfl
  · exact h0
  · exact h1
  · exact h2⟩

theorem line15_none (c x y : Int) (w : World) (hl : Laid15 w) (h : ¬ isC c) :
    Calls Tryd.prog 20 #[.agg #[.int .i64 c, .int .i64 x, .int .i64 y]] w fun e w' => e = .returned (.tuple #[.string ⟨#[]⟩, .int .i64 13]) ∧ Below w.heap.size w w' := by
  have CT := fun W (h : Titles W) => title_any c W h
  rw [none_no h] at CT
  have HT := Lib.hid hl.titles
  generalize nameV c = a at CT
  generalize artV c = b at CT
  clear h
  clear hl
  go_enter Tryd.func20, Tryd.ntmps20
  go_wp2_with (go_at_call 24; (with_reducible refine (CT _ (HT.out.below (by (repeat (first | assumption | exact Below.refl _ _ | (refine b_st ?_ (by first | (simp; done) | (simp; omega))) | (refine b_al ?_ (Nat.le_refl _) _) | refine b_dn ?_ | refine b_dr ?_ | (refine b_cl ?_ (Nat.le_refl _) (by assumption))))))).mono ?_); rintro e w1 ⟨rfl, hb1⟩; obtain ⟨hc1, hf1⟩ := bcell hb1; have hz1 := hb1.size; (try simp at hz1); have hlt1 : w.heap.size < w1.heap.size := (by omega))
  go_ret2
  refine ⟨rfl, ?_⟩
  (repeat (first | assumption | exact Below.refl _ _ | (refine b_st ?_ (by first | (simp; done) | (simp; omega))) | (refine b_al ?_ (Nat.le_refl _) _) | refine b_dn ?_ | refine b_dr ?_ | (refine b_cl ?_ (Nat.le_refl _) (by assumption))))

theorem line15_span (c x y : Int) (w : World) (hl : Laid15 w) (h : isC c) (h2 : y ≤ x) :
    Calls Tryd.prog 20 #[.agg #[.int .i64 c, .int .i64 x, .int .i64 y]] w fun e w' => e = .returned (.tuple #[.string ⟨#[]⟩, .int .i64 3]) ∧ Below w.heap.size w w' := by
  have CT := fun W (h : Titles W) => title_any c W h
  rw [none_yes h] at CT
  have HT := Lib.hid hl.titles
  generalize nameV c = a at CT
  generalize artV c = b at CT
  clear h
  clear hl
  go_enter Tryd.func20, Tryd.ntmps20
  go_wp2_with (go_at_call 24; (with_reducible refine (CT _ (HT.out.below (by (repeat (first | assumption | exact Below.refl _ _ | (refine b_st ?_ (by first | (simp; done) | (simp; omega))) | (refine b_al ?_ (Nat.le_refl _) _) | refine b_dn ?_ | refine b_dr ?_ | (refine b_cl ?_ (Nat.le_refl _) (by assumption))))))).mono ?_); rintro e w1 ⟨rfl, hb1⟩; obtain ⟨hc1, hf1⟩ := bcell hb1; have hz1 := hb1.size; (try simp at hz1); have hlt1 : w.heap.size < w1.heap.size := (by omega))
  go_ret2
  refine ⟨rfl, ?_⟩
  (repeat (first | assumption | exact Below.refl _ _ | (refine b_st ?_ (by first | (simp; done) | (simp; omega))) | (refine b_al ?_ (Nat.le_refl _) _) | refine b_dn ?_ | refine b_dr ?_ | (refine b_cl ?_ (Nat.le_refl _) (by assumption))))

theorem line15_low (c x y : Int) (w : World) (hl : Laid15 w) (h : isC c) (h2 : ¬ y ≤ x) (h3 : x < 0) :
    Calls Tryd.prog 20 #[.agg #[.int .i64 c, .int .i64 x, .int .i64 y]] w fun e w' => e = .returned (.tuple #[.string ⟨#[]⟩, .int .i64 4]) ∧ Below w.heap.size w w' := by
  have CT := fun W (h : Titles W) => title_any c W h
  rw [none_yes h] at CT
  have HT := Lib.hid hl.titles
  generalize nameV c = a at CT
  generalize artV c = b at CT
  clear h
  clear hl
  go_enter Tryd.func20, Tryd.ntmps20
  go_wp2_with (go_at_call 24; (with_reducible refine (CT _ (HT.out.below (by (repeat (first | assumption | exact Below.refl _ _ | (refine b_st ?_ (by first | (simp; done) | (simp; omega))) | (refine b_al ?_ (Nat.le_refl _) _) | refine b_dn ?_ | refine b_dr ?_ | (refine b_cl ?_ (Nat.le_refl _) (by assumption))))))).mono ?_); rintro e w1 ⟨rfl, hb1⟩; obtain ⟨hc1, hf1⟩ := bcell hb1; have hz1 := hb1.size; (try simp at hz1); have hlt1 : w.heap.size < w1.heap.size := (by omega))
  go_ret2
  refine ⟨rfl, ?_⟩
  (repeat (first | assumption | exact Below.refl _ _ | (refine b_st ?_ (by first | (simp; done) | (simp; omega))) | (refine b_al ?_ (Nat.le_refl _) _) | refine b_dn ?_ | refine b_dr ?_ | (refine b_cl ?_ (Nat.le_refl _) (by assumption))))

theorem line15_high (c x y : Int) (w : World) (hl : Laid15 w) (h : isC c) (h2 : ¬ y ≤ x) (h3 : ¬ x < 0) (h4 : 40320 < y) :
    Calls Tryd.prog 20 #[.agg #[.int .i64 c, .int .i64 x, .int .i64 y]] w fun e w' => e = .returned (.tuple #[.string ⟨#[]⟩, .int .i64 4]) ∧ Below w.heap.size w w' := by
  have CT := fun W (h : Titles W) => title_any c W h
  rw [none_yes h] at CT
  have HT := Lib.hid hl.titles
  generalize nameV c = a at CT
  generalize artV c = b at CT
  clear h
  clear hl
  go_enter Tryd.func20, Tryd.ntmps20
  go_wp2_with (go_at_call 24; (with_reducible refine (CT _ (HT.out.below (by (repeat (first | assumption | exact Below.refl _ _ | (refine b_st ?_ (by first | (simp; done) | (simp; omega))) | (refine b_al ?_ (Nat.le_refl _) _) | refine b_dn ?_ | refine b_dr ?_ | (refine b_cl ?_ (Nat.le_refl _) (by assumption))))))).mono ?_); rintro e w1 ⟨rfl, hb1⟩; obtain ⟨hc1, hf1⟩ := bcell hb1; have hz1 := hb1.size; (try simp at hz1); have hlt1 : w.heap.size < w1.heap.size := (by omega))
  go_ret2
  refine ⟨rfl, ?_⟩
  (repeat (first | assumption | exact Below.refl _ _ | (refine b_st ?_ (by first | (simp; done) | (simp; omega))) | (refine b_al ?_ (Nat.le_refl _) _) | refine b_dn ?_ | refine b_dr ?_ | (refine b_cl ?_ (Nat.le_refl _) (by assumption))))

set_option maxHeartbeats 1000000 in
theorem line15_ok (c x y : Int) (w : World) (hl : Laid15 w) (h : isC c) (h2 : ¬ y ≤ x) (h3 : ¬ x < 0) (h4 : ¬ 40320 < y) :
    Calls Tryd.prog 20 #[.agg #[.int .i64 c, .int .i64 x, .int .i64 y]] w fun e w' => e = .returned (.tuple #[.string (findB c x y), .int .i64 0]) ∧ Below w.heap.size w w' := by
  have CT := fun W (h : Titles W) => title_any c W h
  rw [none_yes h] at CT
  have HT := Lib.hid hl.titles
  have HTAB := Lib.hid hl.tab
  have CD := fun (W : World) (ht : Lib.TabIs Tryd.prog W "internal/strconv.uint64pow10" .u64 Lib.pow10Tab) => told_tab x y W ht (by omega) (by omega) (by omega) (by omega)
  have hz := find_size (c := c) (x := x) (y := y) (by omega) (by omega) (by omega) (by omega)
  have CJ : ∀ (W : World) (N : Nat), W.cell? ⟨N, 0, none⟩ = some (.string (artW ++ artV c)) → W.cell? ⟨N, 1, none⟩ = some (.string (nameV c)) → W.cell? ⟨N, 2, none⟩ = some (.string (toldB x y)) →
      Calls Tryd.prog 31 #[.slice (some ⟨N, 0, none⟩) 3 3] W fun e w' => e = .returned (.string (findB c x y)) ∧ Below W.heap.size W w' := fun W N h0 h1 h2 => by
    have hzz := hz.2.2
    rw [← size_list, ← find_join] at hzz
    have := join_any (some ⟨N, 0, none⟩) 3 3 _ W rfl (three_read h0 h1 h2) (by omega) (by omega)
    rw [find_join] at this
    exact this
  have hza := hz.1
  clear hz
  have r1 : ∀ W : World, (Op.stringOp .add artW (artV c)).run Tryd.prog W = .ok (.string (artW ++ artV c)) W := fun W => run_string_add_sum W _ _ (by show 4 + _ ≤ _; omega)
  have r2 : ∀ W : World, (Op.stringOp .add ⟨#[97, 114, 116, 46]⟩ (artV c)).run Tryd.prog W = .ok (.string (artW ++ artV c)) W := r1
  clear r1
  generalize artW ++ artV c = d at CJ r2
  generalize nameV c = a at CT CJ
  generalize artV c = b at CT r2 hza
  generalize toldB x y = p at CD CJ
  generalize findB c x y = z at CJ
  clear hl h
  go_enter Tryd.func20, Tryd.ntmps20
  go_wp2_with (go_at_call 24; (with_reducible refine (CT _ (HT.out.below (by (repeat (first | assumption | exact Below.refl _ _ | (refine b_st ?_ (by first | (simp; done) | (simp; omega))) | (refine b_al ?_ (Nat.le_refl _) _) | refine b_dn ?_ | refine b_dr ?_ | (refine b_cl ?_ (Nat.le_refl _) (by assumption))))))).mono ?_); rintro e w1 ⟨rfl, hb1⟩; obtain ⟨hc1, hf1⟩ := bcell hb1; have hz1 := hb1.size; (try simp at hz1); have hlt1 : w.heap.size < w1.heap.size := (by omega))
  have k0 : (w1.alloc (.cells #[.string a, .string b] 47)).cell? ⟨w1.heap.size, 0, none⟩ = some (.string a) := by simp
  have k1 : (w1.alloc (.cells #[.string a, .string b] 47)).cell? ⟨w1.heap.size, 1, none⟩ = some (.string b) := by simp
  have k2 : (w1.alloc (.cells #[.string a, .string b] 47)).cell? ⟨w.heap.size, 1, none⟩ = some (.int .i64 x) := c_al _ (by rw [hc1 _ _ (by simp)]; simp)
  have k3 : (w1.alloc (.cells #[.string a, .string b] 47)).cell? ⟨w.heap.size, 2, none⟩ = some (.int .i64 y) := c_al _ (by rw [hc1 _ _ (by simp)]; simp)
  have HW : Hid (Below w.heap.size w (w1.alloc (.cells #[.string a, .string b] 47))) := Lib.hid (by (repeat (first | assumption | exact Below.refl _ _ | (refine b_st ?_ (by first | (simp; done) | (simp; omega))) | (refine b_al ?_ (Nat.le_refl _) _) | refine b_dn ?_ | refine b_dr ?_ | (refine b_cl ?_ (Nat.le_refl _) (by assumption)))))
  have HB : Hid (Lib.TabIs Tryd.prog (w1.alloc (.cells #[.string a, .string b] 47)) "internal/strconv.uint64pow10" .u64 Lib.pow10Tab) := Lib.hid (var_below HTAB.out HW.out)
  refine wp_region_noPanic ?_
  refine wp_region_held_drew (S := fun w' => Below (w1.alloc (.cells #[.string a, .string b] 47)).heap.size (w1.alloc (.cells #[.string a, .string b] 47)) w') (by kernel_rfl) ?_ (fun hHeld => ?_)
  · exact b_dr (Below.refl _ _)
  refine wpAnyH_take (i := 0) (oi := ⟨some 31, _, _, _, _, _⟩) (v := ?_) rfl (by kernel_rfl) (by kernel_rfl) (by kernel_rfl) (fun _ _ _ h => h) (Or.inl ⟨by rfl, ?_⟩) (by assumption) ?_
  rotate_left
  · (intro w' hSw; (try dsimp only at hSw); have c0 := c_cl k0 hSw; have c1 := c_cl k1 hSw; have c2 := c_cl k2 hSw; have c3 := c_cl k3 hSw; go_simp; try (with_reducible rfl))
  (try simp only [Act.put, List.setIfInBounds_toArray, List.set_cons_zero, List.set_cons_succ])
  refine wpAnyH_take (i := 1) (oi := ⟨some 32, _, _, _, _, _⟩) (v := ?_) rfl (by kernel_rfl) (by kernel_rfl) (by kernel_rfl) (fun _ _ _ h => h) (Or.inl ⟨by rfl, ?_⟩) (by assumption) ?_
  rotate_left
  · (intro w' hSw; (try dsimp only at hSw); have c0 := c_cl k0 hSw; have c1 := c_cl k1 hSw; have c2 := c_cl k2 hSw; have c3 := c_cl k3 hSw; go_simp; try (with_reducible rfl))
  (try simp only [Act.put, List.setIfInBounds_toArray, List.set_cons_zero, List.set_cons_succ])
  refine wpAnyH_take (i := 2) (oi := ⟨some 33, _, _, _, _, _⟩) (v := ?_) rfl (by kernel_rfl) (by kernel_rfl) (by kernel_rfl) (fun _ _ _ h => h) (Or.inl ⟨by rfl, ?_⟩) (by assumption) ?_
  rotate_left
  · (intro w' hSw; (try dsimp only at hSw); have c0 := c_cl k0 hSw; have c1 := c_cl k1 hSw; have c2 := c_cl k2 hSw; have c3 := c_cl k3 hSw; go_simp; try (with_reducible rfl))
  (try simp only [Act.put, List.setIfInBounds_toArray, List.set_cons_zero, List.set_cons_succ])
  refine wpAnyH_take (i := 3) (oi := ⟨some 34, _, _, _, _, _⟩) (v := ?_) rfl (by kernel_rfl) (by kernel_rfl) (by kernel_rfl) (fun _ _ _ h => h) (Or.inl ⟨by rfl, ?_⟩) (by assumption) ?_
  rotate_left
  · (intro w' hSw; (try dsimp only at hSw); have c0 := c_cl k0 hSw; have c1 := c_cl k1 hSw; have c2 := c_cl k2 hSw; have c3 := c_cl k3 hSw; go_simp; try (with_reducible rfl))
  (try simp only [Act.put, List.setIfInBounds_toArray, List.set_cons_zero, List.set_cons_succ])
  refine wpAnyH_take (i := 4) (oi := ⟨some 35, _, _, _, _, _⟩) (v := ?_) rfl (by kernel_rfl) (by kernel_rfl) (by kernel_rfl) (fun _ _ _ h => h) (Or.inl ⟨by rfl, ?_⟩) (by assumption) ?_
  rotate_left
  · (intro w' hSw; (try dsimp only at hSw); have c0 := c_cl k0 hSw; have c1 := c_cl k1 hSw; have c2 := c_cl k2 hSw; have c3 := c_cl k3 hSw; go_simp; try (with_reducible rfl))
  (try simp only [Act.put, List.setIfInBounds_toArray, List.set_cons_zero, List.set_cons_succ])
  refine wpAnyH_take (i := 5) (oi := ⟨some 36, _, _, _, _, _⟩) (v := ?_) rfl (by kernel_rfl) (by kernel_rfl) (by kernel_rfl) (fun _ _ _ h => h) (Or.inl ⟨by rfl, ?_⟩) (by assumption) ?_
  rotate_left
  · (intro w' hSw; (try dsimp only at hSw); have c0 := c_cl k0 hSw; have c1 := c_cl k1 hSw; have c2 := c_cl k2 hSw; have c3 := c_cl k3 hSw; go_simp; try (with_reducible rfl))
  (try simp only [Act.put, List.setIfInBounds_toArray, List.set_cons_zero, List.set_cons_succ])
  refine wpAnyH_take (i := 6) (oi := ⟨some 37, _, _, _, _, _⟩) (v := ?_) rfl (by kernel_rfl) (by kernel_rfl) (by kernel_rfl) (fun _ _ _ h => h) (Or.inl ⟨by rfl, ?_⟩) (by assumption) ?_
  rotate_left
  · (intro w' hSw; (try dsimp only at hSw); have c0 := c_cl k0 hSw; have c1 := c_cl k1 hSw; have c2 := c_cl k2 hSw; have c3 := c_cl k3 hSw; go_simp; try (with_reducible rfl))
  (try simp only [Act.put, List.setIfInBounds_toArray, List.set_cons_zero, List.set_cons_succ])
  refine wpAnyH_take (i := 7) (oi := ⟨some 38, _, _, _, _, _⟩) (v := ?_) rfl (by kernel_rfl) (by kernel_rfl) (by kernel_rfl) (fun _ _ _ h => h) (Or.inl ⟨by rfl, ?_⟩) (by assumption) ?_
  rotate_left
  · (intro w' hSw; (try dsimp only at hSw); have c0 := c_cl k0 hSw; have c1 := c_cl k1 hSw; have c2 := c_cl k2 hSw; have c3 := c_cl k3 hSw; go_simp; try (with_reducible rfl))
  (try simp only [Act.put, List.setIfInBounds_toArray, List.set_cons_zero, List.set_cons_succ])
  refine wpAnyH_take (i := 8) (oi := ⟨some 39, _, _, _, _, _⟩) (v := ?_) rfl (by kernel_rfl) (by kernel_rfl) (by kernel_rfl) (fun _ _ _ h => h) (Or.inl ⟨by rfl, ?_⟩) (by assumption) ?_
  rotate_left
  · (intro w' hSw; (try dsimp only at hSw); have c0 := c_cl k0 hSw; have c1 := c_cl k1 hSw; have c2 := c_cl k2 hSw; have c3 := c_cl k3 hSw; go_simp; try (with_reducible rfl))
  (try simp only [Act.put, List.setIfInBounds_toArray, List.set_cons_zero, List.set_cons_succ])
  refine wpAnyH_take (i := 9) (oi := ⟨some 40, _, _, _, _, _⟩) (v := ?_) rfl (by kernel_rfl) (by kernel_rfl) (by kernel_rfl) (fun _ _ _ h => h) (Or.inl ⟨by rfl, ?_⟩) (by assumption) ?_
  rotate_left
  · (intro w' hSw; (try dsimp only at hSw); have c0 := c_cl k0 hSw; have c1 := c_cl k1 hSw; have c2 := c_cl k2 hSw; have c3 := c_cl k3 hSw; go_simp; try (with_reducible rfl))
  (try simp only [Act.put, List.setIfInBounds_toArray, List.set_cons_zero, List.set_cons_succ])
  refine wpAnyH_ready (rs := [10]) (by kernel_rfl) (by simp) ?_
  refine AllReadyH.cons (o := ⟨some 41, _, _, _, _, _⟩) rfl (fun K hK => ?_) AllReadyH.nil
  go_simp
  (go_at_call 32; (with_reducible refine (CD _ (tab_below HB.out hHeld)).mono ?_); rintro e w2 ⟨rfl, hb2⟩)
  try go_wp2_with fail
  refine hK.out _ _ (by (repeat (first | assumption | exact Below.refl _ _ | (refine b_al ?_ (Nat.le_refl _) _) | refine b_dn ?_ | refine b_dr ?_ | (refine b_cl ?_ (Nat.le_refl _) (by assumption))))) (fun hHeld => ?_)
  clear hK K
  (try simp only [Act.put, List.setIfInBounds_toArray, List.set_cons_zero, List.set_cons_succ])
  refine wpAnyH_ready (rs := [11]) (by kernel_rfl) (by simp) ?_
  refine AllReadyH.cons (o := ⟨some 42, _, _, _, _, _⟩) rfl (fun K hK => ?_) AllReadyH.nil
  go_simp
  try go_wp2_with fail
  refine hK.out _ _ (by (repeat (first | assumption | exact Below.refl _ _ | (refine b_al ?_ (Nat.le_refl _) _) | refine b_dn ?_ | refine b_dr ?_ | (refine b_cl ?_ (Nat.le_refl _) (by assumption))))) (fun hHeld => ?_)
  clear hK K
  (try simp only [Act.put, List.setIfInBounds_toArray, List.set_cons_zero, List.set_cons_succ])
  refine wpAnyH_ready (rs := [12]) (by kernel_rfl) (by simp) ?_
  refine AllReadyH.cons (o := ⟨some 43, _, _, _, _, _⟩) rfl (fun K hK => ?_) AllReadyH.nil
  go_simp
  (go_at_call 31; (with_reducible refine (CJ _ _ ?_ ?_ ?_).mono ?_); (focus simp); (focus simp); (focus simp); rintro e w3 ⟨rfl, hb3⟩)
  try go_wp2_with fail
  refine hK.out _ _ (by (repeat (first | assumption | exact Below.refl _ _ | (refine b_al ?_ (Nat.le_refl _) _) | refine b_dn ?_ | refine b_dr ?_ | (refine b_cl ?_ (Nat.le_refl _) (by assumption))))) (fun hHeld => ?_)
  clear hK K
  (try simp only [Act.put, List.setIfInBounds_toArray, List.set_cons_zero, List.set_cons_succ])
  refine wpAnyH_ready (rs := [13]) (by kernel_rfl) (by simp) ?_
  refine AllReadyH.cons (o := ⟨some 2, _, _, _, _, _⟩) rfl (fun K hK => ?_) AllReadyH.nil
  go_simp
  try go_wp2_with fail
  refine hK.out _ _ (by (repeat (first | assumption | exact Below.refl _ _ | (refine b_al ?_ (Nat.le_refl _) _) | refine b_dn ?_ | refine b_dr ?_ | (refine b_cl ?_ (Nat.le_refl _) (by assumption))))) (fun hHeld => ?_)
  clear hK K
  (try simp only [Act.put, List.setIfInBounds_toArray, List.set_cons_zero, List.set_cons_succ])
  refine wpAnyH_ready (rs := [14]) (by kernel_rfl) (by simp) ?_
  refine AllReadyH.cons (o := ⟨some 3, _, _, _, _, _⟩) rfl (fun K hK => ?_) AllReadyH.nil
  go_simp
  try go_wp2_with fail
  refine hK.out _ _ (by (repeat (first | assumption | exact Below.refl _ _ | (refine b_al ?_ (Nat.le_refl _) _) | refine b_dn ?_ | refine b_dr ?_ | (refine b_cl ?_ (Nat.le_refl _) (by assumption))))) (fun hHeld => ?_)
  clear hK K
  (try simp only [Act.put, List.setIfInBounds_toArray, List.set_cons_zero, List.set_cons_succ])
  refine wpAnyH_done (by kernel_rfl) ?_ _
  refine NoPanic.normal ?_
  go_wp2
  go_ret2
  exact ⟨rfl, b_tr HW.out (by (repeat (first | assumption | exact Below.refl _ _ | (refine b_st ?_ (by first | (simp; done) | (simp; omega))) | (refine b_al ?_ (Nat.le_refl _) _) | refine b_dn ?_ | refine b_dr ?_ | (refine b_cl ?_ (Nat.le_refl _) (by assumption)))))⟩

theorem line15_any (c x y : Int) (w : World) (hl : Laid15 w) :
    Calls Tryd.prog 20 #[.agg #[.int .i64 c, .int .i64 x, .int .i64 y]] w fun e w' => e = .returned (.tuple #[.string (line15V c x y).1, .int .i64 (line15V c x y).2]) ∧ Below w.heap.size w w' := by
  by_cases h : isC c
  · by_cases h2 : y ≤ x
    · rw [line15_wrong (err15_span h h2) (by decide)]; exact line15_span c x y w hl h h2
    · by_cases h3 : x < 0
      · rw [line15_wrong (err15_range h h2 (.inl h3)) (by decide)]; exact line15_low c x y w hl h h2 h3
      · by_cases h4 : 40320 < y
        · rw [line15_wrong (err15_range h h2 (.inr h4)) (by decide)]; exact line15_high c x y w hl h h2 h3 h4
        · rw [line15_good (err15_ok h h2 (fun q => q.elim h3 h4))]; exact line15_ok c x y w hl h h2 h3 h4
  · rw [line15_wrong (err15_none h) (by decide)]; exact line15_none c x y w hl h

end Go.Proofs.YtdepglceffpfhaaDoor
