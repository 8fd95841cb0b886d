/- slices.Repeat of a slice with one int: as many of it as are asked for, in a slice of the call's own. Conditions: the slice can be read; at least one and at most a million are asked for. -/
import Derived.Test.YtlbafgdbemhanaaRows
import Derived.Test.YtlbafgdbemhanaaBase
import Derived.Test.YtlbafgdbemhanaaZ2
import Derived.Test.YtlbafgdbemhanaaZ1
import Derived.Test.YtlbafgdbemhanaaMul
import Derived.WalkKit
import Derived.WalkSpells
import Derived.WalkSmall
import Derived.Below
import Derived.Outline
import Derived.OwnWalk
import Derived.Lib.Hide
import Derived.BigQuiet
import Derived.Laws.CopyOwn
import Derived.Laws.MakeOwn
import Derived.Deep.RegionLaw
import Derived.Deep.DeepCutAuto
import Derived.Maps.RangeWalk
import Derived.Deep.QuietTactic
namespace Go.Proofs.Ytlbafgdbemhanaa
open Go.RowKit

theorem full_row {w : World} {base n c g : Nat} {e : TypeId} {xs : List Value} (hc : c = n) (h : w.ownsRow base e 1 (.slice (some ⟨g, 0, none⟩) n c) n xs) : w.heap[g]? = some (.cells xs.toArray e (0, 0)) := by
  subst hc
  rcases h.2 with ⟨h', _⟩ | ⟨g', cap, cur, h', hb, hg, h1, h2, h3, h4⟩
  · simp at h'
  · simp only [Value.slice.injEq, Option.some.injEq, Addr.mk.injEq, and_true, true_and] at h'
    obtain ⟨rfl, rfl⟩ := h'
    rw [hg, ← h4, Nat.mul_one, List.take_of_length_le (by simp [h3])]
theorem made_rep (n : Nat) : (madeCells (Value.int .i64 0).cells (n * 1)).toList = List.replicate n (Value.int .i64 0) := by
  simp [madeCells, Value.cells, Nat.mod_one, Array.toList_range]
  apply List.ext_getElem
  · simp
  · simp
theorem row_own {w : World} {g n : Nat} {e : TypeId} {xs : List Value} (hg : w.heap[g]? = some (.cells xs.toArray e (0, 0))) (hn : xs.length = n) (hm : n ≤ maxLen) : w.ownsRow g e 1 (.slice (some ⟨g, 0, none⟩) n n) n xs :=
  ⟨by omega, Or.inr ⟨g, n, xs.toArray, rfl, Nat.le_refl _, hg, Nat.le_refl _, hm, by simp [hn], by simp [← hn]⟩⟩
theorem splice_rep {α : Type} (x z : α) (q n m : Nat) (h : q + m ≤ n) : splice (List.replicate q x ++ List.replicate (n - q) z) q (List.replicate m x) = List.replicate (q + m) x ++ List.replicate (n - (q + m)) z := by
  have e1 : (List.replicate q x ++ List.replicate (n - q) z).take q = List.replicate q x := by
    rw [List.take_append_of_le_length (by simp)]; simp
  have e2 : (List.replicate q x ++ List.replicate (n - q) z).drop (q + m) = List.replicate (n - (q + m)) z := by
    rw [List.drop_append]
    simp only [List.length_replicate, List.drop_replicate]
    have : q - (q + m) = 0 := by omega
    rw [this]
    simp only [List.replicate_zero, List.nil_append]
    congr 1
    omega
  unfold splice
  rw [List.length_replicate, e1, e2, ← List.append_assoc, List.replicate_append_replicate]
theorem row_cell {w : World} {g j : Nat} {e : TypeId} {xs : List Value} {v : Value} (hg : w.heap[g]? = some (.cells xs.toArray e (0, 0))) (h : xs[j]? = some v) : w.cell? ⟨g, j, none⟩ = some v := by
  simp [World.cell?, hg, h]
/-- The cells of a slice of ints that reads as l, one by one. -/
theorem RdN.news {w : World} {ad : Addr} {l : List Int} (h : RdN w (some ad) l) : ∀ j u, (l.map (Value.int .i64))[j]? = some u → w.cell? (ad.add j) = some u := by
  intro j u hu
  have hj : j < l.length := by
    have := (List.getElem?_eq_some_iff.1 hu).1
    simpa using this
  obtain ⟨b, off, hA, _, hc⟩ := h (nonnil hj)
  injection hA with hA
  subst hA
  rw [addr_plain, hc j hj]
  rw [List.getElem?_map, List.getElem?_eq_getElem hj] at hu
  rw [List.getD_eq_getElem?_getD, List.getElem?_eq_getElem hj]
  simpa using hu
theorem ints_one {l : List Int} : ∀ u ∈ l.map (Value.int .i64), u.oneCell' = true := by
  intro u hu
  obtain ⟨x, _, rfl⟩ := List.mem_map.1 hu
  rfl

set_option maxRecDepth 100000 in
set_option maxHeartbeats 2000000 in
theorem repeat_any (x : Int) (n : Nat) (h1 : 1 ≤ n) (hn : n ≤ 1000000) (b off c : Nat) (w : World) (h : w.cell? ⟨b, off, none⟩ = some (.int .i64 x)) :
    Calls Try.prog 35 #[.slice (some ⟨b, off, none⟩) 1 c, .int .i64 n] w fun e w' => ∃ g cap, e = .returned (.slice (some ⟨g, 0, none⟩) n cap) ∧ OwnN w.heap.size w' (.slice (some ⟨g, 0, none⟩) n cap) (List.replicate n x) ∧ Below w.heap.size w w' := by
  obtain ⟨i1, hj, hy0, hy1, hy2⟩ := info_parts info_int
  have C : ∀ W, Calls Try.prog 61 #[.int .u64 1, .int .u64 (n : Int)] W fun e w' => e = .returned (.tuple #[.int .u64 0, .int .u64 (n : Int)]) ∧ w' = W := fun W => by
    have := mul_any 1 n (by omega) (by omega) W
    have e1 : 1 * n / 18446744073709551616 = 0 := by omega
    have e2 : 1 * n % 18446744073709551616 = n := by omega
    rw [e1, e2] at this
    exact this
  have w1 : IntKind.u64.wrap 1 = 1 := by decide
  have w2 : IntKind.u64.wrap (n : Int) = (n : Int) := by simp [IntKind.wrap, IntKind.bits, IntKind.signed]; omega
  have w3 : IntKind.i64.wrap (n : Int) = (n : Int) := by simp [IntKind.wrap, IntKind.bits, IntKind.signed]; omega
  have hsz : (Try.prog.info? 3).map (·.size) = some 1 := by kernel_rfl
  have hb := c_lt h
  have w4 : decide ((9223372036854775807 : Int) < (n : Int)) = false := decide_eq_false (by omega)
  go_enter Try.func35, Try.ntmps35
  go_wp2_with (first
    | (go_at_call 61; (with_reducible refine (C _).mono ?_); rintro e w9 ⟨rfl, e9⟩; obtain rfl := e9.symm)
    | (refine wpList_make_full _ rfl _ _ 59 rfl w.heap.size 3 i1 (.int .i64 0) 1 Try.underlying59 hj hy0 hy1 .i64 .i64 n n n rfl rfl rfl rfl (by rw [hy2]; omega) (by unfold maxLen; omega) (Nat.le_refl _) ?_; intro w4 hown4 hgrow4; have HB4 := (Below.refl w.heap.size w).grown hgrow4 (Nat.le_refl _) (fun q hq => by cases hq); rw [made_rep] at hown4; have HG4 := full_row rfl hown4; have HX4 := c_cl h HB4; clear hown4 hgrow4; have hgle := Nat.le_refl w.heap.size; have HB4 := Lib.hid HB4; generalize hg0 : (⟨w.heap.size, 0, none⟩ : Addr) = ga at HG4 ⊢)
    | (refine wpList_copy_splice rfl _ _ 59 59 rfl 3 Try.underlying59 hsz _ _ n n 1 c rfl rfl w.heap.size 0 (List.replicate n (.int .i64 0)) 3 HG4 [.int .i64 x] (by simp [Nat.min_def]; omega) (fun _ => ⟨hg0.symm ▸ rfl, _, rfl, by intro j v hv; match j, hv with | 0, hv => (simp at hv; subst hv; exact HX4)⟩) (by simp; omega) (by simp [Value.oneCell']) w.heap.size w HB4.out (Nat.le_refl _) ?_; intro w5 HG5 HB5)
    | fail)
  subst hg0
  have HG6 : Hid (w5.heap[w.heap.size]? = some (.cells (List.replicate 1 (Value.int .i64 x) ++ List.replicate (n - 1) (Value.int .i64 0)).toArray 3 (0, 0))) := Lib.hid (by
    have := HG5.out
    have e := splice_rep (Value.int .i64 x) (Value.int .i64 0) 0 n 1 (by omega)
    simp only [List.replicate_zero, List.nil_append, Nat.sub_zero, Nat.zero_add] at e
    rw [show [Value.int .i64 x] = List.replicate 1 (Value.int .i64 x) from rfl, e] at this
    exact this)
  have HB6 := Lib.hid HB5
  have HW := Lib.hid (Nat.le_refl w.heap.size)
  have HN1 := Lib.hid h1
  clear HG5 HB5 HB4 HG4 HX4 C hgle h hb h1
  generalize hgg : w.heap.size = g at HG6
  have HGG := Lib.hid hgg
  clear hgg
  go_loopw [8] (fun v wr => ∃ q : Nat, q ≤ n ∧ 1 ≤ q ∧ v = .int .i64 q ∧ Hid (wr.heap[g]? = some (.cells (List.replicate q (Value.int .i64 x) ++ List.replicate (n - q) (Value.int .i64 0)).toArray 3 (0, 0))) ∧ Hid (Below w.heap.size w wr)) (fun v _ => n - (intOf v).toNat)
  case atStart => exact ⟨1, HN1.out, Nat.le_refl _, rfl, HG6, HB6⟩
  case round =>
    obtain ⟨q, hq, hq1, rfl, HG, HB⟩ := hrel
    obtain ⟨w2, rfl⟩ : ∃ w2 : World, w2 = wr := ⟨_, rfl⟩
    by_cases hlt : q < n
    · obtain ⟨m, hm⟩ : ∃ m, Nat.min q (n - q) = m := ⟨_, rfl⟩
      have HM := Lib.hid hm
      have hmq : 1 ≤ m ∧ q + m ≤ n := by rw [← hm]; simp [Nat.min_def]; split <;> omega
      clear hm
      have hne : ¬ n = q := by omega
      have hw1 : IntKind.i64.wrap ((q : Int) + (m : Int)) = ((q + m : Nat) : Int) := by simp [IntKind.wrap, IntKind.bits, IntKind.signed]; omega
      go_upto_region 9 with fail
      have hcell : ∀ j v, (List.replicate m (Value.int .i64 x))[j]? = some v → w2.drew.cell? ((⟨g, 0, none⟩ : Addr).add j) = some v := by
        intro j v hv
        have hj : j < m := by simpa using (List.getElem?_eq_some_iff.1 hv).1
        have hjq : j < q := by have := HM.out; have h2 : Nat.min q (n - q) ≤ q := Nat.min_le_left _ _; omega
        rw [addr_plain]
        refine c_dr (row_cell HG.out ?_)
        rw [List.getElem?_append_left (by simpa using by omega)]
        rw [List.getElem?_replicate, if_pos (by omega)] at hv ⊢
        exact hv
      go_region_law (refine step_copy_splice rfl (.tmp 41) (.tmp 44) 59 59 rfl 3 Try.underlying59 hsz (some ⟨g, q, none⟩) (some ⟨g, 0, none⟩) (n - q) (n - q) q n (by simp [Act.eval, Act.put]) (by simp [Act.eval, Act.put]) g q (List.replicate q (Value.int .i64 x) ++ List.replicate (n - q) (Value.int .i64 0)) 3 HG.out (List.replicate m (Value.int .i64 x)) (by rw [List.length_replicate]; exact HM.out.symm) (fun _ => ⟨rfl, _, rfl, hcell⟩) (by simp; omega) (by intro v hv; obtain rfl := List.eq_of_mem_replicate hv; rfl) w.heap.size w (b_dr HB.out) (by have := HGG.out; omega) ?_; intro w4 HG4 hb4)
      have HG5 : Hid (w4.heap[g]? = some (.cells (List.replicate (q + m) (Value.int .i64 x) ++ List.replicate (n - (q + m)) (Value.int .i64 0)).toArray 3 (0, 0))) := Lib.hid (by
        have := HG4.out
        rw [splice_rep _ _ _ _ _ hmq.2] at this
        exact this)
      clear HG4
      go_simp
      go_wp2
      go_roundw
      case rel => exact ⟨q + m, hmq.2, by omega, by go_num, HG5, Lib.hid hb4⟩
      case measure => simp [intOf]; omega
    · have hqn : q = n := by omega
      subst hqn
      go_wp2
      go_ret
      refine ⟨g, q, rfl, ?_, HB.out⟩
      have := HG.out
      rw [Nat.sub_self] at this
      have := row_own this (n := q) (by simp) (by unfold maxLen; omega)
      unfold OwnN
      simp only [List.length_replicate, List.map_replicate]
      simpa [HGG.out] using this

end Go.Proofs.Ytlbafgdbemhanaa
