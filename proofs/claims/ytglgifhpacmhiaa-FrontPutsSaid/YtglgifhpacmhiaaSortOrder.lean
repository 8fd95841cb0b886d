/- What order of layer 15 returns, and that it makes memory alone; the library's Compare and Or on the way. Conditions: none. -/
import Derived.Test.YtglgifhpacmhiaaRows
import Derived.Test.YtglgifhpacmhiaaBase
import Derived.Test.YtglgifhpacmhiaaRow
import Derived.Test.YtglgifhpacmhiaaRecHeap
import Derived.Test.YtglgifhpacmhiaaSortMath
import Derived.WalkKit
import Derived.WalkSpells
import Derived.WalkSmall
import Derived.Below
import Derived.Outline
import Derived.OwnWalk
import Derived.Lib.Hide
import Derived.BigQuiet
import Derived.BigRegion
import Derived.Deep.RegionHeld3
import Derived.Sort.Grow
namespace Go.Proofs.Ytglgifhpacmhiaa
open Go.RowKit

/-! ### A world with draws and new blocks alone -/

def Gr (w w' : World) : Prop := ∃ q os, w' = Go.Sort.grow (w.drewN q) os

theorem Gr.refl (w : World) : Gr w w := ⟨0, #[], by rw [Go.Sort.grow_empty]; rfl⟩
theorem Gr.alloc {w W : World} (h : Gr w W) (o : Obj) : Gr w (W.alloc o) := by
  obtain ⟨q, os, rfl⟩ := h
  exact ⟨q, os ++ #[o], by rw [Go.Sort.alloc_eq_grow, Go.Sort.grow_grow]⟩
theorem Gr.drew {w W : World} (h : Gr w W) : Gr w W.drew := by
  obtain ⟨q, os, rfl⟩ := h
  exact ⟨q + 1, os, rfl⟩
theorem Gr.trans {a b c : World} (h : Gr a b) (h2 : Gr b c) : Gr a c := by
  obtain ⟨q, os, rfl⟩ := h
  obtain ⟨q2, os2, rfl⟩ := h2
  refine ⟨q + q2, os ++ os2, ?_⟩
  rw [← Go.Sort.grow_grow]
  congr 1
  show Go.Sort.ahead (Go.Sort.grow (Go.Sort.ahead a q) os) q2 = Go.Sort.grow (Go.Sort.ahead a (q + q2)) os
  rw [Go.Sort.ahead_grow, Go.Sort.ahead_ahead]
theorem Gr.below {w W : World} (h : Gr w W) : Below w.heap.size w W := by
  obtain ⟨q, os, rfl⟩ := h
  exact ⟨rfl, rfl, rfl, by simp, fun j hj => (Go.Sort.heap_grow_old (w.drewN q) os (show j < (w.drewN q).heap.size from hj)).trans rfl⟩

/-! ### Compare, Or, order -/

def cmpv (a b : Int) : Int := if a < b then -1 else if b < a then 1 else 0

theorem cmpv_zero {a b : Int} : cmpv a b = 0 ↔ a = b := by unfold cmpv; split <;> (try split) <;> omega
theorem cmpv_neg {a b : Int} : cmpv a b < 0 ↔ a < b := by unfold cmpv; split <;> (try split) <;> omega

theorem compare_any (a b : Int) (w : World) :
    Calls Try.prog 42 #[.int .i64 a, .int .i64 b] w fun e w' => e = .returned (.int .i64 (cmpv a b)) ∧ w = w' := by
  have e1 : (a != a) = false := by simp
  have e2 : (b != b) = false := by simp
  unfold cmpv
  by_cases h : a < b
  · rw [if_pos h]
    go_enter Try.func42, Try.ntmps42
    go_wp2
    go_ret
    exact ⟨rfl, rfl⟩
  · rw [if_neg h]
    by_cases h2 : b < a
    · rw [if_pos h2]
      go_enter Try.func42, Try.ntmps42
      go_wp2
      go_ret
      exact ⟨rfl, rfl⟩
    · rw [if_neg h2]
      go_enter Try.func42, Try.ntmps42
      go_wp2
      go_ret
      exact ⟨rfl, rfl⟩

def orV (l : List Int) : Int := (l.find? (fun x => x != 0)).getD 0

theorem or_hit {l : List Int} {k : Nat} {x : Int} (h : ∀ j, j < k → l.getD j 0 = 0) (hk : k < l.length) (hx : l.getD k 0 = x) (hn : x ≠ 0) : orV l = x := by
  unfold orV
  have e : l.find? (fun x => x != 0) = some x := by
    rw [List.find?_eq_some_iff_getElem]
    refine ⟨by simpa using hn, k, hk, ?_, fun j hj => ?_⟩
    · simpa [List.getD, hk] using hx
    · have := h j hj
      have hj2 : j < l.length := by omega
      simpa [List.getD, hj2] using this
  rw [e]; rfl
theorem or_none {l : List Int} (h : ∀ j, j < l.length → l.getD j 0 = 0) : orV l = 0 := by
  unfold orV
  have e : l.find? (fun x => x != 0) = none := by
    rw [List.find?_eq_none]
    intro x hx
    obtain ⟨j, hj, rfl⟩ := List.getElem_of_mem hx
    have := h j hj
    simpa [List.getD, hj] using this
  rw [e]; rfl

theorem or_any (A : Option Addr) (c n : Nat) (l : List Int) (w : World) (hn : l.length = n) (hr : RdN w A l) (hl : n ≤ 1000000) :
    Calls Try.prog 41 #[.slice A n c] w fun e w' => e = .returned (.int .i64 (orV l)) ∧ w = w' := by
  have HN := Lib.hid hn
  have HR := Lib.hid hr
  clear hn hr
  go_enter Try.func41, Try.ntmps41
  go_wp2
  go_loopw [8] (fun i wr => ∃ k : Nat, k ≤ n ∧ i = .int .i64 k ∧ w = wr ∧ Hid (∀ j, j < k → l.getD j 0 = 0)) (fun i _ => n - (intOf i).toNat)
  case atStart => exact ⟨0, Nat.zero_le _, rfl, rfl, Lib.hid (by omega)⟩
  case round =>
    obtain ⟨k, hk, rfl, rfl, hz⟩ := hrel
    by_cases hlt : k < n
    · obtain ⟨b, off, hA, hb, hc⟩ := HR.out (nonnil (k := k) (by rw [HN.out]; exact hlt))
      subst hA
      have q := hc k (by rw [HN.out]; exact hlt)
      obtain ⟨x, hx⟩ : ∃ x, l.getD k 0 = x := ⟨_, rfl⟩
      rw [hx] at q
      have HX := Lib.hid hx
      clear hx hc
      by_cases h0 : x = 0
      · subst h0
        go_wp2
        go_roundw
        case rel => exact ⟨k + 1, by omega, by go_num, by trivial, Lib.hid (fun j hj => by
          by_cases e : j = k
          · subst e; exact HX.out
          · exact hz.out j (by omega))⟩
        case measure => simp [intOf]; omega
      · have e1 : (x != 0) = true := by simpa using h0
        have e2 : (x == 0) = false := by simpa using h0
        have H0 := Lib.hid h0
        clear h0
        go_wp2
        go_ret
        exact ⟨by rw [or_hit hz.out (by rw [HN.out]; exact hlt) HX.out H0.out]; rfl, rfl⟩
    · have HE := Lib.hid (or_none (l := l) (fun j hj => hz.out j (by have := HN.out; omega)))
      go_wp2
      go_ret
      exact ⟨by rw [HE.out]; rfl, rfl⟩

def ordF (x y : Rc) : Int := orV [cmpv x.1 y.1, cmpv x.2.1 y.2.1, cmpv x.2.2 y.2.2]

theorem ordF_neg (x y : Rc) : ordF x y < 0 ↔ ltF x y := by
  obtain ⟨a, b, c⟩ := x
  obtain ⟨d, e, f⟩ := y
  have z1 := cmpv_zero (a := a) (b := d)
  have z2 := cmpv_zero (a := b) (b := e)
  have n1 := cmpv_neg (a := a) (b := d)
  have n2 := cmpv_neg (a := b) (b := e)
  have n3 := cmpv_neg (a := c) (b := f)
  unfold ordF ltF orV
  simp only [List.find?_cons, List.find?_nil]
  by_cases h1 : cmpv a d = 0
  · simp only [h1, bne_self_eq_false]
    by_cases h2 : cmpv b e = 0
    · simp only [h2, bne_self_eq_false]
      by_cases h3 : cmpv c f = 0
      · simp only [h3, bne_self_eq_false, Option.getD_none]
        have := z1.1 h1
        have := z2.1 h2
        have := cmpv_zero.1 h3
        omega
      · have e3 : (cmpv c f != 0) = true := by simpa using h3
        simp only [e3, Option.getD_some]
        have := z1.1 h1
        have := z2.1 h2
        omega
    · have e2 : (cmpv b e != 0) = true := by simpa using h2
      simp only [e2, Option.getD_some]
      have := z1.1 h1
      have : b ≠ e := fun k => h2 (z2.2 k)
      omega
  · have e1 : (cmpv a d != 0) = true := by simpa using h1
    simp only [e1, Option.getD_some]
    have : a ≠ d := fun k => h1 (z1.2 k)
    omega

theorem new3 {W : World} {n : Nat} {a b c : Value} {t : TypeId} (hn : n = W.heap.size) : (W.alloc (.cells #[a, b, c] t)).cell? ⟨n, 0, none⟩ = some a ∧ (W.alloc (.cells #[a, b, c] t)).cell? ⟨n, 1, none⟩ = some b ∧ (W.alloc (.cells #[a, b, c] t)).cell? ⟨n, 2, none⟩ = some c := by
  subst hn
  exact ⟨by simp, by simp, by simp⟩

theorem three_ints {W : World} {n : Nat} {a b c : Int} (h0 : W.cell? ⟨n, 0, none⟩ = some (.int .i64 a)) (h1 : W.cell? ⟨n, 1, none⟩ = some (.int .i64 b)) (h2 : W.cell? ⟨n, 2, none⟩ = some (.int .i64 c)) : RdN W (some ⟨n, 0, none⟩) [a, b, c] := fun _ => ⟨n, 0, rfl, World.block_lt_of_cell? W ⟨n, 0, none⟩ h0, fun k hk => by
  have : k = 0 ∨ k = 1 ∨ k = 2 := by simp at hk; omega
  rcases this with rfl | rfl | rfl
  · exact h0
  · exact h1
  · exact h2⟩

end Go.Proofs.Ytglgifhpacmhiaa
