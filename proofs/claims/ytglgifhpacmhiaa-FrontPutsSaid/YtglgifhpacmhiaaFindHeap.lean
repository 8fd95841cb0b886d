/- Slices of findings that can be read, or that the call itself has made. Conditions: none beyond each lemma's own premises. -/
import Derived.Test.YtglgifhpacmhiaaRow
import Derived.Test.YtglgifhpacmhiaaRecMath
namespace Go.Proofs.Ytglgifhpacmhiaa
open Go.RowKit

/-! ### Findings -/

/-- At the address A the findings of l lie one behind the other (of no finding nothing is asked). -/
def RdF (w : World) (A : Option Addr) (l : List Rc) : Prop :=
  l ≠ [] → ∃ b off, A = some ⟨b, off, none⟩ ∧ b < w.heap.size ∧ ∀ k, k < l.length →
    w.cell? ⟨b, off + k * 3, none⟩ = some (.int .i64 (l.getD k rz).1) ∧ w.cell? ⟨b, off + k * 3 + 1, none⟩ = some (.int .i64 (l.getD k rz).2.1) ∧ w.cell? ⟨b, off + k * 3 + 2, none⟩ = some (.int .i64 (l.getD k rz).2.2)

theorem RdF.nil (w : World) (A : Option Addr) : RdF w A [] := fun h => absurd rfl h

theorem RdF.at_ {w : World} {A : Option Addr} {l : List Rc} (h : RdF w A l) {k : Nat} (hk : k < l.length) : ∃ b off x y z, A = some ⟨b, off, none⟩ ∧ b < w.heap.size ∧
    w.cell? ⟨b, off + k * 3, none⟩ = some (.int .i64 x) ∧ w.cell? ⟨b, off + k * 3 + 1, none⟩ = some (.int .i64 y) ∧ w.cell? ⟨b, off + k * 3 + 2, none⟩ = some (.int .i64 z) ∧ Hid (l.getD k rz = (x, y, z)) := by
  obtain ⟨b, off, hA, hb, hc⟩ := h (nonnil hk)
  exact ⟨b, off, _, _, _, hA, hb, (hc k hk).1, (hc k hk).2.1, (hc k hk).2.2, Lib.hid rfl⟩

theorem RdF.below {w w' : World} {A : Option Addr} {l : List Rc} (h : RdF w A l) (hb : Below w.heap.size w w') : RdF w' A l := fun hl => by
  obtain ⟨b, off, hA, hbb, hk⟩ := h hl
  exact ⟨b, off, hA, Nat.lt_of_lt_of_le hbb hb.size, fun k hk' => ⟨by rw [hb.cell (p := ⟨b, _, none⟩) hbb]; exact (hk k hk').1, by rw [hb.cell (p := ⟨b, _, none⟩) hbb]; exact (hk k hk').2.1, by rw [hb.cell (p := ⟨b, _, none⟩) hbb]; exact (hk k hk').2.2⟩⟩

def flatF (l : List Rc) : List Value := l.flatMap fun s => [.int .i64 s.1, .int .i64 s.2.1, .int .i64 s.2.2]

theorem flatF_cons (s : Rc) (l : List Rc) : flatF (s :: l) = .int .i64 s.1 :: .int .i64 s.2.1 :: .int .i64 s.2.2 :: flatF l := rfl
theorem flatF_append (a b : List Rc) : flatF (a ++ b) = flatF a ++ flatF b := by simp [flatF]

theorem flatF_len (l : List Rc) : (flatF l).length = l.length * 3 := by
  induction l with
  | nil => rfl
  | cons s l ih => rw [flatF_cons, List.length_cons, List.length_cons, List.length_cons, ih, List.length_cons]; omega

theorem flatF_get : ∀ (l : List Rc) (k : Nat), k < l.length → (flatF l)[k * 3]? = some (.int .i64 (l.getD k rz).1) ∧ (flatF l)[k * 3 + 1]? = some (.int .i64 (l.getD k rz).2.1) ∧ (flatF l)[k * 3 + 2]? = some (.int .i64 (l.getD k rz).2.2)
  | s :: l, 0, _ => by simp [flatF_cons]
  | s :: l, k + 1, h => by
    have ih := flatF_get l k (by simpa using h)
    have e : (k + 1) * 3 = k * 3 + 1 + 1 + 1 := by omega
    rw [e, flatF_cons]
    simpa using ih

theorem flatF_one {l : List Rc} {u : Value} (h : u ∈ flatF l) : u.oneCell' = true := by
  obtain ⟨s, _, hs⟩ := List.mem_flatMap.1 h
  simp at hs
  rcases hs with rfl | rfl | rfl <;> rfl

theorem flatF_set (a : List Rc) (k x y z : Int) : (flatF (a ++ [(k, x, y)])).set (a.length * 3 + 2) (.int .i64 z) = flatF (a ++ [(k, x, z)]) := by
  rw [flatF_append, flatF_append, List.set_append_right _ _ (by rw [flatF_len]; omega), flatF_len]
  have e : a.length * 3 + 2 - a.length * 3 = 2 := by omega
  rw [e]
  rfl

/-- The cells of one finding in a block of their own. -/
theorem find_news {w : World} {n : Nat} (hn : n = w.heap.size) {k x y : Int} {t : TypeId} : ∀ j u, ([.int .i64 k, .int .i64 x, .int .i64 y] : List Value)[j]? = some u → (w.alloc (.cells #[.int .i64 k, .int .i64 x, .int .i64 y] t)).cell? ((⟨n, 0, none⟩ : Addr).add j) = some u := by
  intro j u hj
  subst hn
  match j, hj with
  | 0, hj => simp at hj; subst hj; simp [Addr.add]
  | 1, hj => simp at hj; subst hj; simp [Addr.add]
  | 2, hj => simp at hj; subst hj; simp [Addr.add]
  | j + 3, hj => simp at hj

theorem find_cells {k x y : Int} : ∀ u ∈ ([.int .i64 k, .int .i64 x, .int .i64 y] : List Value), u.oneCell' = true := by
  intro u hu
  simp at hu
  rcases hu with rfl | rfl | rfl <;> rfl

/-- The cells of a slice that reads as l, one by one. -/
theorem RdF.news {w : World} {ad : Addr} {l : List Rc} (h : RdF w (some ad) l) : ∀ j u, (flatF l)[j]? = some u → w.cell? (ad.add j) = some u := by
  intro j u hu
  have hj : j < l.length * 3 := by
    rw [← flatF_len]
    exact (List.getElem?_eq_some_iff.1 hu).1
  obtain ⟨b, off, hA, _, hc⟩ := h (nonnil (k := j / 3) (by omega))
  injection hA with hA
  subst hA
  have hk : j / 3 < l.length := by omega
  have hf := flatF_get l (j / 3) hk
  have hcc := hc (j / 3) hk
  rw [addr_plain]
  have hm : j = j / 3 * 3 ∨ j = j / 3 * 3 + 1 ∨ j = j / 3 * 3 + 2 := by omega
  rcases hm with e | e | e
  · rw [e, hf.1] at hu
    injection hu with hu
    rw [e, ← hu]; exact hcc.1
  · rw [e, hf.2.1] at hu
    injection hu with hu
    rw [e, ← hu, ← Nat.add_assoc]; exact hcc.2.1
  · rw [e, hf.2.2] at hu
    injection hu with hu
    rw [e, ← hu, ← Nat.add_assoc]; exact hcc.2.2

/-- A finding in a block of its own. -/
structure BoxF (w : World) (B : Nat) (k x y : Int) : Prop where
  c0 : w.cell? ⟨B, 0, none⟩ = some (.int .i64 k)
  c1 : w.cell? ⟨B, 1, none⟩ = some (.int .i64 x)
  c2 : w.cell? ⟨B, 2, none⟩ = some (.int .i64 y)

theorem BoxF.new (w : World) (k x y : Int) (t : TypeId) : BoxF (w.alloc (.cells #[.int .i64 k, .int .i64 x, .int .i64 y] t)) w.heap.size k x y := ⟨by simp, by simp, by simp⟩
theorem BoxF.below {w w' : World} {B : Nat} {k x y : Int} (h : BoxF w B k x y) (hb : Below w.heap.size w w') : BoxF w' B k x y := ⟨c_cl h.c0 hb, c_cl h.c1 hb, c_cl h.c2 hb⟩

end Go.Proofs.Ytglgifhpacmhiaa
