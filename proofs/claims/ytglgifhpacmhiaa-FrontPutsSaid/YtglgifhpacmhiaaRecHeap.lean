/- Slices of records and of ints that can be read, or that the call itself has made. Conditions: none beyond each lemma's own premises. -/
import Derived.Test.YtglgifhpacmhiaaRow
import Derived.Test.YtglgifhpacmhiaaRecMath
namespace Go.Proofs.Ytglgifhpacmhiaa
open Go.RowKit

/-! ### Records -/

/-- At the address A the records of l lie one behind the other (of no record nothing is asked). -/
def RdR (w : World) (A : Option Addr) (l : List Rc) : Prop :=
  l ≠ [] → ∃ b off, A = some ⟨b, off, none⟩ ∧ b < w.heap.size ∧ ∀ k, k < l.length →
    w.cell? ⟨b, off + k * 3, none⟩ = some (.int .i64 (l.getD k rz).1) ∧ w.cell? ⟨b, off + k * 3 + 1, none⟩ = some (.int .i64 (l.getD k rz).2.1) ∧ w.cell? ⟨b, off + k * 3 + 2, none⟩ = some (.int .i64 (l.getD k rz).2.2)

theorem RdR.nil (w : World) (A : Option Addr) : RdR w A [] := fun h => absurd rfl h

theorem RdR.at_ {w : World} {A : Option Addr} {l : List Rc} (h : RdR w A l) {k : Nat} (hk : k < l.length) : ∃ b off x y z, A = some ⟨b, off, none⟩ ∧ b < w.heap.size ∧
    w.cell? ⟨b, off + k * 3, none⟩ = some (.int .i64 x) ∧ w.cell? ⟨b, off + k * 3 + 1, none⟩ = some (.int .i64 y) ∧ w.cell? ⟨b, off + k * 3 + 2, none⟩ = some (.int .i64 z) ∧ Hid (l.getD k rz = (x, y, z)) := by
  obtain ⟨b, off, hA, hb, hc⟩ := h (nonnil hk)
  exact ⟨b, off, _, _, _, hA, hb, (hc k hk).1, (hc k hk).2.1, (hc k hk).2.2, Lib.hid rfl⟩

theorem RdR.below {w w' : World} {A : Option Addr} {l : List Rc} (h : RdR w A l) (hb : Below w.heap.size w w') : RdR w' A l := fun hl => by
  obtain ⟨b, off, hA, hbb, hk⟩ := h hl
  exact ⟨b, off, hA, Nat.lt_of_lt_of_le hbb hb.size, fun k hk' => ⟨by rw [hb.cell (p := ⟨b, _, none⟩) hbb]; exact (hk k hk').1, by rw [hb.cell (p := ⟨b, _, none⟩) hbb]; exact (hk k hk').2.1, by rw [hb.cell (p := ⟨b, _, none⟩) hbb]; exact (hk k hk').2.2⟩⟩

def flatR (l : List Rc) : List Value := l.flatMap fun s => [.int .i64 s.1, .int .i64 s.2.1, .int .i64 s.2.2]

theorem flatR_cons (s : Rc) (l : List Rc) : flatR (s :: l) = .int .i64 s.1 :: .int .i64 s.2.1 :: .int .i64 s.2.2 :: flatR l := rfl
theorem flatR_append (a b : List Rc) : flatR (a ++ b) = flatR a ++ flatR b := by simp [flatR]

theorem flatR_len (l : List Rc) : (flatR l).length = l.length * 3 := by
  induction l with
  | nil => rfl
  | cons s l ih => rw [flatR_cons, List.length_cons, List.length_cons, List.length_cons, ih, List.length_cons]; omega

theorem flatR_get : ∀ (l : List Rc) (k : Nat), k < l.length → (flatR l)[k * 3]? = some (.int .i64 (l.getD k rz).1) ∧ (flatR l)[k * 3 + 1]? = some (.int .i64 (l.getD k rz).2.1) ∧ (flatR l)[k * 3 + 2]? = some (.int .i64 (l.getD k rz).2.2)
  | s :: l, 0, _ => by simp [flatR_cons]
  | s :: l, k + 1, h => by
    have ih := flatR_get l k (by simpa using h)
    have e : (k + 1) * 3 = k * 3 + 1 + 1 + 1 := by omega
    rw [e, flatR_cons]
    simpa using ih

theorem flatR_one {l : List Rc} {u : Value} (h : u ∈ flatR l) : u.oneCell' = true := by
  obtain ⟨s, _, hs⟩ := List.mem_flatMap.1 h
  simp at hs
  rcases hs with rfl | rfl | rfl <;> rfl

theorem flatR_set (a : List Rc) (k x y z : Int) : (flatR (a ++ [(k, x, y)])).set (a.length * 3 + 2) (.int .i64 z) = flatR (a ++ [(k, x, z)]) := by
  rw [flatR_append, flatR_append, List.set_append_right _ _ (by rw [flatR_len]; omega), flatR_len]
  have e : a.length * 3 + 2 - a.length * 3 = 2 := by omega
  rw [e]
  rfl

/-- The cells of one record in a block of their own. -/
theorem rec_news {w : World} {n : Nat} (hn : n = w.heap.size) {k x y : Int} {t : TypeId} : ∀ j u, ([.int .i64 k, .int .i64 x, .int .i64 y] : List Value)[j]? = some u → (w.alloc (.cells #[.int .i64 k, .int .i64 x, .int .i64 y] t)).cell? ((⟨n, 0, none⟩ : Addr).add j) = some u := by
  intro j u hj
  subst hn
  match j, hj with
  | 0, hj => simp at hj; subst hj; simp [Addr.add]
  | 1, hj => simp at hj; subst hj; simp [Addr.add]
  | 2, hj => simp at hj; subst hj; simp [Addr.add]
  | j + 3, hj => simp at hj

theorem rec_cells {k x y : Int} : ∀ u ∈ ([.int .i64 k, .int .i64 x, .int .i64 y] : List Value), u.oneCell' = true := by
  intro u hu
  simp at hu
  rcases hu with rfl | rfl | rfl <;> rfl

/-- The cells of a slice that reads as l, one by one. -/
theorem RdR.news {w : World} {ad : Addr} {l : List Rc} (h : RdR w (some ad) l) : ∀ j u, (flatR l)[j]? = some u → w.cell? (ad.add j) = some u := by
  intro j u hu
  have hj : j < l.length * 3 := by
    rw [← flatR_len]
    exact (List.getElem?_eq_some_iff.1 hu).1
  obtain ⟨b, off, hA, _, hc⟩ := h (nonnil (k := j / 3) (by omega))
  injection hA with hA
  subst hA
  have hk : j / 3 < l.length := by omega
  have hf := flatR_get l (j / 3) hk
  have hcc := hc (j / 3) hk
  rw [addr_plain]
  have hm : j = j / 3 * 3 ∨ j = j / 3 * 3 + 1 ∨ j = j / 3 * 3 + 2 := by omega
  rcases hm with e | e | e
  · rw [e, hf.1] at hu
    injection hu with hu
    rw [e, ← hu]; exact hcc.1
  · rw [e, hf.2.1] at hu
    injection hu with hu
    rw [e, ← hu, ← Nat.add_assoc]; exact hcc.2.1
  · rw [e, hf.2.2] at hu
    injection hu with hu
    rw [e, ← hu, ← Nat.add_assoc]; exact hcc.2.2

/-- A record in a block of its own. -/
structure BoxR (w : World) (B : Nat) (k x y : Int) : Prop where
  c0 : w.cell? ⟨B, 0, none⟩ = some (.int .i64 k)
  c1 : w.cell? ⟨B, 1, none⟩ = some (.int .i64 x)
  c2 : w.cell? ⟨B, 2, none⟩ = some (.int .i64 y)

theorem BoxR.new (w : World) (k x y : Int) (t : TypeId) : BoxR (w.alloc (.cells #[.int .i64 k, .int .i64 x, .int .i64 y] t)) w.heap.size k x y := ⟨by simp, by simp, by simp⟩
theorem BoxR.below {w w' : World} {B : Nat} {k x y : Int} (h : BoxR w B k x y) (hb : Below w.heap.size w w') : BoxR w' B k x y := ⟨c_cl h.c0 hb, c_cl h.c1 hb, c_cl h.c2 hb⟩

/-! ### Ints -/

def RdN (w : World) (A : Option Addr) (l : List Int) : Prop :=
  l ≠ [] → ∃ b off, A = some ⟨b, off, none⟩ ∧ b < w.heap.size ∧ ∀ k, k < l.length → w.cell? ⟨b, off + k, none⟩ = some (.int .i64 (l.getD k 0))

theorem RdN.at_ {w : World} {A : Option Addr} {l : List Int} (h : RdN w A l) {k : Nat} (hk : k < l.length) : ∃ b off x, A = some ⟨b, off, none⟩ ∧ b < w.heap.size ∧ w.cell? ⟨b, off + k, none⟩ = some (.int .i64 x) ∧ Hid (l[k]? = some x) := by
  obtain ⟨b, off, hA, hb, hc⟩ := h (nonnil hk)
  refine ⟨b, off, _, hA, hb, hc k hk, Lib.hid ?_⟩
  rw [List.getD_eq_getElem?_getD, List.getElem?_eq_getElem hk]; rfl

theorem RdN.below {w w' : World} {A : Option Addr} {l : List Int} (h : RdN w A l) (hb : Below w.heap.size w w') : RdN w' A l := fun hl => by
  obtain ⟨b, off, hA, hbb, hk⟩ := h hl
  exact ⟨b, off, hA, Nat.lt_of_lt_of_le hbb hb.size, fun k hk' => by rw [hb.cell (p := ⟨b, _, none⟩) hbb]; exact hk k hk'⟩

def OwnN (base : Nat) (w : World) (v : Value) (l : List Int) : Prop := w.ownsRow base 3 1 v l.length (l.map (Value.int .i64))

theorem OwnN.nil (base : Nat) (w : World) : OwnN base w (.slice none 0 0) [] := World.ownsRow_nil w base _ 1

theorem OwnN.read {base : Nat} {w : World} {v : Value} {l : List Int} (h : OwnN base w v l) : ∃ A c, v = .slice A l.length c ∧ RdN w A l := by
  have h0 := h
  rcases h.2 with ⟨rfl, hn⟩ | ⟨g, cap, cur, rfl, hb, hg, h1, h2, h3, h4⟩
  · obtain rfl : l = [] := List.eq_nil_of_length_eq_zero hn
    exact ⟨none, 0, rfl, fun h => absurd rfl h⟩
  · refine ⟨some ⟨g, 0, none⟩, cap, rfl, fun _ => ⟨g, 0, rfl, (World.ownsRow.lt h0 g rfl).2, fun k hk => ?_⟩⟩
    rw [Nat.zero_add, World.ownsRow.cellAt h0 k (by omega)]
    simp [hk]

theorem OwnN.below {base : Nat} {w w' : World} {v : Value} {l : List Int} (h : OwnN base w v l) (hb : Below w.heap.size w w') : OwnN base w' v l := row_below h hb
theorem OwnN.more {base base' : Nat} {w : World} {v : Value} {l : List Int} (h : OwnN base w v l) (hb : base' ≤ base) : OwnN base' w v l := row_more h hb
theorem OwnN.alloc {base : Nat} {w : World} {v : Value} {l : List Int} (h : OwnN base w v l) (o : Obj) : OwnN base (w.alloc o) v l := World.ownsRow.alloc h o

theorem OwnN.snoc {base : Nat} {w : World} {v : Value} {l : List Int} {x : Int} (h : w.ownsRow base 3 1 v (l.length + 1) (l.map (Value.int .i64) ++ [.int .i64 x])) : OwnN base w v (l ++ [x]) := by
  unfold OwnN
  rw [List.map_append, List.length_append]
  exact h

theorem info_int : (Try.prog.info? 3).map (fun i => (i.zero, i.size, i.bytes)) = some (some (.int .i64 0), 1, 8) := by kernel_rfl

theorem int_news {w : World} {n : Nat} (hn : n = w.heap.size) {x : Int} {t : TypeId} : ∀ j u, ([.int .i64 x] : List Value)[j]? = some u → (w.alloc (.cells #[.int .i64 x] t)).cell? ((⟨n, 0, none⟩ : Addr).add j) = some u := by
  intro j u hj
  subst hn
  match j, hj with
  | 0, hj => simp at hj; subst hj; simp [Addr.add]
  | j + 1, hj => simp at hj

theorem int_cells {x : Int} : ∀ u ∈ ([.int .i64 x] : List Value), u.oneCell' = true := by
  intro u hu
  simp at hu
  subst hu
  rfl

end Go.Proofs.Ytglgifhpacmhiaa
