/- Slices of texts and of words that the call itself has made, or that can be read; a region that draws its order and makes memory. Conditions: none beyond each lemma's own premises. -/
import Derived.Test.YtdepglceffpfhaaDoorRows
import Derived.Test.YtdepglceffpfhaaDoorBase
import Derived.Test.YtdepglceffpfhaaDoorRow
import Derived.Test.YtdepglceffpfhaaDoorWordMath
import Derived.Below
import Derived.Deep.Draws
import Derived.Lib.Hide
import Derived.Deep.QuietTactic
import Derived.Laws.OwnMore
import Derived.OwnWalk
import Derived.Laws.AppendOwn
import Derived.Laws.Rows
import Derived.KernelRfl
namespace Go.Proofs.YtdepglceffpfhaaDoor
open Go.RowKit

/-! ### Texts -/

/-- At the address A the texts of l lie one behind the other (of no text nothing is asked). -/
def RdT (w : World) (A : Option Addr) (l : List ByteArray) : Prop :=
  l ≠ [] → ∃ b off, A = some ⟨b, off, none⟩ ∧ b < w.heap.size ∧ ∀ k, k < l.length → w.cell? ⟨b, off + k, none⟩ = some (.string (l.getD k ⟨#[]⟩))

theorem RdT.at_ {w : World} {A : Option Addr} {l : List ByteArray} (h : RdT w A l) {k : Nat} (hk : k < l.length) : ∃ b off s, A = some ⟨b, off, none⟩ ∧ b < w.heap.size ∧ w.cell? ⟨b, off + k, none⟩ = some (.string s) ∧ Hid (l.getD k ⟨#[]⟩ = s) := by
  obtain ⟨b, off, hA, hb, hc⟩ := h (nonnil hk)
  exact ⟨b, off, _, hA, hb, hc k hk, Lib.hid rfl⟩

theorem RdT.below {w w' : World} {A : Option Addr} {l : List ByteArray} (h : RdT w A l) (hb : Below w.heap.size w w') : RdT w' A l := fun hl => by
  obtain ⟨b, off, hA, hbb, hk⟩ := h hl
  exact ⟨b, off, hA, Nat.lt_of_lt_of_le hbb hb.size, fun k hk' => by rw [hb.cell (p := ⟨b, off + k, none⟩) hbb]; exact hk k hk'⟩

/-- The slice is the call's own and holds the texts l. -/
def OwnT (base : Nat) (w : World) (v : Value) (l : List ByteArray) : Prop := w.ownsRow base 9 1 v l.length (l.map Value.string)

theorem OwnT.nil (base : Nat) (w : World) : OwnT base w (.slice none 0 0) [] := World.ownsRow_nil w base _ 1

theorem OwnT.read {base : Nat} {w : World} {v : Value} {l : List ByteArray} (h : OwnT base w v l) : ∃ A c, v = .slice A l.length c ∧ RdT w A l ∧ (A = none → c = 0) := by
  have h0 := h
  rcases h.2 with ⟨rfl, hn⟩ | ⟨g, cap, cur, rfl, hb, hg, h1, h2, h3, h4⟩
  · obtain rfl : l = [] := List.eq_nil_of_length_eq_zero hn
    exact ⟨none, 0, rfl, fun h => absurd rfl h, fun _ => rfl⟩
  · refine ⟨some ⟨g, 0, none⟩, cap, rfl, fun _ => ⟨g, 0, rfl, (World.ownsRow.lt h0 g rfl).2, fun k hk => ?_⟩, fun h => by cases h⟩
    rw [Nat.zero_add, World.ownsRow.cellAt h0 k (by omega)]
    simp [hk]

theorem OwnT.snoc {base : Nat} {w : World} {v : Value} {l : List ByteArray} {s : ByteArray} (h : w.ownsRow base 9 1 v (l.length + 1) (l.map Value.string ++ [.string s])) : OwnT base w v (l ++ [s]) := by
  unfold OwnT
  rw [List.map_append, List.length_append]
  exact h

theorem info_string : (Tryd.prog.info? 9).map (fun i => (i.zero, i.size, i.bytes)) = some (some (.string ⟨#[]⟩), 1, 16) := by kernel_rfl

/-! ### Words -/

def flatW (l : List Wd) : List Value := l.flatMap fun s => [.int .i64 s.1, .string s.2]

theorem flatW_cons (s : Wd) (l : List Wd) : flatW (s :: l) = .int .i64 s.1 :: .string s.2 :: flatW l := rfl
theorem flatW_append (a b : List Wd) : flatW (a ++ b) = flatW a ++ flatW b := by simp [flatW]

theorem flatW_len (l : List Wd) : (flatW l).length = l.length * 2 := by
  induction l with
  | nil => rfl
  | cons s l ih => rw [flatW_cons, List.length_cons, List.length_cons, ih, List.length_cons]; omega

theorem flatW_get : ∀ (l : List Wd) (k : Nat), k < l.length → (flatW l)[k * 2]? = some (.int .i64 ((l.getD k (0, ⟨#[]⟩)).1 : Nat)) ∧ (flatW l)[k * 2 + 1]? = some (.string (l.getD k (0, ⟨#[]⟩)).2)
  | s :: l, 0, _ => by simp [flatW_cons]
  | s :: l, k + 1, h => by
    have ih := flatW_get l k (by simpa using h)
    have e : (k + 1) * 2 = k * 2 + 1 + 1 := by omega
    rw [e, flatW_cons]
    simpa using ih

theorem flatW_set (a : List Wd) (x : Nat) (y z : ByteArray) : (flatW (a ++ [(x, y)])).set (a.length * 2 + 1) (.string z) = flatW (a ++ [(x, z)]) := by
  rw [flatW_append, flatW_append, List.set_append_right _ _ (by rw [flatW_len]; omega), flatW_len]
  have e : a.length * 2 + 1 - a.length * 2 = 1 := by omega
  rw [e]
  rfl

def RdW (w : World) (A : Option Addr) (l : List Wd) : Prop :=
  l ≠ [] → ∃ b off, A = some ⟨b, off, none⟩ ∧ b < w.heap.size ∧ ∀ k, k < l.length →
    w.cell? ⟨b, off + k * 2, none⟩ = some (.int .i64 ((l.getD k (0, ⟨#[]⟩)).1 : Nat)) ∧ w.cell? ⟨b, off + k * 2 + 1, none⟩ = some (.string (l.getD k (0, ⟨#[]⟩)).2)

theorem RdW.at_ {w : World} {A : Option Addr} {l : List Wd} (h : RdW w A l) {k : Nat} (hk : k < l.length) : ∃ (b off x : Nat) (s : ByteArray), A = some ⟨b, off, none⟩ ∧ b < w.heap.size ∧
    w.cell? ⟨b, off + k * 2, none⟩ = some (.int .i64 x) ∧ w.cell? ⟨b, off + k * 2 + 1, none⟩ = some (.string s) ∧ Hid (l.getD k (0, ⟨#[]⟩) = (x, s)) := by
  obtain ⟨b, off, hA, hb, hc⟩ := h (nonnil hk)
  exact ⟨b, off, _, _, hA, hb, (hc k hk).1, (hc k hk).2, Lib.hid rfl⟩

theorem RdW.below {w w' : World} {A : Option Addr} {l : List Wd} (h : RdW w A l) (hb : Below w.heap.size w w') : RdW w' A l := fun hl => by
  obtain ⟨b, off, hA, hbb, hk⟩ := h hl
  exact ⟨b, off, hA, Nat.lt_of_lt_of_le hbb hb.size, fun k hk' => ⟨by rw [hb.cell (p := ⟨b, off + k * 2, none⟩) hbb]; exact (hk k hk').1, by rw [hb.cell (p := ⟨b, off + k * 2 + 1, none⟩) hbb]; exact (hk k hk').2⟩⟩

/-- The slice is the call's own and holds the words l; e is their type. -/
def OwnW (e : TypeId) (base : Nat) (w : World) (v : Value) (l : List Wd) : Prop := w.ownsRow base e 2 v l.length (flatW l)

theorem OwnW.nil (e : TypeId) (base : Nat) (w : World) : OwnW e base w (.slice none 0 0) [] := World.ownsRow_nil w base _ 2

theorem OwnW.read {e : TypeId} {base : Nat} {w : World} {v : Value} {l : List Wd} (h : OwnW e base w v l) : ∃ A c, v = .slice A l.length c ∧ RdW w A l := by
  have h0 := h
  rcases h.2 with ⟨rfl, hn⟩ | ⟨g, cap, cur, rfl, hb, hg, h1, h2, h3, h4⟩
  · obtain rfl : l = [] := List.eq_nil_of_length_eq_zero hn
    exact ⟨none, 0, rfl, fun h => absurd rfl h⟩
  · refine ⟨some ⟨g, 0, none⟩, cap, rfl, fun _ => ⟨g, 0, rfl, (World.ownsRow.lt h0 g rfl).2, fun k hk => ?_⟩⟩
    have hf := flatW_get l k hk
    rw [Nat.zero_add, World.ownsRow.cellAt h0 (k * 2) (by omega), World.ownsRow.cellAt h0 (k * 2 + 1) (by omega)]
    exact hf

theorem OwnW.snoc {e : TypeId} {base : Nat} {w : World} {v : Value} {l : List Wd} {x : Nat} {s : ByteArray} (h : w.ownsRow base e 2 v (l.length + 1) (flatW l ++ [.int .i64 x, .string s])) : OwnW e base w v (l ++ [(x, s)]) := by
  unfold OwnW
  rw [flatW_append, List.length_append]
  exact h

theorem OwnW.stored {e : TypeId} {base : Nat} {w : World} {b n c j : Nat} {l l' : List Wd} {z : ByteArray} (h : OwnW e base w (.slice (some ⟨b, 0, none⟩) n c) l) (hn : l.length = n) (hl : l'.length = l.length) (hf : flatW l' = (flatW l).set (j * 2 + 1) (.string z)) :
    OwnW e base (w.setCell ⟨b, j * 2 + 1, none⟩ (.string z)) (.slice (some ⟨b, 0, none⟩) n c) l' := by
  unfold OwnW at *
  rw [hn] at h
  have h2 := (World.ownsRow.stored h (j * 2 + 1) (.string z)).1
  rw [hl, hn, hf]
  exact h2

theorem info_word : (Tryd.prog.info? 65).map (fun i => (i.zero, i.size, i.bytes)) = some (some (.agg #[.int .i64 0, .string ⟨#[]⟩]), 2, 24) := by kernel_rfl
theorem info_refword : (Tryd.prog.info? 71).map (fun i => (i.zero, i.size, i.bytes)) = some (some (.agg #[.int .i64 0, .string ⟨#[]⟩]), 2, 24) := by kernel_rfl

/-- The cells of one word in a block of their own. -/
theorem word_news {w : World} {n : Nat} (hn : n = w.heap.size) {x : Int} {s : ByteArray} {t : TypeId} : ∀ j u, ([.int .i64 x, .string s] : List Value)[j]? = some u → (w.alloc (.cells #[.int .i64 x, .string s] t)).cell? ((⟨n, 0, none⟩ : Addr).add j) = some u := by
  intro j u hj
  subst hn
  match j, hj with
  | 0, hj => simp at hj; subst hj; simp [Addr.add]
  | 1, hj => simp at hj; subst hj; simp [Addr.add]
  | j + 2, hj => simp at hj

theorem word_cells {x : Int} {s : ByteArray} : ∀ u ∈ ([.int .i64 x, .string s] : List Value), u.oneCell' = true := by
  intro u hu
  simp at hu
  rcases hu with rfl | rfl <;> rfl

theorem text_news {w : World} {n : Nat} (hn : n = w.heap.size) {s : ByteArray} {t : TypeId} : ∀ j u, ([.string s] : List Value)[j]? = some u → (w.alloc (.cells #[.string s] t)).cell? ((⟨n, 0, none⟩ : Addr).add j) = some u := by
  intro j u hj
  subst hn
  match j, hj with
  | 0, hj => simp at hj; subst hj; simp [Addr.add]
  | j + 1, hj => simp at hj

theorem text_cells {s : ByteArray} : ∀ u ∈ ([.string s] : List Value), u.oneCell' = true := by
  intro u hu
  simp at hu
  subst hu
  rfl

end Go.Proofs.YtdepglceffpfhaaDoor
