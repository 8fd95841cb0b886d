/- A slice of tasks that can be read: each task's two numbers, and its windows. Conditions: none beyond each lemma's own premises. -/
import Derived.Test.YthgieanhlmnneaaRow
import Derived.Test.YthgieanhlmnneaaIvalsWords
import Derived.Test.YthgieanhlmnneaaErrandMath
namespace Go.Proofs.Ythgieanhlmnneaa
open Go.RowKit

def tz : Tk := (0, 0, [])

/-- At the address A the tasks of l lie one behind the other (of no task nothing is asked). -/
def RdK (w : World) (A : Option Addr) (l : List Tk) : Prop :=
  l ≠ [] → ∃ b off, A = some ⟨b, off, none⟩ ∧ b < w.heap.size ∧ ∀ k, k < l.length → ∃ B c,
    w.cell? ⟨b, off + k * 3, none⟩ = some (.int .i64 (l.getD k tz).1) ∧ w.cell? ⟨b, off + k * 3 + 1, none⟩ = some (.int .i64 (l.getD k tz).2.1) ∧
      w.cell? ⟨b, off + k * 3 + 2, none⟩ = some (.slice B (l.getD k tz).2.2.length c) ∧ RdS w B (l.getD k tz).2.2

theorem RdK.nil (w : World) (A : Option Addr) : RdK w A [] := fun h => absurd rfl h

theorem RdK.at_ {w : World} {A : Option Addr} {l : List Tk} (h : RdK w A l) {k : Nat} (hk : k < l.length) : ∃ b off d v B n c, A = some ⟨b, off, none⟩ ∧ b < w.heap.size ∧
    w.cell? ⟨b, off + k * 3, none⟩ = some (.int .i64 d) ∧ w.cell? ⟨b, off + k * 3 + 1, none⟩ = some (.int .i64 v) ∧ w.cell? ⟨b, off + k * 3 + 2, none⟩ = some (.slice B n c) ∧
      Hid (∃ o : List Sp, l.getD k tz = (d, v, o) ∧ o.length = n ∧ RdS w B o) := by
  obtain ⟨b, off, hA, hb, hc⟩ := h (nonnil hk)
  obtain ⟨B, c, h1, h2, h3, h4⟩ := hc k hk
  exact ⟨b, off, _, _, B, _, c, hA, hb, h1, h2, h3, Lib.hid ⟨_, rfl, rfl, h4⟩⟩

theorem RdK.keep {w w' : World} {A : Option Addr} {l : List Tk} (h : RdK w A l) (hs : w.heap.size ≤ w'.heap.size) (hc : ∀ p : Addr, p.block < w.heap.size → w'.cell? p = w.cell? p) : RdK w' A l := fun hl => by
  obtain ⟨b, off, hA, hbb, hk⟩ := h hl
  refine ⟨b, off, hA, Nat.lt_of_lt_of_le hbb hs, fun k hk' => ?_⟩
  obtain ⟨B, c, h1, h2, h3, h4⟩ := hk k hk'
  exact ⟨B, c, by rw [hc ⟨b, _, none⟩ hbb]; exact h1, by rw [hc ⟨b, _, none⟩ hbb]; exact h2, by rw [hc ⟨b, _, none⟩ hbb]; exact h3, h4.keep hs hc⟩

theorem RdK.below {w w' : World} {A : Option Addr} {l : List Tk} (h : RdK w A l) (hb : Below w.heap.size w w') : RdK w' A l :=
  h.keep hb.size fun _ hp => hb.cell hp

/-- Below block n all is as it was: tasks that lie there can be read. -/
def RdKn (n : Nat) (w : World) (A : Option Addr) (l : List Tk) : Prop := ∃ w0 : World, w0.heap.size = n ∧ RdK w0 A l ∧ Below n w0 w

theorem RdKn.rd {n : Nat} {w : World} {A : Option Addr} {l : List Tk} (h : RdKn n w A l) : RdK w A l := by
  obtain ⟨w0, rfl, h0, hb⟩ := h
  exact h0.below hb
theorem RdKn.below {n : Nat} {w w' : World} {A : Option Addr} {l : List Tk} (h : RdKn n w A l) (hb : Below n w w') : RdKn n w' A l := by
  obtain ⟨w0, h0, h1, hb0⟩ := h
  exact ⟨w0, h0, h1, hb0.trans hb⟩
theorem RdKn.of {w : World} {A : Option Addr} {l : List Tk} (h : RdK w A l) : RdKn w.heap.size w A l := ⟨w, rfl, h, Below.refl _ _⟩

/-- The windows are few enough for what the library says of slices. -/
def Few (l : List Tk) : Prop := ∀ t ∈ l, t.2.2.length ≤ 4611686018427387904

theorem Few.at_ {l : List Tk} (h : Few l) {k : Nat} (hk : k < l.length) {d v : Int} {o : List Sp} (e : l.getD k tz = (d, v, o)) : o.length ≤ 4611686018427387904 := by
  have : l.getD k tz ∈ l := by
    rw [List.getD_eq_getElem?_getD, List.getElem?_eq_getElem hk]; exact List.getElem_mem hk
  have h1 := h _ this
  rw [e] at h1; exact h1

theorem tk_nat {l : List Tk} {i : Int} {k : Nat} (e : i = (k : Int)) : tk l i = l.getD k tz := by subst e; rfl

end Go.Proofs.Ythgieanhlmnneaa
