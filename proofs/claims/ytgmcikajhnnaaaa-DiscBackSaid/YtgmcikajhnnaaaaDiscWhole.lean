/- What readWhole of layer 11 returns: from when to when a timeline is, or that it is none. Conditions: the text has at most a million bytes. -/
import Derived.Test.YtgmcikajhnnaaaaRows
import Derived.Test.YtgmcikajhnnaaaaDiscTak
import Derived.WalkKit
import Derived.WalkSpells
import Derived.WalkSmall
import Derived.Below
import Derived.Lib.Hide
import Derived.Outline
import Derived.OwnWalk
import Derived.BigQuiet
import Derived.RegionTactic
import Derived.Deep.QuietTactic
namespace Go.Proofs.Ytgmcikajhnnaaaa
open Go.RowKit

def wholeV : List UInt8 → Option (Int × Int)
  | h :: d :: a1 :: a2 :: b1 :: b2 :: _ => if h = 72 ∧ d = 68 ∧ val a1 a2 < val b1 b2 ∧ val b1 b2 ≤ 40320 then some (val a1 a2, val b1 b2) else none
  | _ => none

/-- What readWhole answers. -/
def WholeP (T : Nat) (t : ByteArray) (w : World) (e : Ending) (w' : World) : Prop :=
  KT T w w' ∧ (∀ a b, wholeV (rest t 0) = some (a, b) → e = .returned (.tuple #[.agg #[.int .i64 a, .int .i64 b], .int .i64 0, .int .i64 0]) ∧ Tak T t 6 w') ∧
    (wholeV (rest t 0) = none → ∃ pl er : Int, e = .returned (.tuple #[.agg #[.int .i64 0, .int .i64 0], .int .i64 pl, .int .i64 er]) ∧ er ≠ 0)

theorem whole_no {T : Nat} {t : ByteArray} {w w' : World} {e : Ending} (pl er : Int) (hv : wholeV (rest t 0) = none) (he : e = .returned (.tuple #[.agg #[.int .i64 0, .int .i64 0], .int .i64 pl, .int .i64 er])) (hne : er ≠ 0) (k : KT T w w') : WholeP T t w e w' :=
  ⟨k, fun a b h => (by rw [hv] at h; cases h), fun _ => ⟨pl, er, he, hne⟩⟩

theorem whole_ok {T : Nat} {t : ByteArray} {w w' : World} {e : Ending} {a b : Int} (hv : wholeV (rest t 0) = some (a, b)) (he : e = .returned (.tuple #[.agg #[.int .i64 a, .int .i64 b], .int .i64 0, .int .i64 0])) (ht : Tak T t 6 w') (k : KT T w w') : WholeP T t w e w' :=
  ⟨k, fun a' b' h => (by rw [hv] at h; injection h with h; injection h with h1 h2; subst h1 h2; exact ⟨he, ht⟩), fun h => by rw [hv] at h; cases h⟩

/-- How readWhole stands. -/
structure RWs (T : Nat) (t : ByteArray) (w wr : World) (p : Nat) (n0 n1 n2 n3 a0 a1 a2 a3 : Int) : Prop where
  tk : Tak T t p wr
  kt : KT T w wr
  big : w.heap.size + 3 ≤ wr.heap.size
  lt : T < w.heap.size
  r : wr.heap[w.heap.size]? = some (.cells #[.int .i64 0, .int .i64 0] 45 (0, 0))
  n : wr.heap[w.heap.size + 1]? = some (.cells #[.int .i64 (n0), .int .i64 (n1), .int .i64 (n2), .int .i64 (n3)] 92 (0, 0))
  a : wr.heap[w.heap.size + 2]? = some (.cells #[.int .i64 (a0), .int .i64 (a1), .int .i64 (a2), .int .i64 (a3)] 92 (0, 0))

theorem cell_heap {w : World} {b k : Nat} {cs : Array Value} {t : TypeId} {v : Value} (h : w.heap[b]? = some (.cells cs t (0, 0))) (hk : cs[k]? = some v) : w.cell? ⟨b, k, none⟩ = some v ∧ w.frozen? ⟨b, k, none⟩ = false := by
  constructor
  · simp [World.cell?, h, hk]
  · simp [World.frozen?, h]

theorem RWs.call {T p q : Nat} {t : ByteArray} {w wr w2 : World} {n0 n1 n2 n3 a0 a1 a2 a3 : Int} (h : RWs T t w wr p n0 n1 n2 n3 a0 a1 a2 a3) (ht : Tak T t q w2) (k : KT T wr w2) : RWs T t w w2 q n0 n1 n2 n3 a0 a1 a2 a3 := by
  have hl := h.lt
  exact ⟨ht, h.kt.trans k, Nat.le_trans h.big k.size, hl, KT.at_ h.r k (by omega), KT.at_ h.n k (by omega), KT.at_ h.a k (by omega)⟩

theorem arr_set0 {w : World} {b : Nat} {a0 a1 a2 a3 : Int} (h : w.heap[b]? = some (.cells #[.int .i64 (a0), .int .i64 (a1), .int .i64 (a2), .int .i64 (a3)] 92 (0, 0))) (x : Int) : (w.setCell ⟨b, 0, none⟩ (.int .i64 x)).heap[b]? = some (.cells #[.int .i64 (x), .int .i64 (a1), .int .i64 (a2), .int .i64 (a3)] 92 (0, 0)) := by
  have hl : b < w.heap.size := (Array.getElem?_eq_some_iff.1 h).1
  have h' : w.heap[b] = .cells #[.int .i64 (a0), .int .i64 (a1), .int .i64 (a2), .int .i64 (a3)] 92 (0, 0) := by simpa [Array.getElem?_eq_getElem hl] using h
  show (w.heap.modify b _)[b]? = _
  rw [Array.getElem?_eq_getElem (by simpa using hl), Array.getElem_modify_self, h']
  rfl

theorem arr_set1 {w : World} {b : Nat} {a0 a1 a2 a3 : Int} (h : w.heap[b]? = some (.cells #[.int .i64 (a0), .int .i64 (a1), .int .i64 (a2), .int .i64 (a3)] 92 (0, 0))) (x : Int) : (w.setCell ⟨b, 1, none⟩ (.int .i64 x)).heap[b]? = some (.cells #[.int .i64 (a0), .int .i64 (x), .int .i64 (a2), .int .i64 (a3)] 92 (0, 0)) := by
  have hl : b < w.heap.size := (Array.getElem?_eq_some_iff.1 h).1
  have h' : w.heap[b] = .cells #[.int .i64 (a0), .int .i64 (a1), .int .i64 (a2), .int .i64 (a3)] 92 (0, 0) := by simpa [Array.getElem?_eq_getElem hl] using h
  show (w.heap.modify b _)[b]? = _
  rw [Array.getElem?_eq_getElem (by simpa using hl), Array.getElem_modify_self, h']
  rfl

theorem arr_set2 {w : World} {b : Nat} {a0 a1 a2 a3 : Int} (h : w.heap[b]? = some (.cells #[.int .i64 (a0), .int .i64 (a1), .int .i64 (a2), .int .i64 (a3)] 92 (0, 0))) (x : Int) : (w.setCell ⟨b, 2, none⟩ (.int .i64 x)).heap[b]? = some (.cells #[.int .i64 (a0), .int .i64 (a1), .int .i64 (x), .int .i64 (a3)] 92 (0, 0)) := by
  have hl : b < w.heap.size := (Array.getElem?_eq_some_iff.1 h).1
  have h' : w.heap[b] = .cells #[.int .i64 (a0), .int .i64 (a1), .int .i64 (a2), .int .i64 (a3)] 92 (0, 0) := by simpa [Array.getElem?_eq_getElem hl] using h
  show (w.heap.modify b _)[b]? = _
  rw [Array.getElem?_eq_getElem (by simpa using hl), Array.getElem_modify_self, h']
  rfl

theorem arr_set3 {w : World} {b : Nat} {a0 a1 a2 a3 : Int} (h : w.heap[b]? = some (.cells #[.int .i64 (a0), .int .i64 (a1), .int .i64 (a2), .int .i64 (a3)] 92 (0, 0))) (x : Int) : (w.setCell ⟨b, 3, none⟩ (.int .i64 x)).heap[b]? = some (.cells #[.int .i64 (a0), .int .i64 (a1), .int .i64 (a2), .int .i64 (x)] 92 (0, 0)) := by
  have hl : b < w.heap.size := (Array.getElem?_eq_some_iff.1 h).1
  have h' : w.heap[b] = .cells #[.int .i64 (a0), .int .i64 (a1), .int .i64 (a2), .int .i64 (a3)] 92 (0, 0) := by simpa [Array.getElem?_eq_getElem hl] using h
  show (w.heap.modify b _)[b]? = _
  rw [Array.getElem?_eq_getElem (by simpa using hl), Array.getElem_modify_self, h']
  rfl

theorem RWs.put0 {T p : Nat} {t : ByteArray} {w wr : World} {n0 n1 n2 n3 a0 a1 a2 a3 : Int} (h : RWs T t w wr p n0 n1 n2 n3 a0 a1 a2 a3) (x y : Int) :
    RWs T t w ((wr.setCell ⟨w.heap.size + 1, 0, none⟩ (.int .i64 x)).setCell ⟨w.heap.size + 2, 0, none⟩ (.int .i64 y)) p x n1 n2 n3 y a1 a2 a3 := by
  have hl := h.lt
  have hb := h.big
  refine ⟨(h.tk.other (a := ⟨w.heap.size + 1, 0, none⟩) (by show w.heap.size + 1 ≠ T; omega) _).other (a := ⟨w.heap.size + 2, 0, none⟩) (by show w.heap.size + 2 ≠ T; omega) _, (h.kt.new (a := ⟨w.heap.size + 1, 0, none⟩) (Nat.le_succ _) _).new (a := ⟨w.heap.size + 2, 0, none⟩) (Nat.le_add_right _ 2) _, by simpa using hb, hl, ?_, ?_, ?_⟩
  · rw [Below.heap_setCell _ ⟨w.heap.size + 2, 0, none⟩ _ _ (by show w.heap.size ≠ w.heap.size + 2; omega), Below.heap_setCell _ ⟨w.heap.size + 1, 0, none⟩ _ _ (by show w.heap.size ≠ w.heap.size + 1; omega)]; exact h.r
  · rw [Below.heap_setCell _ ⟨w.heap.size + 2, 0, none⟩ _ _ (by show w.heap.size + 1 ≠ w.heap.size + 2; omega)]
    exact arr_set0 h.n x
  · refine arr_set0 (a0 := a0) (a1 := a1) (a2 := a2) (a3 := a3) ?_ y
    rw [Below.heap_setCell _ ⟨w.heap.size + 1, 0, none⟩ _ _ (by show w.heap.size + 2 ≠ w.heap.size + 1; omega)]
    exact h.a

theorem RWs.put1 {T p : Nat} {t : ByteArray} {w wr : World} {n0 n1 n2 n3 a0 a1 a2 a3 : Int} (h : RWs T t w wr p n0 n1 n2 n3 a0 a1 a2 a3) (x y : Int) :
    RWs T t w ((wr.setCell ⟨w.heap.size + 1, 1, none⟩ (.int .i64 x)).setCell ⟨w.heap.size + 2, 1, none⟩ (.int .i64 y)) p n0 x n2 n3 a0 y a2 a3 := by
  have hl := h.lt
  have hb := h.big
  refine ⟨(h.tk.other (a := ⟨w.heap.size + 1, 1, none⟩) (by show w.heap.size + 1 ≠ T; omega) _).other (a := ⟨w.heap.size + 2, 1, none⟩) (by show w.heap.size + 2 ≠ T; omega) _, (h.kt.new (a := ⟨w.heap.size + 1, 1, none⟩) (Nat.le_succ _) _).new (a := ⟨w.heap.size + 2, 1, none⟩) (Nat.le_add_right _ 2) _, by simpa using hb, hl, ?_, ?_, ?_⟩
  · rw [Below.heap_setCell _ ⟨w.heap.size + 2, 1, none⟩ _ _ (by show w.heap.size ≠ w.heap.size + 2; omega), Below.heap_setCell _ ⟨w.heap.size + 1, 1, none⟩ _ _ (by show w.heap.size ≠ w.heap.size + 1; omega)]; exact h.r
  · rw [Below.heap_setCell _ ⟨w.heap.size + 2, 1, none⟩ _ _ (by show w.heap.size + 1 ≠ w.heap.size + 2; omega)]
    exact arr_set1 h.n x
  · refine arr_set1 (a0 := a0) (a1 := a1) (a2 := a2) (a3 := a3) ?_ y
    rw [Below.heap_setCell _ ⟨w.heap.size + 1, 1, none⟩ _ _ (by show w.heap.size + 2 ≠ w.heap.size + 1; omega)]
    exact h.a

theorem RWs.put2 {T p : Nat} {t : ByteArray} {w wr : World} {n0 n1 n2 n3 a0 a1 a2 a3 : Int} (h : RWs T t w wr p n0 n1 n2 n3 a0 a1 a2 a3) (x y : Int) :
    RWs T t w ((wr.setCell ⟨w.heap.size + 1, 2, none⟩ (.int .i64 x)).setCell ⟨w.heap.size + 2, 2, none⟩ (.int .i64 y)) p n0 n1 x n3 a0 a1 y a3 := by
  have hl := h.lt
  have hb := h.big
  refine ⟨(h.tk.other (a := ⟨w.heap.size + 1, 2, none⟩) (by show w.heap.size + 1 ≠ T; omega) _).other (a := ⟨w.heap.size + 2, 2, none⟩) (by show w.heap.size + 2 ≠ T; omega) _, (h.kt.new (a := ⟨w.heap.size + 1, 2, none⟩) (Nat.le_succ _) _).new (a := ⟨w.heap.size + 2, 2, none⟩) (Nat.le_add_right _ 2) _, by simpa using hb, hl, ?_, ?_, ?_⟩
  · rw [Below.heap_setCell _ ⟨w.heap.size + 2, 2, none⟩ _ _ (by show w.heap.size ≠ w.heap.size + 2; omega), Below.heap_setCell _ ⟨w.heap.size + 1, 2, none⟩ _ _ (by show w.heap.size ≠ w.heap.size + 1; omega)]; exact h.r
  · rw [Below.heap_setCell _ ⟨w.heap.size + 2, 2, none⟩ _ _ (by show w.heap.size + 1 ≠ w.heap.size + 2; omega)]
    exact arr_set2 h.n x
  · refine arr_set2 (a0 := a0) (a1 := a1) (a2 := a2) (a3 := a3) ?_ y
    rw [Below.heap_setCell _ ⟨w.heap.size + 1, 2, none⟩ _ _ (by show w.heap.size + 2 ≠ w.heap.size + 1; omega)]
    exact h.a

theorem RWs.put3 {T p : Nat} {t : ByteArray} {w wr : World} {n0 n1 n2 n3 a0 a1 a2 a3 : Int} (h : RWs T t w wr p n0 n1 n2 n3 a0 a1 a2 a3) (x y : Int) :
    RWs T t w ((wr.setCell ⟨w.heap.size + 1, 3, none⟩ (.int .i64 x)).setCell ⟨w.heap.size + 2, 3, none⟩ (.int .i64 y)) p n0 n1 n2 x a0 a1 a2 y := by
  have hl := h.lt
  have hb := h.big
  refine ⟨(h.tk.other (a := ⟨w.heap.size + 1, 3, none⟩) (by show w.heap.size + 1 ≠ T; omega) _).other (a := ⟨w.heap.size + 2, 3, none⟩) (by show w.heap.size + 2 ≠ T; omega) _, (h.kt.new (a := ⟨w.heap.size + 1, 3, none⟩) (Nat.le_succ _) _).new (a := ⟨w.heap.size + 2, 3, none⟩) (Nat.le_add_right _ 2) _, by simpa using hb, hl, ?_, ?_, ?_⟩
  · rw [Below.heap_setCell _ ⟨w.heap.size + 2, 3, none⟩ _ _ (by show w.heap.size ≠ w.heap.size + 2; omega), Below.heap_setCell _ ⟨w.heap.size + 1, 3, none⟩ _ _ (by show w.heap.size ≠ w.heap.size + 1; omega)]; exact h.r
  · rw [Below.heap_setCell _ ⟨w.heap.size + 2, 3, none⟩ _ _ (by show w.heap.size + 1 ≠ w.heap.size + 2; omega)]
    exact arr_set3 h.n x
  · refine arr_set3 (a0 := a0) (a1 := a1) (a2 := a2) (a3 := a3) ?_ y
    rw [Below.heap_setCell _ ⟨w.heap.size + 1, 3, none⟩ _ _ (by show w.heap.size + 2 ≠ w.heap.size + 1; omega)]
    exact h.a

theorem whole_start {T : Nat} {t : ByteArray} {w : World} (h : Tak T t 0 w) :
    RWs T t w (((w.alloc (.cells #[.int .i64 0, .int .i64 0] 45)).alloc (.cells #[.int .i64 0, .int .i64 0, .int .i64 0, .int .i64 0] 92)).alloc (.cells #[.int .i64 0, .int .i64 0, .int .i64 0, .int .i64 0] 92)) 0 0 0 0 0 0 0 0 0 := by
  refine ⟨((h.alloc _).alloc _).alloc _, (((KT.refl T w).alloc _).alloc _).alloc _, by simp, h.lt, ?_, ?_, ?_⟩
  · rw [Below.heap_alloc _ _ _ (by simp only [World.size_alloc]; omega), Below.heap_alloc _ _ _ (by simp only [World.size_alloc]; omega)]; exact heap_alloc_new w _
  · rw [Below.heap_alloc _ _ _ (by simp only [World.size_alloc]; omega)]
    have := heap_alloc_new (w.alloc (.cells #[.int .i64 0, .int .i64 0] 45)) (.cells #[.int .i64 0, .int .i64 0, .int .i64 0, .int .i64 0] 92)
    simpa using this
  · have := heap_alloc_new ((w.alloc (.cells #[.int .i64 0, .int .i64 0] 45)).alloc (.cells #[.int .i64 0, .int .i64 0, .int .i64 0, .int .i64 0] 92)) (.cells #[.int .i64 0, .int .i64 0, .int .i64 0, .int .i64 0] 92)
    simpa using this

theorem idx_0 (T : Nat) (W : World) : (Instr.index 93 (.agg #[.func (.func 45) #[.pointer (some ⟨T, 0, none⟩)] #[], .func (.func 45) #[.pointer (some ⟨T, 0, none⟩)] #[], .func (.func 46) #[.pointer (some ⟨T, 0, none⟩)] #[], .func (.func 46) #[.pointer (some ⟨T, 0, none⟩)] #[]]) (.int .i64 0)).run Try.prog W = .ok (.func (.func 45) #[.pointer (some ⟨T, 0, none⟩)] #[]) W := by kernel_rfl

theorem idx_1 (T : Nat) (W : World) : (Instr.index 93 (.agg #[.func (.func 45) #[.pointer (some ⟨T, 0, none⟩)] #[], .func (.func 45) #[.pointer (some ⟨T, 0, none⟩)] #[], .func (.func 46) #[.pointer (some ⟨T, 0, none⟩)] #[], .func (.func 46) #[.pointer (some ⟨T, 0, none⟩)] #[]]) (.int .i64 1)).run Try.prog W = .ok (.func (.func 45) #[.pointer (some ⟨T, 0, none⟩)] #[]) W := by kernel_rfl

theorem idx_2 (T : Nat) (W : World) : (Instr.index 93 (.agg #[.func (.func 45) #[.pointer (some ⟨T, 0, none⟩)] #[], .func (.func 45) #[.pointer (some ⟨T, 0, none⟩)] #[], .func (.func 46) #[.pointer (some ⟨T, 0, none⟩)] #[], .func (.func 46) #[.pointer (some ⟨T, 0, none⟩)] #[]]) (.int .i64 2)).run Try.prog W = .ok (.func (.func 46) #[.pointer (some ⟨T, 0, none⟩)] #[]) W := by kernel_rfl

theorem idx_3 (T : Nat) (W : World) : (Instr.index 93 (.agg #[.func (.func 45) #[.pointer (some ⟨T, 0, none⟩)] #[], .func (.func 45) #[.pointer (some ⟨T, 0, none⟩)] #[], .func (.func 46) #[.pointer (some ⟨T, 0, none⟩)] #[], .func (.func 46) #[.pointer (some ⟨T, 0, none⟩)] #[]]) (.int .i64 3)).run Try.prog W = .ok (.func (.func 46) #[.pointer (some ⟨T, 0, none⟩)] #[]) W := by kernel_rfl

set_option maxRecDepth 20000 in
set_option maxHeartbeats 4000000 in
theorem whole_any (T : Nat) (t : ByteArray) (w : World) (h : Tak T t 0 w) (ht : t.size ≤ 1000000) :
    Calls Try.prog 44 #[.func (.func 45) #[.pointer (some ⟨T, 0, none⟩)] #[], .func (.func 46) #[.pointer (some ⟨T, 0, none⟩)] #[]] w fun e w' => WholeP T t w e w' := by
  have eg1 : ∀ args w, (callFunc 45 args).run Try.prog w = .ok (.enter 45 args) w := enters_of Try.func45 (by kernel_rfl) rfl
  have eg2 : ∀ args w, (callFunc 46 args).run Try.prog w = .ok (.enter 46 args) w := enters_of Try.func46 (by kernel_rfl) rfl
  have H0 := Lib.hid (whole_start h)
  clear h
  go_enter Try.func44, Try.ntmps44
  go_wp2
  go_loopw [18] (fun i wr => (i = .int .i64 0 ∧ Hid (RWs T t w wr 0 0 0 0 0 0 0 0 0)) ∨ (i = .int .i64 1 ∧ ∃ (bh : UInt8) (u : List UInt8), Hid (rest t 0 = bh :: u) ∧ Hid (RWs T t w wr 1 (bh.toNat : Int) 0 0 0 0 0 0 0)) ∨ (i = .int .i64 2 ∧ ∃ (bh bd : UInt8) (u : List UInt8), Hid (rest t 0 = bh :: bd :: u) ∧ Hid (RWs T t w wr 2 (bh.toNat : Int) (bd.toNat : Int) 0 0 0 1 0 0)) ∨ (i = .int .i64 3 ∧ ∃ (bh bd a1 a2 : UInt8) (u : List UInt8), Hid (rest t 0 = bh :: bd :: a1 :: a2 :: u) ∧ Hid (RWs T t w wr 4 (bh.toNat : Int) (bd.toNat : Int) (val a1 a2) 0 0 1 2 0)) ∨ (i = .int .i64 4 ∧ ∃ (bh bd a1 a2 b1 b2 : UInt8) (u : List UInt8), Hid (rest t 0 = bh :: bd :: a1 :: a2 :: b1 :: b2 :: u) ∧ Hid (RWs T t w wr 6 (bh.toNat : Int) (bd.toNat : Int) (val a1 a2) (val b1 b2) 0 1 2 4))) (fun i _ => 4 - (intOf i).toNat)
  case atStart => exact .inl ⟨rfl, H0⟩
  case round =>
    clear H0
    rcases hrel with ⟨rfl, hst⟩ | ⟨rfl, hst⟩ | ⟨rfl, hst⟩ | ⟨rfl, hst⟩ | ⟨rfl, hst⟩
    · have HS := hst
      have HRp : rest t 0 = rest t 0 := rfl
      have RI := fun W => idx_0 T W
      have hwb := HS.out.big
      have hwl := HS.out.lt
      obtain ⟨r, HRq⟩ : ∃ r, rest t 0 = r := ⟨_, rfl⟩
      rcases r with _ | ⟨bh, u2⟩
      · have C := fun W (h : Tak T t 0 W) => one_no T 0 t W h HRq
        have HNO := Lib.hid (show wholeV (rest t 0) = none by rw [HRq]; rfl)
        clear HRq
        go_wp2_with (go_at_fn 45; (with_reducible refine (C _ HS.out.tk).mono ?_); rintro e w2 ⟨rfl, ht2, hk2⟩; have HB := Lib.hid (HS.out.call ht2 hk2); clear ht2 hk2; have ⟨zn0, zfn0⟩ := cell_heap (k := 0) HB.out.n rfl; have ⟨zn1, zfn1⟩ := cell_heap (k := 1) HB.out.n rfl; have ⟨zn2, zfn2⟩ := cell_heap (k := 2) HB.out.n rfl; have ⟨zn3, zfn3⟩ := cell_heap (k := 3) HB.out.n rfl; have ⟨za0, zfa0⟩ := cell_heap (k := 0) HB.out.a rfl; have ⟨za1, zfa1⟩ := cell_heap (k := 1) HB.out.a rfl; have ⟨za2, zfa2⟩ := cell_heap (k := 2) HB.out.a rfl; have ⟨za3, zfa3⟩ := cell_heap (k := 3) HB.out.a rfl; have ⟨zr0, zfr0⟩ := cell_heap (k := 0) HB.out.r rfl; have ⟨zr1, zfr1⟩ := cell_heap (k := 1) HB.out.r rfl)
        go_region
        all_goals
          go_wp2
          refine bodyPost_ret (v := .tuple #[.agg #[.int .i64 0, .int .i64 0], .int .i64 ((t.size : Int)), .int .i64 (8)]) (by simp [results, Try.results44, go_sem, *]) rfl ?_
          exact whole_no ((t.size : Int)) (8) HNO.out rfl (by decide) (by repeat (first | exact KT.refl _ _ | exact HB.out.kt | refine KT.dr ?_ | refine KT.new ?_ (by first | (simp; done) | (simp; omega) | omega) _ | refine KT.dn ?_))
      · have C := fun W (h : Tak T t 0 W) => one_yes T 0 t bh u2 W h HRq ht
        have HU2 := Lib.hid (show rest t 0 = bh :: u2 by exact HRq)
        clear HRq
        have x0 := bh.toNat_lt
        go_wp2_with (go_at_fn 45; (with_reducible refine (C _ HS.out.tk).mono ?_); rintro e w2 ⟨rfl, ht2, hk2⟩; have HB := Lib.hid (HS.out.call ht2 hk2); clear ht2 hk2; have ⟨zn0, zfn0⟩ := cell_heap (k := 0) HB.out.n rfl; have ⟨zn1, zfn1⟩ := cell_heap (k := 1) HB.out.n rfl; have ⟨zn2, zfn2⟩ := cell_heap (k := 2) HB.out.n rfl; have ⟨zn3, zfn3⟩ := cell_heap (k := 3) HB.out.n rfl; have ⟨za0, zfa0⟩ := cell_heap (k := 0) HB.out.a rfl; have ⟨za1, zfa1⟩ := cell_heap (k := 1) HB.out.a rfl; have ⟨za2, zfa2⟩ := cell_heap (k := 2) HB.out.a rfl; have ⟨za3, zfa3⟩ := cell_heap (k := 3) HB.out.a rfl)
        go_roundw
        case rel => exact .inr (.inl ⟨by first | rfl | go_num, bh, u2, HU2, Lib.hid (RWs.put0 HB.out _ _)⟩)
        case measure => simp [intOf]
    · obtain ⟨bh, u, HU, HS⟩ := hst
      have HRp : rest t 1 = u := (rest_one HU.out).2.2
      have RI := fun W => idx_1 T W
      have hwb := HS.out.big
      have hwl := HS.out.lt
      obtain ⟨r, HRq⟩ : ∃ r, rest t 1 = r := ⟨_, rfl⟩
      rcases r with _ | ⟨bd, u2⟩
      · have C := fun W (h : Tak T t 1 W) => one_no T 1 t W h HRq
        have HNO := Lib.hid (show wholeV (rest t 0) = none by rw [HU.out, ← HRp, HRq]; rfl)
        clear HRq
        go_wp2_with (go_at_fn 45; (with_reducible refine (C _ HS.out.tk).mono ?_); rintro e w2 ⟨rfl, ht2, hk2⟩; have HB := Lib.hid (HS.out.call ht2 hk2); clear ht2 hk2; have ⟨zn0, zfn0⟩ := cell_heap (k := 0) HB.out.n rfl; have ⟨zn1, zfn1⟩ := cell_heap (k := 1) HB.out.n rfl; have ⟨zn2, zfn2⟩ := cell_heap (k := 2) HB.out.n rfl; have ⟨zn3, zfn3⟩ := cell_heap (k := 3) HB.out.n rfl; have ⟨za0, zfa0⟩ := cell_heap (k := 0) HB.out.a rfl; have ⟨za1, zfa1⟩ := cell_heap (k := 1) HB.out.a rfl; have ⟨za2, zfa2⟩ := cell_heap (k := 2) HB.out.a rfl; have ⟨za3, zfa3⟩ := cell_heap (k := 3) HB.out.a rfl; have ⟨zr0, zfr0⟩ := cell_heap (k := 0) HB.out.r rfl; have ⟨zr1, zfr1⟩ := cell_heap (k := 1) HB.out.r rfl)
        go_region
        all_goals
          go_wp2
          refine bodyPost_ret (v := .tuple #[.agg #[.int .i64 0, .int .i64 0], .int .i64 ((t.size : Int)), .int .i64 (8)]) (by simp [results, Try.results44, go_sem, *]) rfl ?_
          exact whole_no ((t.size : Int)) (8) HNO.out rfl (by decide) (by repeat (first | exact KT.refl _ _ | exact HB.out.kt | refine KT.dr ?_ | refine KT.new ?_ (by first | (simp; done) | (simp; omega) | omega) _ | refine KT.dn ?_))
      · have C := fun W (h : Tak T t 1 W) => one_yes T 1 t bd u2 W h HRq ht
        have HU2 := Lib.hid (show rest t 0 = bh :: bd :: u2 by rw [HU.out, ← HRp, HRq])
        clear HRq
        have x0 := bd.toNat_lt
        go_wp2_with (go_at_fn 45; (with_reducible refine (C _ HS.out.tk).mono ?_); rintro e w2 ⟨rfl, ht2, hk2⟩; have HB := Lib.hid (HS.out.call ht2 hk2); clear ht2 hk2; have ⟨zn0, zfn0⟩ := cell_heap (k := 0) HB.out.n rfl; have ⟨zn1, zfn1⟩ := cell_heap (k := 1) HB.out.n rfl; have ⟨zn2, zfn2⟩ := cell_heap (k := 2) HB.out.n rfl; have ⟨zn3, zfn3⟩ := cell_heap (k := 3) HB.out.n rfl; have ⟨za0, zfa0⟩ := cell_heap (k := 0) HB.out.a rfl; have ⟨za1, zfa1⟩ := cell_heap (k := 1) HB.out.a rfl; have ⟨za2, zfa2⟩ := cell_heap (k := 2) HB.out.a rfl; have ⟨za3, zfa3⟩ := cell_heap (k := 3) HB.out.a rfl)
        go_roundw
        case rel => exact .inr (.inr (.inl ⟨by first | rfl | go_num, bh, bd, u2, HU2, Lib.hid (RWs.put1 HB.out _ _)⟩))
        case measure => simp [intOf]
    · obtain ⟨bh, bd, u, HU, HS⟩ := hst
      have HRp : rest t 2 = u := (rest_two HU.out).2.2
      have RI := fun W => idx_2 T W
      have hwb := HS.out.big
      have hwl := HS.out.lt
      obtain ⟨r, HRq⟩ : ∃ r, rest t 2 = r := ⟨_, rfl⟩
      rcases r with _ | ⟨a1, _ | ⟨a2, u2⟩⟩
      · have C := fun W (h : Tak T t 2 W) => two_no T 2 t W h (by rw [HRq]; simp) ht
        have HNO := Lib.hid (show wholeV (rest t 0) = none by rw [HU.out, ← HRp, HRq]; rfl)
        clear HRq
        go_wp2_with (go_at_fn 46; (with_reducible refine (C _ HS.out.tk).mono ?_); rintro e w2 ⟨rfl, ht2, hk2⟩; have HB := Lib.hid (HS.out.call ht2 hk2); clear ht2 hk2; have ⟨zn0, zfn0⟩ := cell_heap (k := 0) HB.out.n rfl; have ⟨zn1, zfn1⟩ := cell_heap (k := 1) HB.out.n rfl; have ⟨zn2, zfn2⟩ := cell_heap (k := 2) HB.out.n rfl; have ⟨zn3, zfn3⟩ := cell_heap (k := 3) HB.out.n rfl; have ⟨za0, zfa0⟩ := cell_heap (k := 0) HB.out.a rfl; have ⟨za1, zfa1⟩ := cell_heap (k := 1) HB.out.a rfl; have ⟨za2, zfa2⟩ := cell_heap (k := 2) HB.out.a rfl; have ⟨za3, zfa3⟩ := cell_heap (k := 3) HB.out.a rfl; have ⟨zr0, zfr0⟩ := cell_heap (k := 0) HB.out.r rfl; have ⟨zr1, zfr1⟩ := cell_heap (k := 1) HB.out.r rfl)
        go_region
        all_goals
          go_wp2
          refine bodyPost_ret (v := .tuple #[.agg #[.int .i64 0, .int .i64 0], .int .i64 ((t.size : Int)), .int .i64 (8)]) (by simp [results, Try.results44, go_sem, *]) rfl ?_
          exact whole_no ((t.size : Int)) (8) HNO.out rfl (by decide) (by repeat (first | exact KT.refl _ _ | exact HB.out.kt | refine KT.dr ?_ | refine KT.new ?_ (by first | (simp; done) | (simp; omega) | omega) _ | refine KT.dn ?_))
      · have C := fun W (h : Tak T t 2 W) => two_no T 2 t W h (by rw [HRq]; simp) ht
        have HNO := Lib.hid (show wholeV (rest t 0) = none by rw [HU.out, ← HRp, HRq]; rfl)
        clear HRq
        go_wp2_with (go_at_fn 46; (with_reducible refine (C _ HS.out.tk).mono ?_); rintro e w2 ⟨rfl, ht2, hk2⟩; have HB := Lib.hid (HS.out.call ht2 hk2); clear ht2 hk2; have ⟨zn0, zfn0⟩ := cell_heap (k := 0) HB.out.n rfl; have ⟨zn1, zfn1⟩ := cell_heap (k := 1) HB.out.n rfl; have ⟨zn2, zfn2⟩ := cell_heap (k := 2) HB.out.n rfl; have ⟨zn3, zfn3⟩ := cell_heap (k := 3) HB.out.n rfl; have ⟨za0, zfa0⟩ := cell_heap (k := 0) HB.out.a rfl; have ⟨za1, zfa1⟩ := cell_heap (k := 1) HB.out.a rfl; have ⟨za2, zfa2⟩ := cell_heap (k := 2) HB.out.a rfl; have ⟨za3, zfa3⟩ := cell_heap (k := 3) HB.out.a rfl; have ⟨zr0, zfr0⟩ := cell_heap (k := 0) HB.out.r rfl; have ⟨zr1, zfr1⟩ := cell_heap (k := 1) HB.out.r rfl)
        go_region
        all_goals
          go_wp2
          refine bodyPost_ret (v := .tuple #[.agg #[.int .i64 0, .int .i64 0], .int .i64 ((t.size : Int)), .int .i64 (8)]) (by simp [results, Try.results44, go_sem, *]) rfl ?_
          exact whole_no ((t.size : Int)) (8) HNO.out rfl (by decide) (by repeat (first | exact KT.refl _ _ | exact HB.out.kt | refine KT.dr ?_ | refine KT.new ?_ (by first | (simp; done) | (simp; omega) | omega) _ | refine KT.dn ?_))
      · have C := fun W (h : Tak T t 2 W) => two_yes T 2 t a1 a2 u2 W h HRq ht
        have HU2 := Lib.hid (show rest t 0 = bh :: bd :: a1 :: a2 :: u2 by rw [HU.out, ← HRp, HRq])
        clear HRq
        have x0 := val_bd a1 a2
        go_wp2_with (go_at_fn 46; (with_reducible refine (C _ HS.out.tk).mono ?_); rintro e w2 ⟨rfl, ht2, hk2⟩; have HB := Lib.hid (HS.out.call ht2 hk2); clear ht2 hk2; have ⟨zn0, zfn0⟩ := cell_heap (k := 0) HB.out.n rfl; have ⟨zn1, zfn1⟩ := cell_heap (k := 1) HB.out.n rfl; have ⟨zn2, zfn2⟩ := cell_heap (k := 2) HB.out.n rfl; have ⟨zn3, zfn3⟩ := cell_heap (k := 3) HB.out.n rfl; have ⟨za0, zfa0⟩ := cell_heap (k := 0) HB.out.a rfl; have ⟨za1, zfa1⟩ := cell_heap (k := 1) HB.out.a rfl; have ⟨za2, zfa2⟩ := cell_heap (k := 2) HB.out.a rfl; have ⟨za3, zfa3⟩ := cell_heap (k := 3) HB.out.a rfl)
        go_roundw
        case rel => exact .inr (.inr (.inr (.inl ⟨by first | rfl | go_num, bh, bd, a1, a2, u2, HU2, Lib.hid (RWs.put2 HB.out _ _)⟩)))
        case measure => simp [intOf]
    · obtain ⟨bh, bd, a1, a2, u, HU, HS⟩ := hst
      have HRp : rest t 4 = u := (rest_two (rest_two HU.out).2.2).2.2
      have RI := fun W => idx_3 T W
      have hwb := HS.out.big
      have hwl := HS.out.lt
      obtain ⟨r, HRq⟩ : ∃ r, rest t 4 = r := ⟨_, rfl⟩
      rcases r with _ | ⟨b1, _ | ⟨b2, u2⟩⟩
      · have C := fun W (h : Tak T t 4 W) => two_no T 4 t W h (by rw [HRq]; simp) ht
        have HNO := Lib.hid (show wholeV (rest t 0) = none by rw [HU.out, ← HRp, HRq]; rfl)
        clear HRq
        go_wp2_with (go_at_fn 46; (with_reducible refine (C _ HS.out.tk).mono ?_); rintro e w2 ⟨rfl, ht2, hk2⟩; have HB := Lib.hid (HS.out.call ht2 hk2); clear ht2 hk2; have ⟨zn0, zfn0⟩ := cell_heap (k := 0) HB.out.n rfl; have ⟨zn1, zfn1⟩ := cell_heap (k := 1) HB.out.n rfl; have ⟨zn2, zfn2⟩ := cell_heap (k := 2) HB.out.n rfl; have ⟨zn3, zfn3⟩ := cell_heap (k := 3) HB.out.n rfl; have ⟨za0, zfa0⟩ := cell_heap (k := 0) HB.out.a rfl; have ⟨za1, zfa1⟩ := cell_heap (k := 1) HB.out.a rfl; have ⟨za2, zfa2⟩ := cell_heap (k := 2) HB.out.a rfl; have ⟨za3, zfa3⟩ := cell_heap (k := 3) HB.out.a rfl; have ⟨zr0, zfr0⟩ := cell_heap (k := 0) HB.out.r rfl; have ⟨zr1, zfr1⟩ := cell_heap (k := 1) HB.out.r rfl)
        go_region
        all_goals
          go_wp2
          refine bodyPost_ret (v := .tuple #[.agg #[.int .i64 0, .int .i64 0], .int .i64 ((t.size : Int)), .int .i64 (8)]) (by simp [results, Try.results44, go_sem, *]) rfl ?_
          exact whole_no ((t.size : Int)) (8) HNO.out rfl (by decide) (by repeat (first | exact KT.refl _ _ | exact HB.out.kt | refine KT.dr ?_ | refine KT.new ?_ (by first | (simp; done) | (simp; omega) | omega) _ | refine KT.dn ?_))
      · have C := fun W (h : Tak T t 4 W) => two_no T 4 t W h (by rw [HRq]; simp) ht
        have HNO := Lib.hid (show wholeV (rest t 0) = none by rw [HU.out, ← HRp, HRq]; rfl)
        clear HRq
        go_wp2_with (go_at_fn 46; (with_reducible refine (C _ HS.out.tk).mono ?_); rintro e w2 ⟨rfl, ht2, hk2⟩; have HB := Lib.hid (HS.out.call ht2 hk2); clear ht2 hk2; have ⟨zn0, zfn0⟩ := cell_heap (k := 0) HB.out.n rfl; have ⟨zn1, zfn1⟩ := cell_heap (k := 1) HB.out.n rfl; have ⟨zn2, zfn2⟩ := cell_heap (k := 2) HB.out.n rfl; have ⟨zn3, zfn3⟩ := cell_heap (k := 3) HB.out.n rfl; have ⟨za0, zfa0⟩ := cell_heap (k := 0) HB.out.a rfl; have ⟨za1, zfa1⟩ := cell_heap (k := 1) HB.out.a rfl; have ⟨za2, zfa2⟩ := cell_heap (k := 2) HB.out.a rfl; have ⟨za3, zfa3⟩ := cell_heap (k := 3) HB.out.a rfl; have ⟨zr0, zfr0⟩ := cell_heap (k := 0) HB.out.r rfl; have ⟨zr1, zfr1⟩ := cell_heap (k := 1) HB.out.r rfl)
        go_region
        all_goals
          go_wp2
          refine bodyPost_ret (v := .tuple #[.agg #[.int .i64 0, .int .i64 0], .int .i64 ((t.size : Int)), .int .i64 (8)]) (by simp [results, Try.results44, go_sem, *]) rfl ?_
          exact whole_no ((t.size : Int)) (8) HNO.out rfl (by decide) (by repeat (first | exact KT.refl _ _ | exact HB.out.kt | refine KT.dr ?_ | refine KT.new ?_ (by first | (simp; done) | (simp; omega) | omega) _ | refine KT.dn ?_))
      · have C := fun W (h : Tak T t 4 W) => two_yes T 4 t b1 b2 u2 W h HRq ht
        have HU2 := Lib.hid (show rest t 0 = bh :: bd :: a1 :: a2 :: b1 :: b2 :: u2 by rw [HU.out, ← HRp, HRq])
        clear HRq
        have x0 := val_bd b1 b2
        go_wp2_with (go_at_fn 46; (with_reducible refine (C _ HS.out.tk).mono ?_); rintro e w2 ⟨rfl, ht2, hk2⟩; have HB := Lib.hid (HS.out.call ht2 hk2); clear ht2 hk2; have ⟨zn0, zfn0⟩ := cell_heap (k := 0) HB.out.n rfl; have ⟨zn1, zfn1⟩ := cell_heap (k := 1) HB.out.n rfl; have ⟨zn2, zfn2⟩ := cell_heap (k := 2) HB.out.n rfl; have ⟨zn3, zfn3⟩ := cell_heap (k := 3) HB.out.n rfl; have ⟨za0, zfa0⟩ := cell_heap (k := 0) HB.out.a rfl; have ⟨za1, zfa1⟩ := cell_heap (k := 1) HB.out.a rfl; have ⟨za2, zfa2⟩ := cell_heap (k := 2) HB.out.a rfl; have ⟨za3, zfa3⟩ := cell_heap (k := 3) HB.out.a rfl)
        go_roundw
        case rel => exact .inr (.inr (.inr (.inr (⟨by first | rfl | go_num, bh, bd, a1, a2, b1, b2, u2, HU2, Lib.hid (RWs.put3 HB.out _ _)⟩))))
        case measure => simp [intOf]
    · obtain ⟨bh, bd, a1, a2, b1, b2, u, HU, HS⟩ := hst
      have hwb := HS.out.big
      have hwl := HS.out.lt
      have hva := val_bd a1 a2
      have hvb := val_bd b1 b2
      have HV := Lib.hid (show wholeV (rest t 0) = if bh = 72 ∧ bd = 68 ∧ val a1 a2 < val b1 b2 ∧ val b1 b2 ≤ 40320 then some (val a1 a2, val b1 b2) else none by rw [HU.out]; rfl)
      obtain ⟨xh, hxh⟩ : ∃ xh : Int, (bh.toNat : Int) = xh := ⟨_, rfl⟩
      obtain ⟨xd, hxd⟩ : ∃ xd : Int, (bd.toNat : Int) = xd := ⟨_, rfl⟩
      rw [hxh, hxd] at HS
      generalize val a1 a2 = va at *
      generalize val b1 b2 = vb at *
      have HB := Lib.hid (HS.out.call (HS.out.tk.alloc (.cells #[.int .i64 va, .int .i64 vb] 45)) (KT.of ((Below.refl _ _).alloc (Nat.le_refl _) (.cells #[.int .i64 va, .int .i64 vb] 45))))
      have ⟨yn0, yfn0⟩ := cell_heap (k := 0) HS.out.n rfl
      have ⟨yn1, yfn1⟩ := cell_heap (k := 1) HS.out.n rfl
      have ⟨yn2, yfn2⟩ := cell_heap (k := 2) HS.out.n rfl
      have ⟨yn3, yfn3⟩ := cell_heap (k := 3) HS.out.n rfl
      have ⟨zn0, zfn0⟩ := cell_heap (k := 0) HB.out.n rfl
      have ⟨zn1, zfn1⟩ := cell_heap (k := 1) HB.out.n rfl
      have ⟨zn2, zfn2⟩ := cell_heap (k := 2) HB.out.n rfl
      have ⟨zn3, zfn3⟩ := cell_heap (k := 3) HB.out.n rfl
      have ⟨za0, zfa0⟩ := cell_heap (k := 0) HB.out.a rfl
      have ⟨za1, zfa1⟩ := cell_heap (k := 1) HB.out.a rfl
      have ⟨za2, zfa2⟩ := cell_heap (k := 2) HB.out.a rfl
      have ⟨za3, zfa3⟩ := cell_heap (k := 3) HB.out.a rfl
      have ⟨zr0, zfr0⟩ := cell_heap (k := 0) HB.out.r rfl
      have ⟨zr1, zfr1⟩ := cell_heap (k := 1) HB.out.r rfl
      have m0 : (((⟨#[72, 68]⟩ : ByteArray)[0].toNat : Nat) : Int) = 72 := rfl
      have m1 : (((⟨#[72, 68]⟩ : ByteArray)[1].toNat : Nat) : Int) = 68 := rfl
      by_cases c1 : bh = 72
      · have e1 : xh = 72 := by rw [← hxh, c1]; rfl
        subst e1
        by_cases c2 : bd = 68
        · have e2 : xd = 68 := by rw [← hxd, c2]; rfl
          subst e2
          by_cases c3 : va < vb
          · by_cases c4 : vb ≤ 40320
            · have HOK := Lib.hid (show wholeV (rest t 0) = some (va, vb) by rw [HV.out, if_pos ⟨c1, c2, c3, c4⟩])
              clear c1 c2 hxh hxd HV
              go_wp2
              go_quiet (fail)
              go_wp2
              go_quiet (fail)
              go_wp2
              refine bodyPost_ret (v := .tuple #[.agg #[.int .i64 va, .int .i64 vb], .int .i64 0, .int .i64 0]) (by simp [results, Try.results44, go_sem, *]) rfl ?_
              exact whole_ok HOK.out rfl (by repeat (first | exact HB.out.tk | refine Tak.dn ?_ | refine Tak.dr ?_ | refine Tak.other ?_ (by first | (show w.heap.size ≠ T; omega) | (simp; omega)) _)) (by repeat (first | exact KT.refl _ _ | exact HB.out.kt | refine KT.dr ?_ | refine KT.new ?_ (by first | (simp; done) | (simp; omega) | omega) _ | refine KT.dn ?_))
            · have HNO := Lib.hid (show wholeV (rest t 0) = none by rw [HV.out, if_neg (fun h => c4 h.2.2.2)])
              have c4' : 40320 < vb := by omega
              clear c1 c2 hxh hxd HV c4
              go_wp2
              go_quiet (fail)
              go_wp2
              go_quiet (fail)
              go_wp2
              go_region
              all_goals
                go_wp2
                refine bodyPost_ret (v := .tuple #[.agg #[.int .i64 0, .int .i64 0], .int .i64 (4), .int .i64 (4)]) (by simp [results, Try.results44, go_sem, *]) rfl ?_
                exact whole_no (4) (4) HNO.out rfl (by decide) (by repeat (first | exact KT.refl _ _ | exact HB.out.kt | refine KT.dr ?_ | refine KT.new ?_ (by first | (simp; done) | (simp; omega) | omega) _ | refine KT.dn ?_))
          · have HNO := Lib.hid (show wholeV (rest t 0) = none by rw [HV.out, if_neg (fun h => c3 h.2.2.1)])
            have c3' : vb ≤ va := by omega
            clear c1 c2 hxh hxd HV c3
            go_wp2
            go_quiet (fail)
            go_wp2
            go_quiet (fail)
            go_wp2
            go_region
            all_goals
              go_wp2
              refine bodyPost_ret (v := .tuple #[.agg #[.int .i64 0, .int .i64 0], .int .i64 (2), .int .i64 (3)]) (by simp [results, Try.results44, go_sem, *]) rfl ?_
              exact whole_no (2) (3) HNO.out rfl (by decide) (by repeat (first | exact KT.refl _ _ | exact HB.out.kt | refine KT.dr ?_ | refine KT.new ?_ (by first | (simp; done) | (simp; omega) | omega) _ | refine KT.dn ?_))
        · have HNO := Lib.hid (show wholeV (rest t 0) = none by rw [HV.out, if_neg (fun h => c2 h.2.1)])
          have n2 : (xd == 68) = false := by
            rw [← hxd]; simp; intro e; exact c2 (UInt8.toNat_inj.1 (by have : (68 : UInt8).toNat = 68 := rfl; omega))
          have n2' : (xd != 68) = true := by simp at n2 ⊢; exact n2
          clear c1 c2 hxh hxd HV
          go_wp2
          go_quiet (fail)
          go_wp2
          go_quiet (fail)
          go_wp2
          go_region
          all_goals
            go_wp2
            refine bodyPost_ret (v := .tuple #[.agg #[.int .i64 0, .int .i64 0], .int .i64 (1), .int .i64 (7)]) (by simp [results, Try.results44, go_sem, *]) rfl ?_
            exact whole_no (1) (7) HNO.out rfl (by decide) (by repeat (first | exact KT.refl _ _ | exact HB.out.kt | refine KT.dr ?_ | refine KT.new ?_ (by first | (simp; done) | (simp; omega) | omega) _ | refine KT.dn ?_))
      · have HNO := Lib.hid (show wholeV (rest t 0) = none by rw [HV.out, if_neg (fun h => c1 h.1)])
        have n1 : (xh == 72) = false := by
          rw [← hxh]; simp; intro e; exact c1 (UInt8.toNat_inj.1 (by have : (72 : UInt8).toNat = 72 := rfl; omega))
        have n1' : (xh != 72) = true := by simp at n1 ⊢; exact n1
        clear c1 hxh hxd HV
        go_wp2
        go_quiet (fail)
        go_wp2
        go_region
        all_goals
          go_wp2
          refine bodyPost_ret (v := .tuple #[.agg #[.int .i64 0, .int .i64 0], .int .i64 (0), .int .i64 (7)]) (by simp [results, Try.results44, go_sem, *]) rfl ?_
          exact whole_no (0) (7) HNO.out rfl (by decide) (by repeat (first | exact KT.refl _ _ | exact HB.out.kt | refine KT.dr ?_ | refine KT.new ?_ (by first | (simp; done) | (simp; omega) | omega) _ | refine KT.dn ?_))

end Go.Proofs.Ytgmcikajhnnaaaa
