/- The struct that takes bytes one behind the other: what its two methods return, and what they leave as it was. Conditions: the text has at most a million bytes. -/
import Derived.Test.YtgmcikajhnnaaaaRows
import Derived.Test.YtgmcikajhnnaaaaBase
import Derived.Test.YtgmcikajhnnaaaaRow
import Derived.Test.YtgmcikajhnnaaaaZ1
import Derived.Test.YtgmcikajhnnaaaaSumOpen
import Derived.WalkKit
import Derived.WalkSpells
import Derived.WalkSmall
import Derived.Below
import Derived.Lib.Hide
import Derived.Outline
import Derived.OwnWalk
import Derived.BigQuiet
import Derived.Deep.QuietTactic
namespace Go.Proofs.Ytgmcikajhnnaaaa
open Go.RowKit

/-- The taker lies at block T: its text, and how many bytes were taken. -/
def Tak (T : Nat) (t : ByteArray) (p : Nat) (w : World) : Prop := w.heap[T]? = some (.cells #[.string t, .int .i64 (p : Int)] 70 (0, 0))

theorem Tak.lt {T : Nat} {t : ByteArray} {p : Nat} {w : World} (h : Tak T t p w) : T < w.heap.size := by
  rcases Nat.lt_or_ge T w.heap.size with h' | h'
  · exact h'
  · unfold Tak at h
    simp [Array.getElem?_eq_none h'] at h

theorem Tak.c0 {T : Nat} {t : ByteArray} {p : Nat} {w : World} (h : Tak T t p w) : w.cell? ⟨T, 0, none⟩ = some (.string t) := by unfold Tak at h; simp [World.cell?, h]
theorem Tak.c1 {T : Nat} {t : ByteArray} {p : Nat} {w : World} (h : Tak T t p w) : w.cell? ⟨T, 1, none⟩ = some (.int .i64 p) := by unfold Tak at h; simp [World.cell?, h]
theorem Tak.f1 {T : Nat} {t : ByteArray} {p : Nat} {w : World} (h : Tak T t p w) : w.frozen? ⟨T, 1, none⟩ = false := by unfold Tak at h; simp [World.frozen?, h]
theorem Tak.below {T : Nat} {t : ByteArray} {p : Nat} {w w' : World} (h : Tak T t p w) (hb : Below w.heap.size w w') : Tak T t p w' := by
  have hl := h.lt
  unfold Tak at *
  rw [hb.block T hl]; exact h
theorem Tak.set {T : Nat} {t : ByteArray} {p q : Nat} {w : World} (h : Tak T t p w) {v : Int} (hv : v = (q : Int)) : Tak T t q (w.setCell ⟨T, 1, none⟩ (.int .i64 v)) := by
  subst hv
  have hl := h.lt
  unfold Tak at *
  show (w.heap.modify T _)[T]? = _
  have h' : w.heap[T] = .cells #[.string t, .int .i64 (p : Int)] 70 (0, 0) := by simpa [Array.getElem?_eq_getElem hl] using h
  rw [Array.getElem?_eq_getElem (by simpa using hl), Array.getElem_modify_self, h']
  rfl
theorem Tak.other {T : Nat} {t : ByteArray} {p : Nat} {w : World} (h : Tak T t p w) {a : Addr} (ha : a.block ≠ T) (v : Value) : Tak T t p (w.setCell a v) := by
  unfold Tak at *
  rw [Below.heap_setCell w a v T (fun e => ha e.symm)]; exact h
theorem Tak.alloc {T : Nat} {t : ByteArray} {p : Nat} {w : World} (h : Tak T t p w) (o : Obj) : Tak T t p (w.alloc o) := h.below ((Below.refl _ _).alloc (Nat.le_refl _) o)

theorem Tak.dn {T n : Nat} {t : ByteArray} {p : Nat} {w : World} (h : Tak T t p w) : Tak T t p (w.drewN n) := h
theorem Tak.dr {T : Nat} {t : ByteArray} {p : Nat} {w : World} (h : Tak T t p w) : Tak T t p w.drew := h

/-- All that lay in w lies unturned, but for the block T. -/
structure KT (T : Nat) (w w' : World) : Prop where
  os : w'.os = w.os
  tape : w'.tape = w.tape
  output : w'.output = w.output
  size : w.heap.size ≤ w'.heap.size
  block : ∀ q, q < w.heap.size → q ≠ T → w'.heap[q]? = w.heap[q]?

theorem KT.refl (T : Nat) (w : World) : KT T w w := ⟨rfl, rfl, rfl, Nat.le_refl _, fun _ _ _ => rfl⟩
theorem KT.trans {T : Nat} {u v w : World} (h : KT T u v) (k : KT T v w) : KT T u w :=
  ⟨k.os.trans h.os, k.tape.trans h.tape, k.output.trans h.output, Nat.le_trans h.size k.size, fun q h1 h2 => (k.block q (Nat.lt_of_lt_of_le h1 h.size) h2).trans (h.block q h1 h2)⟩
theorem KT.of {T : Nat} {u w : World} (h : Below u.heap.size u w) : KT T u w := ⟨h.os, h.tape, h.output, h.size, fun q h1 _ => h.block q h1⟩
theorem KT.cl {T : Nat} {u v w : World} (h : KT T u v) (k : Below v.heap.size v w) : KT T u w := h.trans (KT.of k)
theorem KT.set {T : Nat} {u w : World} (h : KT T u w) (v : Value) (o : Nat) : KT T u (w.setCell ⟨T, o, none⟩ v) :=
  h.trans ⟨rfl, rfl, rfl, by simp, fun q _ hq => Below.heap_setCell w ⟨T, o, none⟩ v q hq⟩
theorem KT.alloc {T : Nat} {u w : World} (h : KT T u w) (o : Obj) : KT T u (w.alloc o) := h.cl ((Below.refl _ _).alloc (Nat.le_refl _) o)
/-- A store into a block that is new. -/
theorem KT.new {T : Nat} {u w : World} (h : KT T u w) {a : Addr} (ha : u.heap.size ≤ a.block) (v : Value) : KT T u (w.setCell a v) :=
  ⟨h.os, h.tape, h.output, by simpa using h.size, fun q h1 h2 => (Below.heap_setCell w a v q (by omega)).trans (h.block q h1 h2)⟩
theorem KT.dn {T n : Nat} {u w : World} (h : KT T u w) : KT T u (w.drewN n) := ⟨h.os, h.tape, h.output, h.size, h.block⟩
theorem KT.dr {T : Nat} {u w : World} (h : KT T u w) : KT T u w.drew := ⟨h.os, h.tape, h.output, h.size, h.block⟩
theorem KT.below {T n : Nat} {u w : World} (h : KT T u w) (h1 : n ≤ T) (h2 : n ≤ u.heap.size) : Below n u w := ⟨h.os, h.tape, h.output, h.size, fun q hq => h.block q (by omega) (by omega)⟩
theorem KT.cell {T : Nat} {u w : World} (h : KT T u w) {a : Addr} {v : Value} (hc : u.cell? a = some v) (ha : a.block ≠ T) : w.cell? a = some v := by
  have hl := World.block_lt_of_cell? u a hc
  have := h.block a.block hl ha
  rw [← hc]
  unfold World.cell?
  rw [this]
theorem KT.row {T base sz n : Nat} {e : TypeId} {w w' : World} {v : Value} {cs : List Value} (h : w.ownsRow base e sz v n cs) (k : KT T w w') (hb : T < base) : w'.ownsRow base e sz v n cs := by
  have h0 := h
  refine ⟨h.1, ?_⟩
  rcases h.2 with h2 | ⟨g, cap, cur, hv, hg, hh, r⟩
  · exact Or.inl h2
  · refine Or.inr ⟨g, cap, cur, hv, hg, ?_, r⟩
    rw [k.block g (World.ownsRow.lt h0 g (by rw [hv]; rfl)).2 (by omega)]
    exact hh
theorem KT.at_ {T q : Nat} {w w' : World} {o : Obj} (h : w.heap[q]? = some o) (k : KT T w w') (hq : q ≠ T) : w'.heap[q]? = some o := by
  have hl : q < w.heap.size := (Array.getElem?_eq_some_iff.1 h).1
  rw [k.block q hl hq]; exact h

/-! ### The bytes that are left -/

def rest (t : ByteArray) (p : Nat) : List UInt8 := t.data.toList.drop p

theorem rest_one {t : ByteArray} {p : Nat} {x : UInt8} {u : List UInt8} (h : rest t p = x :: u) : p < t.size ∧ bt t p = (x.toNat : Int) ∧ rest t (p + 1) = u := by
  unfold rest at *
  have hl : p < t.data.toList.length := by
    rcases Nat.lt_or_ge p t.data.toList.length with h' | h'
    · exact h'
    · rw [List.drop_of_length_le h'] at h; cases h
  have hg : t.data.toList[p]? = some x := by
    have := congrArg (fun l => l[0]?) h
    simpa [List.getElem?_drop] using this
  refine ⟨by simpa using hl, ?_, ?_⟩
  · unfold bt
    have e : t.data.getD p 0 = x := by
      rw [Array.getD_eq_getD_getElem?, ← Array.getElem?_toList, hg]; rfl
    rw [e]
  · have := congrArg List.tail h
    simpa using this

theorem rest_two {t : ByteArray} {p : Nat} {x y : UInt8} {u : List UInt8} (h : rest t p = x :: y :: u) : p + 1 < t.size ∧ 256 * bt t p + bt t (p + 1) = val x y ∧ rest t (p + 2) = u := by
  have h1 := rest_one h
  have h2 := rest_one h1.2.2
  exact ⟨h2.1, by rw [h1.2.1, h2.2.1]; rfl, h2.2.2⟩

theorem rest_nil {t : ByteArray} {p : Nat} (h : rest t p = []) : t.size ≤ p := by
  unfold rest at h
  have := congrArg List.length h
  simp at this
  exact Nat.le_of_sub_eq_zero this

/-! ### The methods -/

set_option maxRecDepth 20000 in
theorem one_yes (T p : Nat) (t : ByteArray) (x : UInt8) (u : List UInt8) (w : World) (h : Tak T t p w) (hr : rest t p = x :: u) (ht : t.size ≤ 1000000) :
    Calls Try.prog 45 #[.pointer (some ⟨T, 0, none⟩)] w fun e w' => e = .returned (.tuple #[.int .i64 x.toNat, .int .i64 p, .int .i64 0]) ∧ Tak T t (p + 1) w' ∧ KT T w w' := by
  obtain ⟨hp, hb, hu⟩ := rest_one hr
  have hby := byte_bt t p hp
  rw [hb] at hby
  have x0 := x.toNat_lt
  have c0 := h.c0
  have c1 := h.c1
  have f1 := h.f1
  have HT := Lib.hid h
  have hp1 : (p : Int) < (t.size : Int) := by omega
  have hp2 : ((p : Int) + 1).toNat = p + 1 := by omega
  clear h hr hu hb
  go_enter Try.func45, Try.ntmps45
  go_wp2
  go_quiet (fail)
  go_wp2
  go_quiet (fail)
  go_wp2
  go_ret3
  refine ⟨rfl, Tak.set (p := p) (show Tak T t p (w.drewN _) from HT.out) (by omega), ((KT.refl T w).dn.set _ _).dn⟩

set_option maxRecDepth 20000 in
theorem one_no (T p : Nat) (t : ByteArray) (w : World) (h : Tak T t p w) (hr : rest t p = []) :
    Calls Try.prog 45 #[.pointer (some ⟨T, 0, none⟩)] w fun e w' => e = .returned (.tuple #[.int .i64 0, .int .i64 t.size, .int .i64 8]) ∧ Tak T t p w' ∧ KT T w w' := by
  have hp := rest_nil hr
  have c0 := h.c0
  have c1 := h.c1
  have hp1 : (t.size : Int) ≤ (p : Int) := by omega
  have HT := Lib.hid h
  clear h hr
  go_enter Try.func45, Try.ntmps45
  go_wp2
  go_quiet (fail)
  go_wp2
  go_quiet (fail)
  go_wp2
  go_ret3
  exact ⟨rfl, HT.out, (KT.refl T w).dn.dn⟩

set_option maxRecDepth 20000 in
theorem two_yes (T p : Nat) (t : ByteArray) (x y : UInt8) (u : List UInt8) (w : World) (h : Tak T t p w) (hr : rest t p = x :: y :: u) (ht : t.size ≤ 1000000) :
    Calls Try.prog 46 #[.pointer (some ⟨T, 0, none⟩)] w fun e w' => e = .returned (.tuple #[.int .i64 (val x y), .int .i64 p, .int .i64 0]) ∧ Tak T t (p + 2) w' ∧ KT T w w' := by
  obtain ⟨hp, hb, hu⟩ := rest_two hr
  have TK := fun W => take_any t p W (by unfold maxLen; omega)
  rw [take_yes t p hp, hb] at TK
  dsimp only at TK
  have c0 := h.c0
  have c1 := h.c1
  have f1 := h.f1
  have HT := Lib.hid h
  have hp1 : (p : Int) < (t.size : Int) := by omega
  have q0 : ∀ p : BelowOf w, p.world.cell? ⟨T, 0, none⟩ = some (.string t) := fun p => p.cell c0
  have q1 : ∀ q : BelowOf w, q.world.cell? ⟨T, 1, none⟩ = some (.int .i64 p) := fun q => q.cell c1
  generalize val x y = v at *
  clear h hr hu hb
  go_enter Try.func46, Try.ntmps46
  go_wp2
  refine wp_region_bel (by kernel_rfl) (by kernel_rfl) ?_
  repeat (go_big_quiet_step (first | (go_at_call 59; exact Calls.bel_of (TK _))))
  refine wpQuiet_nil ?_
  refine bel_all fun wq hbq => ?_
  have HQ := Lib.hid (HT.out.below hbq)
  have d0 := HQ.out.c0
  have d1 := HQ.out.c1
  have g1 := HQ.out.f1
  clear q0 q1
  go_wp2
  go_quiet (fail)
  go_wp2
  go_ret3
  refine ⟨rfl, Tak.set (p := p) HQ.out (by omega), (((KT.refl T w).cl hbq).set _ _).dn⟩

set_option maxRecDepth 20000 in
theorem two_no (T p : Nat) (t : ByteArray) (w : World) (h : Tak T t p w) (hr : (rest t p).length < 2) (ht : t.size ≤ 1000000) :
    Calls Try.prog 46 #[.pointer (some ⟨T, 0, none⟩)] w fun e w' => e = .returned (.tuple #[.int .i64 0, .int .i64 t.size, .int .i64 8]) ∧ Tak T t p w' ∧ KT T w w' := by
  have hs : (t.size : Int) - 2 < (p : Int) := by
    unfold rest at hr
    rw [List.length_drop, Array.length_toList] at hr
    have : t.data.size = t.size := rfl
    omega
  have TK := fun W => take_any t p W (by unfold maxLen; omega)
  have hv : takeV t p = (0, 8) := by
    unfold takeV
    rw [if_neg (by omega), if_pos hs]
  rw [hv] at TK
  dsimp only at TK
  have c0 := h.c0
  have c1 := h.c1
  have HT := Lib.hid h
  have q0 : ∀ p : BelowOf w, p.world.cell? ⟨T, 0, none⟩ = some (.string t) := fun p => p.cell c0
  have q1 : ∀ q : BelowOf w, q.world.cell? ⟨T, 1, none⟩ = some (.int .i64 p) := fun q => q.cell c1
  clear h hr hv
  go_enter Try.func46, Try.ntmps46
  go_wp2
  refine wp_region_bel (by kernel_rfl) (by kernel_rfl) ?_
  repeat (go_big_quiet_step (first | (go_at_call 59; exact Calls.bel_of (TK _))))
  refine wpQuiet_nil ?_
  refine bel_all fun wq hbq => ?_
  have HQ := Lib.hid (HT.out.below hbq)
  have d0 := HQ.out.c0
  have d1 := HQ.out.c1
  clear q0 q1
  go_wp2
  go_quiet (fail)
  go_wp2
  go_ret3
  exact ⟨rfl, HQ.out, ((KT.refl T w).cl hbq).dn⟩

end Go.Proofs.Ytgmcikajhnnaaaa
