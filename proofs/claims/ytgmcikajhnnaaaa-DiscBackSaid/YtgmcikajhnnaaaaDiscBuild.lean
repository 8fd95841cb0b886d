/- What the Builder's WriteString leaves as it was: all blocks but the builder's own and rows of bytes. Conditions: the builder's own bytes stay below the library's limit. -/
import Derived.Test.YtgmcikajhnnaaaaWordBuild
namespace Go.Proofs.Ytgmcikajhnnaaaa
open Go.RowKit

theorem check_kept (B b : Nat) (bs : List Value) (w : World) (h : Lib.IsBuilderF 50 5 B b bs w) :
    Calls Try.prog 39 #[.pointer (some ⟨b, 0, none⟩)] w fun e w' => e = .returned (.tuple #[]) ∧ Lib.BuilderAtF 50 5 B b (.pointer (some ⟨b, 0, none⟩)) bs w' ∧ Below B w w' ∧ Lib.OthersKept 5 (some b) w w' := by
  rcases h with h | h
  · exact (check_fresh b w h.cell0 h.shape h.frozen0).mono fun e w' ⟨he, hw⟩ => ⟨he, by rw [hw]; exact h.used _, by rw [hw]; exact (Below.refl B w).setCell (p := ⟨b, 0, none⟩) h.1 _, by rw [hw]; exact Lib.OthersKept.setCell (b := b) (Lib.OthersKept.refl _ _ _) ⟨b, 0, none⟩ rfl _⟩
  · exact (check_used b w h.cell0).mono fun e w' ⟨he, hw⟩ => ⟨he, by rw [hw]; exact h, by rw [hw]; exact Below.refl B _, by rw [hw]; exact Lib.OthersKept.refl _ _ _⟩

set_option maxHeartbeats 1000000 in
theorem wstr_kept (B b : Nat) (bs : List Value) (s : ByteArray) (w : World) (h : Lib.IsBuilderF 50 5 B b bs w) (hlen : bs.length + s.size ≤ 140737488355328) (hBw : B ≤ w.heap.size) :
    Calls Try.prog 21 #[.pointer (some ⟨b, 0, none⟩), .string s] w fun e w' => e = .returned (.tuple #[.int .i64 s.size, .nilIface]) ∧ Lib.BuilderAtF 50 5 B b (.pointer (some ⟨b, 0, none⟩)) (bs ++ Lib.strCells s) w' ∧ Below B w w' ∧ Lib.OthersKept 5 (some b) w w' := by
  obtain ⟨i0, hi, hz0, hz1, hz2⟩ := info_parts info_byte
  have H := Lib.hid h
  clear h
  go_enter Try.func21, Try.ntmps21
  go_wp2_with (first
    | (go_at_call 39; refine (check_kept B b bs _ H.out).mono ?_; rintro e w1 ⟨rfl, h1, hb1, hk1⟩; obtain ⟨v, hB, hlt, hbk, hown, hne, c0, c1⟩ := builder_cells h1; have hz := hb1.size; have HB := Lib.hid hbk; have HO := Lib.hid hown; have HN := Lib.hid hne; have HK := Lib.hid hk1; clear hbk hown hne h1 hk1)
    | (at_builtin; refine Lib.wpList_append_own_stringF _ rfl _ _ 40 9 rfl B 5 i0 Try.underlying40 Try.underlying9 hi hz0 hz1 hz2 _ _ _ rfl HO.out s rfl (by unfold maxLen; omega) (by omega) (by omega) ?_; intro v2 w2 hown2 hgrow2 _; have hbk2 : w2.heap[b]? = some (.cells #[.pointer (some ⟨b, 0, none⟩), v] 50 (0, 0)) := (by rw [hgrow2.block b hlt (fun e => HN.out e.symm)]; exact HB.out); have HB2 := Lib.hid hbk2; have d0 : w2.cell? ⟨b, 0, none⟩ = some (.pointer (some ⟨b, 0, none⟩)) := (by rw [Lib.cell_of_heap hbk2]; rfl); have d1 : w2.cell? ⟨b, 1, none⟩ = some v := (by rw [Lib.cell_of_heap hbk2]; rfl); have f1 : w2.frozen? ⟨b, 1, none⟩ = false := Lib.frozen_of_heap hbk2 1; clear hbk2; obtain ⟨A2, cap2, rfl⟩ := slice_form hown2; have HO2 := Lib.hid hown2; have HG2 := Lib.hid hgrow2; clear hown2 hgrow2))
  go_ret2
  refine ⟨rfl, ?_, ?_, ?_⟩
  · exact Lib.BuilderAtF.put (T := 50) (e := 5) hB HB2.out (bs' := bs ++ Lib.strCells s) (by simpa [Lib.strCells_length] using HO2.out) (by decide)
  · exact (hb1.grown HG2.out (by omega) (fun k hk => (HO.out.lt k hk).1)).setCell (p := ⟨b, 1, none⟩) hB _
  · exact (HK.out.grown HG2.out (Lib.ownsRowF_kind HO.out)).setCell (p := ⟨b, 1, none⟩) rfl _

/-- What lies below a builder, and what is no row of bytes, stands. -/
structure Kept (B b : Nat) (w w' : World) : Prop where
  bel : Below B w w'
  oth : Lib.OthersKept 5 (some b) w w'

theorem Kept.refl (B b : Nat) (w : World) : Kept B b w w := ⟨Below.refl _ _, Lib.OthersKept.refl _ _ _⟩
theorem Kept.trans {B b : Nat} {u v w : World} (h : Kept B b u v) (k : Kept B b v w) : Kept B b u w := ⟨h.bel.trans k.bel, h.oth.trans k.oth⟩
theorem Kept.alloc {B b : Nat} {u w : World} (h : Kept B b u w) (hB : B ≤ u.heap.size) (o : Obj) : Kept B b u (w.alloc o) := ⟨h.bel.alloc (Nat.le_trans hB h.bel.size) o, h.oth.alloc o⟩
theorem Kept.of {B b : Nat} {u w : World} (h : Below u.heap.size u w) (hB : B ≤ u.heap.size) : Kept B b u w :=
  ⟨h.mono hB, fun k o hk _ _ => by
    have hlt : k < u.heap.size := (Array.getElem?_eq_some_iff.1 hk).1
    rw [h.block k hlt]; exact hk⟩
theorem Kept.size {B b : Nat} {u w : World} (h : Kept B b u w) : u.heap.size ≤ w.heap.size := h.bel.size

/-- A row of the call's own that holds no bytes and is not the builder. -/
theorem Kept.row {B b base sz n : Nat} {e : TypeId} {w w' : World} {v : Value} {cs : List Value} (h : w.ownsRow base e sz v n cs) (k : Kept B b w w') (hb : v.ownBlock ≠ some b) (he : e ≠ 5) : w'.ownsRow base e sz v n cs := by
  refine ⟨h.1, ?_⟩
  rcases h.2 with h2 | ⟨g, cap, cur, hv, hg, hh, r⟩
  · exact Or.inl h2
  · refine Or.inr ⟨g, cap, cur, hv, hg, k.oth g _ hh (fun e1 => hb (by rw [hv]; exact e1)) (fun c fz e1 => ?_), r⟩
    injection e1 with _ e2 _
    exact he e2

theorem Kept.block {B b q : Nat} {w w' : World} {cs : Array Value} {t : TypeId} {fz : Nat × Nat} (k : Kept B b w w') (h : w.heap[q]? = some (.cells cs t fz)) (hq : q ≠ b) (ht : t ≠ 5) : w'.heap[q]? = some (.cells cs t fz) :=
  k.oth q _ h (fun e => hq (Option.some.inj e)) (fun c fz' e => by injection e with _ e2 _; exact ht e2)

theorem used_any {B b : Nat} {bs : List Value} {w : World} (h : Lib.BuilderAtF 50 5 B b (.pointer (some ⟨b, 0, none⟩)) bs w) : Lib.IsBuilderF 50 5 B b bs w := .inr h
theorem bcells_join (l : List UInt8) (s : ByteArray) : Lib.byteCells l ++ Lib.strCells s = Lib.byteCells (l ++ s.data.toList) := by simp [Lib.byteCells, Lib.strCells]
theorem bcells_len (l : List UInt8) : (Lib.byteCells l).length = l.length := by simp [Lib.byteCells]

end Go.Proofs.Ytgmcikajhnnaaaa
