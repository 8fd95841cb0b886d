/- What the function does that Parse of layer 10 hands to each: it reads a line, and looks at the record behind those that are read. Conditions: as each theorem says; the program's listed variables are laid. -/
import Derived.Test.YtogcpoaclkomjaaDoorTapeRead
import Derived.Test.YtogcpoaclkomjaaDoorTapeLast
import Derived.Test.YtogcpoaclkomjaaDoorTapeEach
import Derived.WalkKit
import Derived.WalkSpells
import Derived.WalkSmall
import Derived.Below
import Derived.Outline
import Derived.OwnWalk
import Derived.OneCell
import Derived.Lib.Hide
namespace Go.Proofs.YtogcpoaclkomjaaDoor
open Go.RowKit

/-- What lies below base lies as it lay, but for two blocks; nothing else is turned. -/
structure Keeps2 (base E L : Nat) (W W' : World) : Prop where
  size : W.heap.size ≤ W'.heap.size
  os : W'.os = W.os
  tape : W'.tape = W.tape
  output : W'.output = W.output
  block : ∀ q, q < base → q ≠ E → q ≠ L → W'.heap[q]? = W.heap[q]?

theorem row_apart {base sz n : Nat} {e : TypeId} {w : World} {v : Value} {cs : List Value} (h : w.ownsRow base e sz v n cs) {a : Addr} (ha : v.ownBlock ≠ some a.block) (u : Value) : (w.setCell a u).ownsRow base e sz v n cs := by
  refine ⟨h.1, ?_⟩
  rcases h.2 with h2 | ⟨g, cap, cur, hv, hg, hh, r⟩
  · exact Or.inl h2
  · refine Or.inr ⟨g, cap, cur, hv, hg, ?_, r⟩
    rw [Below.heap_setCell w a u g (by rintro rfl; exact ha (by rw [hv]; rfl))]
    exact hh

theorem RdR.apart {w : World} {b off : Nat} {l : List Rc} (h : RdR w (some ⟨b, off, none⟩) l) {a : Addr} (ha : a.block ≠ b) (u : Value) : RdR (w.setCell a u) (some ⟨b, off, none⟩) l := fun hne => by
  obtain ⟨b', off', hA, hb, hc⟩ := h hne
  have hA' := hA
  simp only [Option.some.injEq, Addr.mk.injEq, and_true] at hA'
  obtain ⟨rfl, rfl⟩ := hA'
  have key : ∀ o, (w.setCell a u).cell? ⟨b, o, none⟩ = w.cell? ⟨b, o, none⟩ := fun o => World.cell?_setCell_other w _ _ _ (by rintro rfl; exact ha rfl)
  exact ⟨_, _, rfl, by simpa using hb, fun k hk => by rw [key, key, key]; exact hc k hk⟩

/-- A slice of the call's own that is not empty. -/
theorem OwnR.some1 {base n : Nat} {w : World} {v : Value} {l : List Rc} (h : OwnR base w v l) (hn : l.length = n) (h1 : 1 ≤ n) :
    ∃ g c, v = .slice (some ⟨g, 0, none⟩) n c ∧ n ≤ c ∧ base ≤ g ∧ g < w.heap.size ∧ RdR w (some ⟨g, 0, none⟩) l := by
  have h0 := h
  obtain ⟨A', c', he, hr, _⟩ := h.read
  rcases h.2 with ⟨_, h2⟩ | ⟨g, cap, cur, rfl, hb, hg, h1', h2, h3, h4⟩
  · omega
  · injection he with e1 e2 e3
    subst e1
    exact ⟨g, cap, by rw [hn], by omega, hb, (World.ownsRow.lt h0 g rfl).2, hr⟩

theorem hand_row0 {base R E : Nat} {w : World} {v : Value} {l : List Rc} {a b c f : Int} (h : OwnR base w v l) (hR : v.ownBlock ≠ some R) (hE : v.ownBlock ≠ some E) :
    OwnR base ((((w.setCell ⟨R, 0, none⟩ (.int .i64 a)).setCell ⟨R, 1, none⟩ (.int .i64 b)).setCell ⟨R, 2, none⟩ (.int .i64 c)).setCell ⟨E, 0, none⟩ (.int .i64 f)) v l :=
  row_apart (a := ⟨E, 0, none⟩) (row_apart (a := ⟨R, 2, none⟩) (row_apart (a := ⟨R, 1, none⟩) (row_apart (a := ⟨R, 0, none⟩) h hR _) hR _) hR _) hE _

theorem hand_row {base R E : Nat} {w : World} {v : Value} {l : List Rc} {a b c f : Int} (h : OwnR base w v l) (hR : v.ownBlock ≠ some R) (hE : v.ownBlock ≠ some E) (o : Obj) :
    OwnR base (((((w.setCell ⟨R, 0, none⟩ (.int .i64 a)).setCell ⟨R, 1, none⟩ (.int .i64 b)).setCell ⟨R, 2, none⟩ (.int .i64 c)).setCell ⟨E, 0, none⟩ (.int .i64 f)).alloc o) v l :=
  OwnR.alloc (hand_row0 h hR hE) o

theorem hand_old {R E q : Nat} {w : World} {a b c f : Int} (hR : q ≠ R) (hE : q ≠ E) :
    ((((w.setCell ⟨R, 0, none⟩ (.int .i64 a)).setCell ⟨R, 1, none⟩ (.int .i64 b)).setCell ⟨R, 2, none⟩ (.int .i64 c)).setCell ⟨E, 0, none⟩ (.int .i64 f)).heap[q]? = w.heap[q]? := by
  rw [Below.heap_setCell _ _ _ q (show q ≠ E from hE), Below.heap_setCell _ _ _ q (show q ≠ R from hR), Below.heap_setCell _ _ _ q (show q ≠ R from hR), Below.heap_setCell _ _ _ q (show q ≠ R from hR)]

theorem hand_E {R E : Nat} {w : World} {a b c f x : Int} {t : TypeId} (hE : w.heap[E]? = some (.cells #[.int .i64 x] t (0, 0))) (hR : E ≠ R) :
    ((((w.setCell ⟨R, 0, none⟩ (.int .i64 a)).setCell ⟨R, 1, none⟩ (.int .i64 b)).setCell ⟨R, 2, none⟩ (.int .i64 c)).setCell ⟨E, 0, none⟩ (.int .i64 f)).heap[E]? = some (.cells #[.int .i64 f] t (0, 0)) :=
  one_setCell (by rw [Below.heap_setCell _ _ _ E (show E ≠ R from hR), Below.heap_setCell _ _ _ E (show E ≠ R from hR), Below.heap_setCell _ _ _ E (show E ≠ R from hR)]; exact hE)

theorem grown_one {X w5 : World} {row : Option Nat} {base : Nat} {o : Obj} (hg : (X.alloc o).grownBy w5 row) (hrow : ∀ k, row = some k → base ≤ k) (hb : base ≤ X.heap.size) :
    (∀ q, q < base → w5.heap[q]? = X.heap[q]?) ∧ X.heap.size + 1 ≤ w5.heap.size ∧ w5.os = X.os ∧ w5.tape = X.tape ∧ w5.output = X.output := by
  have hs : (X.alloc o).heap.size = X.heap.size + 1 := by simp
  refine ⟨fun q h1 => ?_, ?_, hg.os, hg.tape, hg.output⟩
  · rw [hg.block q (by omega) (fun e => by have := hrow q e.symm; omega), Below.heap_alloc _ _ _ (by omega)]
  · have := hg.size; omega

set_option maxRecDepth 20000 in
set_option maxHeartbeats 2000000 in
theorem hand_good (E L base k : Nat) (v : Value) (l : List Rc) (s : ByteArray) (a b c f : Int) (W : World) (hE : W.heap[E]? = some (.cells #[.int .i64 0] 25 (0, 0))) (hL : W.heap[L]? = some (.cells #[v] 31 (0, 0)))
    (ho : OwnR base W v l) (hk : l.length = k) (hEb : E < base) (hLb : L < base) (hne : E ≠ L) (hbs : base ≤ W.heap.size) (hkl : k ≤ 900000) (hs : s.size ≤ 1000000) (hr : readV s = ((a, b, c), 0))
    (hf : (checkV ((l ++ [(a, b, c)]).drop ((l ++ [(a, b, c)]).length - 2))).2 = f) (hl : Laid6 W) :
    Calls Tryd.prog 30 #[.string s, .pointer (some ⟨E, 0, none⟩), .pointer (some ⟨L, 0, none⟩)] W fun e W' => ∃ v', e = .returned (.bool (f == 0)) ∧
      W'.heap[E]? = some (.cells #[.int .i64 f] 25 (0, 0)) ∧ W'.heap[L]? = some (.cells #[v'] 31 (0, 0)) ∧ OwnR base W' v' (l ++ [(a, b, c)]) ∧ Keeps2 base E L W W' := by
  obtain ⟨i0, hi, hz0, hz1, hz2⟩ := info_parts info_rec
  have cE := cell_of_one hE
  have fE := free_of_one hE
  have cL := cell_of_one hL
  have hEl := lt_of_block hE
  have hLl := lt_of_block hL
  obtain ⟨Av, cv, hv⟩ : ∃ A c, v = .slice A k c := by obtain ⟨A, c, h, _⟩ := ho.read; exact ⟨A, c, by rw [h, hk]⟩
  subst hv
  have CR := fun W hl => read_any s W hl hs
  rw [hr] at CR
  have hlen : (l ++ [(a, b, c)]).length = k + 1 := by simp [hk]
  have CLt : ∀ (g c5 : Nat) (W : World), RdR W (some ⟨g, 0, none⟩) (l ++ [(a, b, c)]) → k + 1 ≤ c5 →
      Calls Tryd.prog 31 #[.slice (some ⟨g, 0, none⟩) (k + 1) c5] W fun e w' => e = .returned (.int .i64 f) ∧ Below W.heap.size W w' := fun g c5 W h1 h2 => by
    have := last_any g 0 (k + 1) c5 (l ++ [(a, b, c)]) W hlen h1 (by omega) h2 (by omega)
    rw [hlen] at hf
    rw [hf] at this
    exact this
  have L0 : Laid6 (W.alloc (.cells #[.int .i64 0, .int .i64 0, .int .i64 0] 23)) := hl.below ((Below.refl _ _).alloc (Nat.le_refl _) _)
  have HK := Lib.hid hk
  have HN := Lib.hid hlen
  have HE := Lib.hid hE
  have HL := Lib.hid hL
  have HO := Lib.hid ho
  have hob : ∀ q, (Value.slice Av k cv).ownBlock = some q → base ≤ q ∧ q < W.heap.size := fun q hq => World.ownsRow.lt ho q hq
  have HOB := Lib.hid hob
  have hWE : ¬ W.heap.size = E := by omega
  have hWL : ¬ W.heap.size = L := by omega
  have hEL : ¬ L = E := fun e => hne e.symm
  clear hE hL ho hr hl hf hk hlen hob hs
  go_enter Tryd.func30, Tryd.ntmps30
  go_wp2_with (first
    | (go_at_call 9; (with_reducible refine (CR _ L0).mono ?_); rintro e w2 ⟨rfl, hb2⟩; obtain ⟨hc2, hf2⟩ := bcell hb2; have hz2' := hb2.size; (try simp at hz2'); have hlt2 : W.heap.size < w2.heap.size := (by omega); have hE2 := ((hb2.block E (by simp; omega)).trans (Below.heap_alloc _ _ _ hEl)).trans HE.out; have hL2 := ((hb2.block L (by simp; omega)).trans (Below.heap_alloc _ _ _ hLl)).trans HL.out; have cE2 := cell_of_one hE2; have fE2 := free_of_one hE2; have cL2 := cell_of_one hL2; have HE2 := Lib.hid hE2; have HL2 := Lib.hid hL2; clear hE2 hL2; have hO2 := (hand_row (a := a) (b := b) (c := c) (f := 0) (R := W.heap.size) (E := E) (OwnR.below (HO.out.alloc _) hb2) (fun e => by have := (HOB.out _ e).2; omega) (fun e => by have := (HOB.out _ e).1; omega) (.cells #[.int .i64 a, .int .i64 b, .int .i64 c] 23)); unfold OwnR at hO2; rw [HK.out] at hO2; have HO2 := Lib.hid hO2; clear hO2)
    | (at_builtin; refine wpList_append_own _ rfl _ _ 31 rfl base 23 i0 (.agg #[.int .i64 0, .int .i64 0, .int .i64 0]) 3 24 Tryd.underlying31 hi hz0 hz1 hz2 rfl (by decide) _ _ _ rfl HO2.out ⟨w2.heap.size, 0, none⟩ 1 1 [.int .i64 a, .int .i64 b, .int .i64 c] rfl rfl (rec_news (by simp)) rec_cells (by unfold maxLen; omega) (by omega) (by simp; omega) ?_; intro v5 w5 hown5 hgrow5 _; have hS5 := OwnR.snoc (l := l) (by rw [HK.out]; exact hown5); have hG5 := grown_one (base := base) hgrow5 (fun q e => (HOB.out q e).1) (by simp; omega); obtain ⟨hq5, hsz5, hos5, htp5, hou5⟩ := hG5; have hE5 := (hq5 E hEb).trans (hand_E HE2.out (by omega)); have hL5 := (hq5 L hLb).trans ((hand_old (by omega) (by omega)).trans HL2.out); have cE5 := cell_of_one hE5; have fE5 := free_of_one hE5; have cL5 := cell_of_one hL5; have fL5 := free_of_one hL5; have hEl5 := lt_of_block hE5; have hLl5 := lt_of_block hL5; obtain ⟨g5, c5, rfl, hc5, hg5, hgl5, hrd5⟩ := OwnR.some1 hS5 HN.out (by omega); have RD5 := Lib.hid (RdR.apart hrd5 (a := ⟨L, 0, none⟩) (by show L ≠ g5; omega) (.slice (some ⟨g5, 0, none⟩) (k + 1) c5)); have HS5 := Lib.hid (row_apart (a := ⟨L, 0, none⟩) hS5 (fun e => by injection e with e; have e' : g5 = L := e; omega) (.slice (some ⟨g5, 0, none⟩) (k + 1) c5)); have HE5 := Lib.hid ((Below.heap_setCell w5 ⟨L, 0, none⟩ (.slice (some ⟨g5, 0, none⟩) (k + 1) c5) E hne).trans hE5); have HL5 := Lib.hid (show (w5.setCell ⟨L, 0, none⟩ (.slice (some ⟨g5, 0, none⟩) (k + 1) c5)).heap[L]? = some (.cells #[.slice (some ⟨g5, 0, none⟩) (k + 1) c5] 31 (0, 0)) from one_setCell hL5); have HQ5 := Lib.hid (And.intro hq5 (And.intro hsz5 (And.intro hos5 (And.intro htp5 hou5)))); clear hown5 hgrow5 hq5 hE5 hL5 hS5 hrd5 hsz5 hos5 htp5 hou5)
    | (go_at_call 31; (with_reducible refine (CLt _ _ _ RD5.out hc5).mono ?_); rintro e w7 ⟨rfl, hb7⟩; have hE7 := (hb7.block E (by simp; omega)).trans HE5.out; have hL7 := (hb7.block L (by simp; omega)).trans HL5.out; have cE7 := cell_of_one hE7; have fE7 := free_of_one hE7; have HE7 := Lib.hid hE7; have HL7 := Lib.hid hL7; have HS7 := Lib.hid (row_below HS5.out hb7); clear hE7 hL7))
  go_ret
  obtain ⟨hq5, hsz5, hos5, htp5, hou5⟩ := HQ5.out
  have hz7 := hb7.size
  have hsz5' : w2.heap.size + 1 ≤ w5.heap.size := by simpa using hsz5
  refine ⟨.slice (some ⟨g5, 0, none⟩) (k + 1) c5, rfl, one_setCell HE7.out, (Below.heap_setCell _ _ _ L (show L ≠ E from hEL)).trans HL7.out, row_apart (a := ⟨E, 0, none⟩) HS7.out (fun e => by injection e with e; have e' : g5 = E := e; omega) _, ⟨?_, hb7.os.trans (hos5.trans hb2.os), hb7.tape.trans (htp5.trans hb2.tape), hb7.output.trans (hou5.trans hb2.output), fun q h1 h2 h3 => ?_⟩⟩
  · simp at hz7 ⊢; omega
  · rw [Below.heap_setCell _ _ _ q (show q ≠ E from h2), hb7.block q (by simp; omega), Below.heap_setCell _ _ _ q (show q ≠ L from h3), hq5 q h1, hand_old (by omega) h2, hb2.block q (by simp; omega), Below.heap_alloc _ _ _ (by omega)]

set_option maxRecDepth 20000 in
set_option maxHeartbeats 1000000 in
theorem hand_bad (E L base : Nat) (v : Value) (l : List Rc) (s : ByteArray) (f : Int) (W : World) (hE : W.heap[E]? = some (.cells #[.int .i64 0] 25 (0, 0))) (hL : W.heap[L]? = some (.cells #[v] 31 (0, 0)))
    (ho : OwnR base W v l) (hEb : E < base) (hne : E ≠ L) (hbs : base ≤ W.heap.size) (hs : s.size ≤ 1000000) (hr : (readV s).2 = f) (hf : f ≠ 0) (hl : Laid6 W) :
    Calls Tryd.prog 30 #[.string s, .pointer (some ⟨E, 0, none⟩), .pointer (some ⟨L, 0, none⟩)] W fun e W' => e = .returned (.bool false) ∧
      W'.heap[E]? = some (.cells #[.int .i64 f] 25 (0, 0)) ∧ W'.heap[L]? = some (.cells #[v] 31 (0, 0)) ∧ OwnR base W' v l ∧ Keeps2 base E L W W' := by
  have cE := cell_of_one hE
  have fE := free_of_one hE
  have hEl := lt_of_block hE
  have hLl := lt_of_block hL
  have CR := fun W hl => read_any s W hl hs
  rw [hr] at CR
  generalize (readV s).1.1 = a at CR
  generalize (readV s).1.2.1 = b at CR
  generalize (readV s).1.2.2 = c at CR
  have hf' : (f == 0) = false := by simpa using hf
  have L0 : Laid6 (W.alloc (.cells #[.int .i64 0, .int .i64 0, .int .i64 0] 23)) := hl.below ((Below.refl _ _).alloc (Nat.le_refl _) _)
  have HE := Lib.hid hE
  have HL := Lib.hid hL
  have HO := Lib.hid ho
  have hob : ∀ q, v.ownBlock = some q → base ≤ q ∧ q < W.heap.size := fun q hq => World.ownsRow.lt ho q hq
  have HOB := Lib.hid hob
  have hWE : ¬ W.heap.size = E := by omega
  have hWL : ¬ W.heap.size = L := by omega
  have hEL : ¬ L = E := fun e => hne e.symm
  clear hE hL ho hr hl hf hob hs
  go_enter Tryd.func30, Tryd.ntmps30
  go_wp2_with (go_at_call 9; (with_reducible refine (CR _ L0).mono ?_); rintro e w2 ⟨rfl, hb2⟩; obtain ⟨hc2, hf2⟩ := bcell hb2; have hz2' := hb2.size; (try simp at hz2'); have hlt2 : W.heap.size < w2.heap.size := (by omega); have hE2 := ((hb2.block E (by simp; omega)).trans (Below.heap_alloc _ _ _ hEl)).trans HE.out; have hL2 := ((hb2.block L (by simp; omega)).trans (Below.heap_alloc _ _ _ hLl)).trans HL.out; have cE2 := cell_of_one hE2; have fE2 := free_of_one hE2; have HE2 := Lib.hid hE2; have HL2 := Lib.hid hL2; clear hE2 hL2)
  go_ret
  refine ⟨rfl, hand_E HE2.out (by omega), (hand_old (by omega) (by omega)).trans HL2.out, hand_row0 (R := W.heap.size) (E := E) (OwnR.below (HO.out.alloc _) hb2) (fun e => by have := (HOB.out _ e).2; omega) (fun e => by have := (HOB.out _ e).1; omega), ⟨?_, hb2.os, hb2.tape, hb2.output, fun q h1 h2 h3 => ?_⟩⟩
  · simp; omega
  · rw [hand_old (by omega) h2, hb2.block q (by simp; omega), Below.heap_alloc _ _ _ (by omega)]

end Go.Proofs.YtogcpoaclkomjaaDoor
