/- What follows of layer 11, and the function that readDay hands on, return. Conditions: as each theorem says. -/
import Derived.Test.YtgmcikajhnnaaaaRows
import Derived.Test.YtgmcikajhnnaaaaDiscTak
import Derived.Test.YtgmcikajhnnaaaaRecHeap
import Derived.WalkKit
import Derived.WalkSpells
import Derived.WalkSmall
import Derived.Below
import Derived.Lib.Hide
import Derived.Outline
import Derived.OwnWalk
import Derived.OneCell
import Derived.BigQuiet
import Derived.RegionTactic
import Derived.Deep.QuietTactic
namespace Go.Proofs.Ytgmcikajhnnaaaa
open Go.RowKit

theorem follows_nil (A : Option Addr) (c : Nat) (k x b s e : Int) (w : World) :
    Calls Try.prog 62 #[.slice A 0 c, .agg #[.int .i64 k, .int .i64 x, .int .i64 b], .agg #[.int .i64 s, .int .i64 e]] w fun r w' => r = .returned (.bool (x == s)) ∧ Below w.heap.size w w' := by
  go_enter Try.func62, Try.ntmps62
  go_wp2
  go_ret
  exact ⟨rfl, by (repeat (first | exact Below.refl _ _ | (refine b_st ?_ (by first | (simp; done) | (simp; omega))) | (refine b_al ?_ (Nat.le_refl _) _) | refine b_dn ?_ | refine b_dr ?_ | (refine b_cl ?_ (Nat.le_refl _) (by assumption))))⟩

/-- Whether a change may stand behind the last one. -/
def folV (l : List Rc) (k x s e : Int) : Bool :=
  match l.getLast? with
  | none => x == s
  | some (k0, x0, _) => decide (x0 < x) && (decide (x < e) && k0 != k)

theorem fol_snoc (o : List Rc) (k0 x0 y0 k x s e : Int) : folV (o ++ [(k0, x0, y0)]) k x s e = (decide (x0 < x) && (decide (x < e) && k0 != k)) := by
  unfold folV
  simp

set_option maxRecDepth 20000 in
theorem follows_snoc (A : Option Addr) (c n j : Nat) (o : List Rc) (k0 x0 y0 k x b s e : Int) (w : World) (hr : RdR w A (o ++ [(k0, x0, y0)])) (hn : o.length = j) (hnj : n = j + 1) (hl : n ≤ 1000000) :
    Calls Try.prog 62 #[.slice A n c, .agg #[.int .i64 k, .int .i64 x, .int .i64 b], .agg #[.int .i64 s, .int .i64 e]] w fun r w' => r = .returned (.bool (decide (x0 < x) && (decide (x < e) && k0 != k))) ∧ Below w.heap.size w w' := by
  obtain ⟨bl, off, a1, a2, a3, rfl, hbb, hc0, hc1, hc2, hs⟩ := hr.at_ (k := j) (by simp; omega)
  have hse := hs.out
  rw [← hn] at hse
  simp at hse
  obtain ⟨rfl, rfl, rfl⟩ := hse
  have hn1 : (n : Int) - 1 = (j : Int) := by omega
  have hjn : j < n := by omega
  have hjn2 : (j : Int) < (n : Int) := by omega
  have hne : ((n : Int) == 0) = false := by simp; omega
  clear hs hr hn hnj
  by_cases c1 : x0 < x
  · by_cases c2 : x < e
    · by_cases c3 : k0 = k
      · subst c3
        have e1 : (k0 == k0) = true := by simp
        have e2 : (k0 != k0) = false := by simp
        rw [decide_eq_true c1, decide_eq_true c2, e2]
        go_enter Try.func62, Try.ntmps62
        go_wp2
        go_ret
        exact ⟨rfl, by (repeat (first | exact Below.refl _ _ | (refine b_st ?_ (by first | (simp; done) | (simp; omega))) | (refine b_al ?_ (Nat.le_refl _) _) | refine b_dn ?_ | refine b_dr ?_ | (refine b_cl ?_ (Nat.le_refl _) (by assumption))))⟩
      · have e1 : (k0 == k) = false := by simpa using c3
        have e2 : (k0 != k) = true := by simpa using c3
        rw [decide_eq_true c1, decide_eq_true c2, e2]
        clear c3
        go_enter Try.func62, Try.ntmps62
        go_wp2
        go_ret
        exact ⟨rfl, by (repeat (first | exact Below.refl _ _ | (refine b_st ?_ (by first | (simp; done) | (simp; omega))) | (refine b_al ?_ (Nat.le_refl _) _) | refine b_dn ?_ | refine b_dr ?_ | (refine b_cl ?_ (Nat.le_refl _) (by assumption))))⟩
    · have c2' : e ≤ x := by omega
      rw [decide_eq_true c1, decide_eq_false c2]
      clear c2
      go_enter Try.func62, Try.ntmps62
      go_wp2
      go_ret
      exact ⟨rfl, by (repeat (first | exact Below.refl _ _ | (refine b_st ?_ (by first | (simp; done) | (simp; omega))) | (refine b_al ?_ (Nat.le_refl _) _) | refine b_dn ?_ | refine b_dr ?_ | (refine b_cl ?_ (Nat.le_refl _) (by assumption))))⟩
  · have c1' : x ≤ x0 := by omega
    rw [decide_eq_false c1]
    clear c1
    go_enter Try.func62, Try.ntmps62
    go_wp2
    go_ret
    exact ⟨rfl, by (repeat (first | exact Below.refl _ _ | (refine b_st ?_ (by first | (simp; done) | (simp; omega))) | (refine b_al ?_ (Nat.le_refl _) _) | refine b_dn ?_ | refine b_dr ?_ | (refine b_cl ?_ (Nat.le_refl _) (by assumption))))⟩

/-- What lies below base lies as it lay, but for one block; nothing else is turned. -/
structure KL (base L : Nat) (W W' : World) : Prop where
  size : W.heap.size ≤ W'.heap.size
  os : W'.os = W.os
  tape : W'.tape = W.tape
  output : W'.output = W.output
  block : ∀ q, q < base → q ≠ L → W'.heap[q]? = W.heap[q]?

theorem KL.refl (base L : Nat) (W : World) : KL base L W W := ⟨Nat.le_refl _, rfl, rfl, rfl, fun _ _ _ => rfl⟩
theorem KL.trans {base L : Nat} {u v w : World} (h : KL base L u v) (k : KL base L v w) : KL base L u w :=
  ⟨Nat.le_trans h.size k.size, k.os.trans h.os, k.tape.trans h.tape, k.output.trans h.output, fun q h1 h2 => (k.block q h1 h2).trans (h.block q h1 h2)⟩
theorem KL.of {base L : Nat} {u w : World} (h : Below u.heap.size u w) (hb : base ≤ u.heap.size) : KL base L u w := ⟨h.size, h.os, h.tape, h.output, fun q h1 _ => h.block q (by omega)⟩
theorem KL.cl {base L : Nat} {u v w : World} (h : KL base L u v) (k : Below v.heap.size v w) (hb : base ≤ u.heap.size) : KL base L u w := h.trans (KL.of k (Nat.le_trans hb h.size))
theorem KL.alloc {base L : Nat} {u w : World} (h : KL base L u w) (hb : base ≤ u.heap.size) (o : Obj) : KL base L u (w.alloc o) := h.cl ((Below.refl _ _).alloc (Nat.le_refl _) o) hb
theorem KL.high {base L : Nat} {u w : World} (h : KL base L u w) {a : Addr} (ha : base ≤ a.block) (v : Value) : KL base L u (w.setCell a v) :=
  h.trans ⟨by simp, rfl, rfl, rfl, fun q h1 _ => Below.heap_setCell w a v q (by omega)⟩
theorem KL.set {base L : Nat} {u w : World} (h : KL base L u w) {a : Addr} (ha : a.block = L) (v : Value) : KL base L u (w.setCell a v) :=
  h.trans ⟨by simp, rfl, rfl, rfl, fun q _ h2 => Below.heap_setCell w a v q (by rw [ha]; exact h2)⟩
theorem KL.grown {base L : Nat} {u w w5 : World} {row : Option Nat} (h : KL base L u w) (hg : w.grownBy w5 row) (hrow : ∀ k, row = some k → base ≤ k) (hb : base ≤ u.heap.size) : KL base L u w5 :=
  h.trans ⟨hg.size, hg.os, hg.tape, hg.output, fun q h1 _ => hg.block q (Nat.lt_of_lt_of_le h1 (Nat.le_trans hb h.size)) (fun e => by have := hrow q e.symm; omega)⟩
theorem KL.at_ {base L q : Nat} {W W' : World} {o : Obj} (k : KL base L W W') (h : W.heap[q]? = some o) (h1 : q < base) (h2 : q ≠ L) : W'.heap[q]? = some o := by rw [k.block q h1 h2]; exact h

/-- How the function's variables stand: the day's begin, the day, the records. -/
structure DayS (G D L base : Nat) (B0 s e : Int) (v : Value) (l : List Rc) (W : World) : Prop where
  fg : W.heap[G]? = some (.cells #[.int .i64 B0] 3 (0, 0))
  fd : W.heap[D]? = some (.cells #[.int .i64 s, .int .i64 e] 45 (0, 0))
  fl : W.heap[L]? = some (.cells #[v] 29 (0, 0))
  own : OwnR base W v l
  gb : G < base
  db : D < base
  lb : L < base
  gl : G ≠ L
  dl : D ≠ L
  big : base ≤ W.heap.size

theorem row_other {base sz n : Nat} {e : TypeId} {w : World} {v : Value} {cs : List Value} (h : w.ownsRow base e sz v n cs) {a : Addr} (ha : a.block < base) (u : Value) : (w.setCell a u).ownsRow base e sz v n cs := by
  refine ⟨h.1, ?_⟩
  rcases h.2 with h2 | ⟨g, cap, cur, hv, hg, hh, r⟩
  · exact Or.inl h2
  · refine Or.inr ⟨g, cap, cur, hv, hg, ?_, r⟩
    rw [Below.heap_setCell w a u g (by omega)]
    exact hh

theorem DayS.below {G D L base : Nat} {B0 s e : Int} {v : Value} {l : List Rc} {W W' : World} (h : DayS G D L base B0 s e v l W) (hb : Below W.heap.size W W') : DayS G D L base B0 s e v l W' := by
  have h1 := h.gb
  have h2 := h.db
  have h3 := h.lb
  have h4 := h.big
  exact ⟨(hb.block G (by omega)).trans h.fg, (hb.block D (by omega)).trans h.fd, (hb.block L (by omega)).trans h.fl, OwnR.below h.own hb, h1, h2, h3, h.gl, h.dl, Nat.le_trans h4 hb.size⟩

theorem cell_heap2 {w : World} {b k : Nat} {cs : Array Value} {t : TypeId} {v : Value} (h : w.heap[b]? = some (.cells cs t (0, 0))) (hk : cs[k]? = some v) : w.cell? ⟨b, k, none⟩ = some v ∧ w.frozen? ⟨b, k, none⟩ = false := by
  constructor
  · simp [World.cell?, h, hk]
  · simp [World.frozen?, h]

theorem DayS.cells {G D L base : Nat} {B0 s e : Int} {v : Value} {l : List Rc} {W : World} (h : DayS G D L base B0 s e v l W) :
    W.cell? ⟨G, 0, none⟩ = some (.int .i64 B0) ∧ W.cell? ⟨D, 0, none⟩ = some (.int .i64 s) ∧ W.cell? ⟨D, 1, none⟩ = some (.int .i64 e) ∧ W.cell? ⟨L, 0, none⟩ = some v ∧ W.frozen? ⟨L, 0, none⟩ = false :=
  ⟨(cell_heap2 (k := 0) (v := .int .i64 B0) h.fg rfl).1, (cell_heap2 (k := 0) (v := .int .i64 s) h.fd rfl).1, (cell_heap2 (k := 1) (v := .int .i64 e) h.fd rfl).1, (cell_heap2 (k := 0) (v := v) h.fl rfl).1, (cell_heap2 (k := 0) (v := v) h.fl rfl).2⟩

theorem KL.dayS {G D L base : Nat} {B0 s e : Int} {v v' : Value} {l l' : List Rc} {W W' : World} (h : DayS G D L base B0 s e v l W) (k : KL base L W W') (hl : W'.heap[L]? = some (.cells #[v'] 29 (0, 0))) (ho : OwnR base W' v' l') : DayS G D L base B0 s e v' l' W' :=
  ⟨k.at_ h.fg h.gb h.gl, k.at_ h.fd h.db h.dl, hl, ho, h.gb, h.db, h.lb, h.gl, h.dl, Nat.le_trans h.big k.size⟩

theorem grown_at {w w5 : World} {row : Option Nat} {base q : Nat} {o : Obj} (hg : w.grownBy w5 row) (hrow : ∀ k, row = some k → base ≤ k) (hq : q < base) (h : w.heap[q]? = some o) : w5.heap[q]? = some o := by
  have hl : q < w.heap.size := (Array.getElem?_eq_some_iff.1 h).1
  rw [hg.block q hl (fun e => by have := hrow q e.symm; omega)]
  exact h

theorem alloc_at {w : World} {q : Nat} {o : Obj} (h : w.heap[q]? = some o) (o2 : Obj) : (w.alloc o2).heap[q]? = some o := by
  have hl : q < w.heap.size := (Array.getElem?_eq_some_iff.1 h).1
  rw [Below.heap_alloc _ _ _ hl]; exact h

theorem set_L {L : Nat} {v u : Value} {w : World} (h : w.heap[L]? = some (.cells #[v] 29 (0, 0))) : (w.setCell ⟨L, 0, none⟩ u).heap[L]? = some (.cells #[u] 29 (0, 0)) := one_setCell h

theorem snoc_own {base n : Nat} {w : World} {v : Value} {l : List Rc} {k x y : Int} (hn : l.length = n) (h : w.ownsRow base 73 3 v (n + 1) (flatR l ++ [.int .i64 k, .int .i64 x, .int .i64 y])) : OwnR base w v (l ++ [(k, x, y)]) := by
  subst hn; exact OwnR.snoc h

set_option maxRecDepth 20000 in
set_option maxHeartbeats 2000000 in
theorem hand11_nil (G D L base : Nat) (B0 s e k m x : Int) (v : Value) (W : World) (h : DayS G D L base B0 s e v [] W) (hx : B0 + m = x) (hm : 0 ≤ m ∧ m < 2048) (hB : 0 ≤ B0 ∧ B0 ≤ 40320) (hxs : x = s) :
    Calls Try.prog 61 #[.int .i64 k, .int .i64 m, .pointer (some ⟨G, 0, none⟩), .pointer (some ⟨D, 0, none⟩), .pointer (some ⟨L, 0, none⟩)] W fun r W' => ∃ v', r = .returned (.bool true) ∧ DayS G D L base B0 s e v' [(k, x, e)] W' ∧ KL base L W W' := by
  obtain ⟨i0, hi, hz0, hz1, hz2⟩ := info_parts info_rec
  obtain ⟨m0, m1⟩ := hm
  obtain ⟨b0, b1⟩ := hB
  obtain ⟨qg0, qd0, qd1, ql0, qlf⟩ := DayS.cells h
  have hbig := h.big
  have hgb := h.gb
  have hdb := h.db
  have hlb := h.lb
  obtain ⟨A, c, rfl, _, _⟩ := h.own.read
  simp only [List.length_nil] at *
  have FC := fun A c W => follows_nil A c k x e s e W
  rw [show (x == s) = true by simpa using hxs] at FC
  have H1 := Lib.hid (h.below ((Below.refl _ _).alloc (Nat.le_refl _) (.cells #[.int .i64 k, .int .i64 x, .int .i64 e] 73)))
  have HH := Lib.hid h
  obtain ⟨rg0, rd0, rd1, rl0, rlf⟩ := DayS.cells H1.out
  clear h hxs
  go_enter Try.func61, Try.ntmps61
  go_wp2_with (first
    | (go_at_call 62; (with_reducible refine (FC _ _ _).mono ?_); rintro e2 w2 ⟨rfl, hb2⟩; have H2 := Lib.hid (H1.out.below hb2); have hz2' := hb2.size; (try simp at hz2'); have x0 : w2.cell? ⟨W.heap.size, 0, none⟩ = some (.int .i64 k) := (c_cl (by simp) hb2); have x1 : w2.cell? ⟨W.heap.size, 1, none⟩ = some (.int .i64 x) := (c_cl (by simp) hb2); have x2 : w2.cell? ⟨W.heap.size, 2, none⟩ = some (.int .i64 e) := (c_cl (by simp) hb2); have K2 := Lib.hid (((KL.refl base L W).alloc hbig (.cells #[.int .i64 k, .int .i64 x, .int .i64 e] 73)).cl hb2 hbig); obtain ⟨pg0, pd0, pd1, pl0, plf⟩ := DayS.cells H2.out; have HO4 := Lib.hid (show (w2.alloc (.cells #[.int .i64 k, .int .i64 x, .int .i64 e] 73)).ownsRow base 73 3 (.slice A 0 c) 0 (flatR []) from H2.out.own.alloc _); have K4 := Lib.hid (K2.out.alloc hbig (.cells #[.int .i64 k, .int .i64 x, .int .i64 e] 73)); have HL4 := Lib.hid ((H2.out.below ((Below.refl _ _).alloc (Nat.le_refl _) (.cells #[.int .i64 k, .int .i64 x, .int .i64 e] 73))).fl); clear hb2)
    | (at_builtin; refine wpList_append_own _ rfl _ _ 29 rfl base 73 i0 (.agg #[.int .i64 0, .int .i64 0, .int .i64 0]) 3 24 Try.underlying29 hi hz0 hz1 hz2 rfl (by decide) _ 0 _ rfl HO4.out ⟨w2.heap.size, 0, none⟩ 1 1 [.int .i64 k, .int .i64 x, .int .i64 e] rfl rfl (rec_news (by simp)) rec_cells (by unfold maxLen; omega) (by omega) (by simp; omega) ?_; intro v5 w5 hown5 hgrow5 _; have HS5 := Lib.hid (snoc_own (l := []) rfl hown5); have K5 := Lib.hid (K4.out.grown hgrow5 (fun q e => (World.ownsRow.lt HO4.out q e).1) hbig); have HL5 := Lib.hid (grown_at hgrow5 (fun q e => (World.ownsRow.lt HO4.out q e).1) hlb HL4.out); have cl5 := (cell_heap2 (k := 0) (v := .slice A 0 c) HL5.out rfl).1; have fl5 := (cell_heap2 (k := 0) (v := .slice A 0 c) HL5.out rfl).2; clear hown5 hgrow5; obtain ⟨A5, c5, hv5, _, _⟩ := HS5.out.read; obtain ⟨n5, hn5⟩ : ∃ n5, ([] ++ [(k, x, e)]).length = n5 := ⟨_, rfl⟩; rw [hn5] at hv5; subst hv5; clear hn5))
  go_ret
  exact ⟨_, rfl, KL.dayS HH.out (K5.out.set rfl _) (set_L HL5.out) (row_other HS5.out hlb _), K5.out.set rfl _⟩

theorem last_cell {base n c g : Nat} {w : World} {o : List Rc} {k0 x0 y0 : Int} (h : OwnR base w (.slice (some ⟨g, 0, none⟩) n c) (o ++ [(k0, x0, y0)])) :
    w.cell? ⟨g, o.length * 3 + 2, none⟩ = some (.int .i64 y0) ∧ w.frozen? ⟨g, o.length * 3 + 2, none⟩ = false := by
  obtain ⟨b, off, a1, a2, a3, hA, _, _, _, hc2, hs⟩ := h.rd.at_ (k := o.length) (by simp)
  injection hA with hA
  injection hA with h1 h2
  subst h1 h2
  have hse := hs.out
  simp at hse
  rw [Nat.zero_add] at hc2
  refine ⟨?_, h.some_.2.2 _⟩
  rw [hc2, hse.2.2]

theorem follows_any (A : Option Addr) (c : Nat) (l : List Rc) (k x b s e : Int) (w : World) (hr : RdR w A l) (hl : l.length ≤ 1000000) :
    Calls Try.prog 62 #[.slice A l.length c, .agg #[.int .i64 k, .int .i64 x, .int .i64 b], .agg #[.int .i64 s, .int .i64 e]] w fun r w' => r = .returned (.bool (folV l k x s e)) ∧ Below w.heap.size w w' := by
  rcases List.eq_nil_or_concat l with rfl | ⟨o, ⟨k0, x0, y0⟩, rfl⟩
  · exact follows_nil A c k x b s e w
  · simp only [List.concat_eq_append] at *
    rw [fol_snoc]
    exact follows_snoc A c _ o.length o k0 x0 y0 k x b s e w hr rfl (by simp) hl

set_option maxRecDepth 20000 in
set_option maxHeartbeats 2000000 in
theorem hand11_snoc (G D L base : Nat) (B0 s e k m x : Int) (v : Value) (o : List Rc) (k0 x0 y0 : Int) (W : World) (h : DayS G D L base B0 s e v (o ++ [(k0, x0, y0)]) W) (hx : B0 + m = x) (hm : 0 ≤ m ∧ m < 2048) (hB : 0 ≤ B0 ∧ B0 ≤ 40320) (hol : o.length ≤ 10000) (h1 : x0 < x) (h2 : x < e) (h3 : k0 ≠ k) :
    Calls Try.prog 61 #[.int .i64 k, .int .i64 m, .pointer (some ⟨G, 0, none⟩), .pointer (some ⟨D, 0, none⟩), .pointer (some ⟨L, 0, none⟩)] W fun r W' => ∃ v', r = .returned (.bool true) ∧ DayS G D L base B0 s e v' (o ++ [(k0, x0, x)] ++ [(k, x, e)]) W' ∧ KL base L W W' := by
  obtain ⟨i0, hi, hz0, hz1, hz2⟩ := info_parts info_rec
  obtain ⟨m0, m1⟩ := hm
  obtain ⟨b0, b1⟩ := hB
  obtain ⟨A, c, hv, hrd, _⟩ := h.own.read
  obtain ⟨n, hn⟩ : ∃ n, (o ++ [(k0, x0, y0)]).length = n := ⟨_, rfl⟩
  obtain ⟨j, hj⟩ : ∃ j, o.length = j := ⟨_, rfl⟩
  have hnj : n = j + 1 := by rw [← hn, List.length_append, hj]; rfl
  obtain ⟨g, off, a1, a2, a3, rfl, hgl, _, _, _, _⟩ := hrd.at_ (k := j) (by rw [hn]; omega)
  rw [hn] at hv
  subst hv
  obtain ⟨rfl, hgb2, _⟩ := h.own.some_
  obtain ⟨qg0, qd0, qd1, ql0, qlf⟩ := DayS.cells h
  have hbig := h.big
  have hgb := h.gb
  have hdb := h.db
  have hlb := h.lb
  have FC := fun W (hr : RdR W (some ⟨g, 0, none⟩) (o ++ [(k0, x0, y0)])) => follows_snoc (some ⟨g, 0, none⟩) c n j o k0 x0 y0 k x e s e W hr hj hnj (by omega)
  rw [decide_eq_true h1, decide_eq_true h2, show (k0 != k) = true by simpa using h3] at FC
  have H1 := Lib.hid (h.below ((Below.refl _ _).alloc (Nat.le_refl _) (.cells #[.int .i64 k, .int .i64 x, .int .i64 e] 73)))
  have HH := Lib.hid h
  obtain ⟨rg0, rd0, rd1, rl0, rlf⟩ := DayS.cells H1.out
  have hn1 : (n : Int) - 1 = (j : Int) := by omega
  have hjn : j < n := by omega
  have hjn2 : (j : Int) < (n : Int) := by omega
  have hnp : (0 : Int) < (n : Int) := by omega
  have hn0 : 0 < n := by omega
  have hjb : j ≤ 10000 := by omega
  have hnb : n ≤ 10001 := by omega
  have hgW : ¬ g = W.heap.size := by omega
  have hgL : ¬ g = L := by omega
  have hLg : ¬ L = g := by omega
  have HJ := Lib.hid hj
  have HN := Lib.hid (show (o ++ [(k0, x0, x)]).length = n by rw [List.length_append, hj, hnj]; rfl)
  have hnl : (o ++ [(k0, x0, x)]).length ≤ 10001 := by rw [List.length_append]; simp; omega
  clear h h1 h2 h3 hrd hj hn hnj hol
  go_enter Try.func61, Try.ntmps61
  go_wp2_with (first
    | (go_at_call 62; (with_reducible refine (FC _ H1.out.own.rd).mono ?_); rintro e2 w2 ⟨rfl, hb2⟩; have H2 := Lib.hid (H1.out.below hb2); have hz2' := hb2.size; (try simp at hz2'); have y0_ : w2.cell? ⟨W.heap.size, 0, none⟩ = some (.int .i64 k) := (c_cl (by simp) hb2); have y1_ : w2.cell? ⟨W.heap.size, 1, none⟩ = some (.int .i64 x) := (c_cl (by simp) hb2); have y2_ : w2.cell? ⟨W.heap.size, 2, none⟩ = some (.int .i64 e) := (c_cl (by simp) hb2); have K2 := Lib.hid (((KL.refl base L W).alloc hbig (.cells #[.int .i64 k, .int .i64 x, .int .i64 e] 73)).cl hb2 hbig); obtain ⟨pg0, pd0, pd1, pl0, plf⟩ := DayS.cells H2.out; have hlc := last_cell H2.out.own; rw [HJ.out] at hlc; obtain ⟨tc, tf⟩ := hlc; have hst := OwnR.stored (z := x) H2.out.own (by rw [HJ.out]; omega); rw [HJ.out] at hst; have HO3 := Lib.hid hst; have HO4 := Lib.hid (show ((w2.setCell ⟨g, j * 3 + 2, none⟩ (.int .i64 x)).alloc (.cells #[.int .i64 k, .int .i64 x, .int .i64 e] 73)).ownsRow base 73 3 (.slice (some ⟨g, 0, none⟩) n c) n (flatR (o ++ [(k0, x0, x)])) from by have := OwnR.alloc hst (.cells #[.int .i64 k, .int .i64 x, .int .i64 e] 73); unfold OwnR at this; rw [HN.out] at this; exact this); have K4 := Lib.hid ((K2.out.high (a := ⟨g, j * 3 + 2, none⟩) hgb2 (.int .i64 x)).alloc hbig (.cells #[.int .i64 k, .int .i64 x, .int .i64 e] 73)); have HL3 := Lib.hid ((Below.heap_setCell w2 ⟨g, j * 3 + 2, none⟩ (.int .i64 x) L hLg).trans H2.out.fl); have HL4 := Lib.hid (alloc_at HL3.out (.cells #[.int .i64 k, .int .i64 x, .int .i64 e] 73)); have s0 : (w2.setCell ⟨g, j * 3 + 2, none⟩ (.int .i64 x)).cell? ⟨L, 0, none⟩ = some (.slice (some ⟨g, 0, none⟩) n c) := ((cell_heap2 (k := 0) (v := .slice (some ⟨g, 0, none⟩) n c) HL3.out rfl).1); have s1_ : (w2.setCell ⟨g, j * 3 + 2, none⟩ (.int .i64 x)).cell? ⟨W.heap.size, 0, none⟩ = some (.int .i64 k) := (by rw [World.cell?_setCell_other _ _ _ _ (by first | (simp; done) | (simp; omega))]; exact y0_); have s2_ : (w2.setCell ⟨g, j * 3 + 2, none⟩ (.int .i64 x)).cell? ⟨W.heap.size, 1, none⟩ = some (.int .i64 x) := (by rw [World.cell?_setCell_other _ _ _ _ (by first | (simp; done) | (simp; omega))]; exact y1_); have s3_ : (w2.setCell ⟨g, j * 3 + 2, none⟩ (.int .i64 x)).cell? ⟨W.heap.size, 2, none⟩ = some (.int .i64 e) := (by rw [World.cell?_setCell_other _ _ _ _ (by first | (simp; done) | (simp; omega))]; exact y2_); clear hb2 hst)
    | (at_builtin; refine wpList_append_own _ rfl _ _ 29 rfl base 73 i0 (.agg #[.int .i64 0, .int .i64 0, .int .i64 0]) 3 24 Try.underlying29 hi hz0 hz1 hz2 rfl (by decide) _ n _ rfl HO4.out ⟨w2.heap.size, 0, none⟩ 1 1 [.int .i64 k, .int .i64 x, .int .i64 e] rfl rfl (rec_news (by simp)) rec_cells (by unfold maxLen; omega) (by omega) (by simp; omega) ?_; intro v5 w5 hown5 hgrow5 _; have HS5 := Lib.hid (snoc_own (l := o ++ [(k0, x0, x)]) HN.out hown5); have K5 := Lib.hid (K4.out.grown hgrow5 (fun q e => (World.ownsRow.lt HO4.out q e).1) hbig); have HL5 := Lib.hid (grown_at hgrow5 (fun q e => (World.ownsRow.lt HO4.out q e).1) hlb HL4.out); have cl5 := (cell_heap2 (k := 0) (v := .slice (some ⟨g, 0, none⟩) n c) HL5.out rfl).1; have fl5 := (cell_heap2 (k := 0) (v := .slice (some ⟨g, 0, none⟩) n c) HL5.out rfl).2; clear hown5 hgrow5; obtain ⟨A5, c5, hv5, _, _⟩ := HS5.out.read; obtain ⟨n5, hn5⟩ : ∃ n5, (o ++ [(k0, x0, x)] ++ [(k, x, e)]).length = n5 := ⟨_, rfl⟩; rw [hn5] at hv5; subst hv5; clear hn5))
  go_ret
  exact ⟨_, rfl, KL.dayS HH.out (K5.out.set rfl _) (set_L HL5.out) (row_other HS5.out hlb _), K5.out.set rfl _⟩

set_option maxRecDepth 20000 in
theorem hand11_no (G D L base : Nat) (B0 s e k m x : Int) (v : Value) (l : List Rc) (W : World) (h : DayS G D L base B0 s e v l W) (hx : B0 + m = x) (hm : 0 ≤ m ∧ m < 2048) (hB : 0 ≤ B0 ∧ B0 ≤ 40320) (hl : l.length ≤ 10000) (hf : folV l k x s e = false) :
    Calls Try.prog 61 #[.int .i64 k, .int .i64 m, .pointer (some ⟨G, 0, none⟩), .pointer (some ⟨D, 0, none⟩), .pointer (some ⟨L, 0, none⟩)] W fun r W' => r = .returned (.bool false) ∧ DayS G D L base B0 s e v l W' ∧ KL base L W W' := by
  obtain ⟨m0, m1⟩ := hm
  obtain ⟨b0, b1⟩ := hB
  obtain ⟨A, c, rfl, _, _⟩ := h.own.read
  obtain ⟨qg0, qd0, qd1, ql0, qlf⟩ := DayS.cells h
  have hbig := h.big
  have FC := fun W (hr : RdR W A l) => follows_any A c l k x e s e W hr (by omega)
  rw [hf] at FC
  have H1 := Lib.hid (h.below ((Below.refl _ _).alloc (Nat.le_refl _) (.cells #[.int .i64 k, .int .i64 x, .int .i64 e] 73)))
  obtain ⟨rg0, rd0, rd1, rl0, rlf⟩ := DayS.cells H1.out
  clear h hf
  go_enter Try.func61, Try.ntmps61
  go_wp2_with (go_at_call 62; (with_reducible refine (FC _ H1.out.own.rd).mono ?_); rintro e2 w2 ⟨rfl, hb2⟩; have K2 := Lib.hid (((KL.refl base L W).alloc hbig (.cells #[.int .i64 k, .int .i64 x, .int .i64 e] 73)).cl hb2 hbig); have H2 := Lib.hid (H1.out.below hb2); clear hb2)
  go_ret
  exact ⟨rfl, H2.out, K2.out⟩

/-- The function, a change further on. -/
theorem hand11_any (G D L base : Nat) (B0 s e n : Int) (v : Value) (l : List Rc) (W : World) (h : DayS G D L base B0 s e v l W) (hB : B0 = s - s % 1440) (hs : 0 ≤ s ∧ s ≤ 40320) (hn : toldOk n) (hl : l.length ≤ 10000) :
    Calls Try.prog 61 #[.int .i64 (n / 2048), .int .i64 (n % 2048), .pointer (some ⟨G, 0, none⟩), .pointer (some ⟨D, 0, none⟩), .pointer (some ⟨L, 0, none⟩)] W fun r W' =>
      KL base L W W' ∧ (∀ l', stepV s e l n = some l' → ∃ v', r = .returned (.bool true) ∧ DayS G D L base B0 s e v' l' W') ∧ (stepV s e l n = none → r = .returned (.bool false) ∧ DayS G D L base B0 s e v l W') := by
  have hn' := hn
  unfold toldOk at hn'
  rcases List.eq_nil_or_concat l with rfl | ⟨o, ⟨k0, x0, y0⟩, rfl⟩
  · rw [step_nil hn, ← hB]
    by_cases hc : B0 + n % 2048 = s
    · rw [if_pos hc]
      refine (hand11_nil G D L base B0 s e (n / 2048) (n % 2048) (B0 + n % 2048) v W h rfl (by omega) (by omega) hc).mono fun r W' ⟨v', hr, hd, hk⟩ => ⟨hk, fun l' hl' => ?_, fun hno => by cases hno⟩
      injection hl' with hl'
      subst hl'
      exact ⟨v', hr, hd⟩
    · rw [if_neg hc]
      refine (hand11_no G D L base B0 s e (n / 2048) (n % 2048) (B0 + n % 2048) v [] W h rfl (by omega) (by omega) (by simp) (by unfold folV; simpa using hc)).mono fun r W' ⟨hr, hd, hk⟩ => ⟨hk, fun l' hl' => (by cases hl'), fun _ => ⟨hr, hd⟩⟩
  · simp only [List.concat_eq_append] at *
    rw [step_snoc hn, ← hB]
    have hol : o.length ≤ 10000 := by rw [List.length_append] at hl; simp at hl; omega
    by_cases hc : x0 < B0 + n % 2048 ∧ B0 + n % 2048 < e ∧ k0 ≠ n / 2048
    · rw [if_pos hc]
      refine (hand11_snoc G D L base B0 s e (n / 2048) (n % 2048) (B0 + n % 2048) v o k0 x0 y0 W h rfl (by omega) (by omega) hol hc.1 hc.2.1 hc.2.2).mono fun r W' ⟨v', hr, hd, hk⟩ => ⟨hk, fun l' hl' => ?_, fun hno => by cases hno⟩
      injection hl' with hl'
      subst hl'
      exact ⟨v', hr, hd⟩
    · rw [if_neg hc]
      refine (hand11_no G D L base B0 s e (n / 2048) (n % 2048) (B0 + n % 2048) v _ W h rfl (by omega) (by omega) hl ?_).mono fun r W' ⟨hr, hd, hk⟩ => ⟨hk, fun l' hl' => (by cases hl'), fun _ => ⟨hr, hd⟩⟩
      rw [fol_snoc]
      by_cases c1 : x0 < B0 + n % 2048
      · by_cases c2 : B0 + n % 2048 < e
        · have c3 : k0 = n / 2048 := by
            rcases Decidable.em (k0 = n / 2048) with h | h
            · exact h
            · exact absurd ⟨c1, c2, h⟩ hc
          simp [c3]
        · simp [c2]
      · simp [c1]

end Go.Proofs.Ytgmcikajhnnaaaa
