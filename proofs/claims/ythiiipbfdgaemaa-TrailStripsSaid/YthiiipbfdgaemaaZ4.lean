/- Plain facts, several texts in one: TrailKeep, TrailRun. Conditions: none beyond each lemma's own premises. -/
import Derived.Test.YthiiipbfdgaemaaZ2
import Derived.Test.YthiiipbfdgaemaaErrandOverC
import Derived.WalkKit

/- What a call leaves that a timeline's pieces are handed to: some of its own cells are written, all else lies as it lay. Conditions: none beyond each lemma's own premises. -/
namespace Go.Proofs.Ythiiipbfdgaemaa
open Go.RowKit

/-- A type of which follow itself holds blocks. -/
def Held (t : TypeId) : Prop := t = 24 ∨ t = 59 ∨ t = 68

/-- What lies below n, and each block of those types, lies as it lay; nothing else is turned but memory. -/
structure KeepT (n : Nat) (W W' : World) : Prop where
  bel : Below n W W'
  box : ∀ g t cs, Bx W g t cs → Held t → Bx W' g t cs

theorem KeepT.refl (n : Nat) (W : World) : KeepT n W W := ⟨Below.refl _ _, fun _ _ _ h _ => h⟩
theorem KeepT.trans {n : Nat} {A B C : World} (h : KeepT n A B) (k : KeepT n B C) : KeepT n A C := ⟨h.bel.trans k.bel, fun g t cs b ht => k.box g t cs (h.box g t cs b ht) ht⟩
theorem KeepT.of_below {n : Nat} {A B : World} (h : Below A.heap.size A B) (hn : n ≤ A.heap.size) : KeepT n A B := ⟨h.mono hn, fun _ _ _ b _ => b.below h⟩

/-- All that lay lies as it lay, but for two blocks, and for rows of one type above base; nothing else is turned. -/
structure KpT (T : TypeId) (base E L : Nat) (W W' : World) : Prop where
  size : W.heap.size ≤ W'.heap.size
  os : W'.os = W.os
  tape : W'.tape = W.tape
  output : W'.output = W.output
  block : ∀ q, q < W.heap.size → q ≠ E → q ≠ L → (q < base ∨ ∀ cs z, W.heap[q]? ≠ some (.cells cs T z)) → W'.heap[q]? = W.heap[q]?

theorem KpT.refl (T : TypeId) (base E L : Nat) (W : World) : KpT T base E L W W := ⟨Nat.le_refl _, rfl, rfl, rfl, fun _ _ _ _ _ => rfl⟩
theorem KpT.trans {T : TypeId} {base E L : Nat} {A B C : World} (h : KpT T base E L A B) (k : KpT T base E L B C) : KpT T base E L A C :=
  ⟨Nat.le_trans h.size k.size, k.os.trans h.os, k.tape.trans h.tape, k.output.trans h.output, fun q a b c d => by
    have e := h.block q a b c d
    rw [← e]
    exact k.block q (Nat.lt_of_lt_of_le a h.size) b c (d.imp id fun d cs z => by rw [e]; exact d cs z)⟩
theorem KpT.of_below {T : TypeId} {base E L n : Nat} {A B : World} (h : Below n A B) (hn : n = A.heap.size) : KpT T base E L A B :=
  ⟨h.size, h.os, h.tape, h.output, fun q a _ _ _ => h.block q (by omega)⟩
theorem KpT.upd {T : TypeId} {base E L g : Nat} {t : TypeId} {cs : Array Value} {A B C : World} (h : KpT T base E L A B) (u : Upd B g t cs C) (hg : g = E ∨ g = L ∨ A.heap.size ≤ g) : KpT T base E L A C :=
  ⟨by rw [u.size]; exact h.size, (u.bel 0 (Nat.zero_le _)).os.trans h.os, (u.bel 0 (Nat.zero_le _)).tape.trans h.tape, (u.bel 0 (Nat.zero_le _)).output.trans h.output, fun q a b c d => (u.other q (by omega)).trans (h.block q a b c d)⟩
theorem KpT.bx {T : TypeId} {base E L g : Nat} {t : TypeId} {cs : Array Value} {A B : World} (h : KpT T base E L A B) (hb : Bx A g t cs) (hE : g ≠ E) (hL : g ≠ L) (ht : t ≠ T) : Bx B g t cs :=
  (h.block g hb.lt hE hL (.inr fun cs' z e => by unfold Bx at hb; rw [hb] at e; injection e with e; injection e with _ e _; exact ht e)).trans hb
theorem bx_type {W : World} {g : Nat} {t s : TypeId} {cs ds : Array Value} (h : Bx W g t cs) (k : Bx W g s ds) : t = s := by
  unfold Bx at h k
  rw [h] at k
  injection k with k
  injection k with _ k _
theorem KpT.keep {T : TypeId} {base E L n : Nat} {tE tL : TypeId} {cE cL : Array Value} {A B : World} (h : KpT T base E L A B) (hE : Bx A E tE cE) (hL : Bx A L tL cL) (nT : ¬ Held T) (nE : ¬ Held tE) (nL : ¬ Held tL)
    (hb : n ≤ base) (he : n ≤ E) (hl : n ≤ L) (hs : n ≤ A.heap.size) : KeepT n A B :=
  ⟨⟨h.os, h.tape, h.output, h.size, fun q a => h.block q (by omega) (by omega) (by omega) (.inl (by omega))⟩, fun g t cs b ht =>
    h.bx b (fun e => by subst e; exact nE (bx_type b hE ▸ ht)) (fun e => by subst e; exact nL (bx_type b hL ▸ ht)) (fun e => nT (e ▸ ht))⟩

/-- Records that lie below block n can be read. -/
def RdRn (n : Nat) (w : World) (A : Option Addr) (l : List Rc) : Prop := ∃ w0 : World, w0.heap.size = n ∧ RdR w0 A l ∧ Below n w0 w
theorem RdRn.rd {n : Nat} {w : World} {A : Option Addr} {l : List Rc} (h : RdRn n w A l) : RdR w A l := by
  obtain ⟨w0, rfl, h0, hb⟩ := h
  exact h0.below hb
theorem RdRn.below {n : Nat} {w w' : World} {A : Option Addr} {l : List Rc} (h : RdRn n w A l) (hb : Below n w w') : RdRn n w' A l := by
  obtain ⟨w0, h0, h1, hb0⟩ := h
  exact ⟨w0, h0, h1, hb0.trans hb⟩
theorem RdRn.of {w : World} {A : Option Addr} {l : List Rc} (h : RdR w A l) : RdRn w.heap.size w A l := ⟨w, rfl, h, Below.refl _ _⟩

/-- A piece's thirteen cells: the record, the spots ahead and behind, the first minutes. -/
def pc13 (k a b : Int) (s t : Pt) (f : Fs) : Array Value :=
  #[.int .i64 k, .int .i64 a, .int .i64 b, .int .i64 s.1, .int .i64 s.2.1, .int .i64 s.2.2, .int .i64 t.1, .int .i64 t.2.1, .int .i64 t.2.2, .int .i64 f.1, .int .i64 f.2.1, .int .i64 f.2.2.1, .int .i64 f.2.2.2]
theorem pc13_one (k a b : Int) (s t : Pt) (f : Fs) : (pc13 k a b s t f).all (·.oneCell') = true := by simp [pc13, Value.oneCell']
theorem size_piece : (Try.prog.info? 68).map (·.size) = some 13 := by kernel_rfl

/-- The place behind the task, and behind those in which there is nothing to do. -/
def nearV (l : List Tk) (k : Nat) : Nat := nearN l (l.length - min (k + 1) l.length) (min (k + 1) l.length)

theorem near_is {l : List Tk} {a : Nat} : ∀ (f e : Nat), a ≤ e → (a < l.length → a < e) → (∀ j, a < j → j < e → (tk l (j : Int)).1 = 0 ∧ (tk l (j : Int)).2.1 = 0) → e ≤ l.length → l.length - e ≤ f → NearE l a (nearN l f e)
  | 0, e, h1, h2, h3, h4, h5 => ⟨h4, h2, h1, h3, fun c => by unfold nearN at c; omega⟩
  | f + 1, e, h1, h2, h3, h4, h5 => by
    unfold nearN
    by_cases c : e < l.length ∧ (l.getD e tz).1 = 0 ∧ (l.getD e tz).2.1 = 0
    · rw [if_pos c]
      refine near_is f (e + 1) (by omega) (fun _ => by omega) (fun j ja je => ?_) (by omega) (by omega)
      by_cases ej : j = e
      · subst ej; exact c.2
      · exact h3 j ja (by omega)
    · rw [if_neg c]
      exact ⟨h4, h2, h1, h3, fun q k => c ⟨q, k⟩⟩

theorem nearV_is {l : List Tk} {k : Nat} (hk : k ≤ l.length) : NearE l k (nearV l k) := by
  unfold nearV
  refine near_is _ _ (by omega) (fun c => by omega) (fun j a b => by omega) (by omega) (Nat.le_refl _)

theorem near_more {l : List Tk} {e : Nat} (h : e < l.length) (h0 : (l.getD e tz).1 = 0) (h1 : (l.getD e tz).2.1 = 0) : nearN l (l.length - e) e = nearN l (l.length - (e + 1)) (e + 1) := by
  obtain ⟨f, hf⟩ : ∃ f, l.length - e = f + 1 := ⟨l.length - e - 1, by omega⟩
  rw [hf]
  conv => lhs; unfold nearN
  rw [if_pos ⟨h, h0, h1⟩]
  congr 1; omega
theorem near_end {l : List Tk} {e : Nat} (h : ¬ (e < l.length ∧ (l.getD e tz).1 = 0 ∧ (l.getD e tz).2.1 = 0)) (f : Nat) : nearN l f e = e := by
  cases f with
  | zero => rfl
  | succ f => unfold nearN; rw [if_neg h]

/-- The tasks of the cut can be read. -/
theorem RdK.cut {w : World} {b off : Nat} {l : List Tk} (h : RdK w (some ⟨b, off, none⟩) l) (a e : Nat) : RdK w (some ⟨b, off + a * 3, none⟩) ((l.take e).drop a) := fun hne => by
  have hl : 0 < ((l.take e).drop a).length := List.length_pos_iff.2 hne
  rw [List.length_drop, List.length_take] at hl
  obtain ⟨b', off', hA, hb, hc⟩ := h (by rintro rfl; simp at hl)
  simp only [Option.some.injEq, Addr.mk.injEq, and_true] at hA
  obtain ⟨rfl, rfl⟩ := hA
  refine ⟨_, _, rfl, hb, fun k hk => ?_⟩
  rw [List.length_drop, List.length_take] at hk
  have e1 : ((l.take e).drop a).getD k tz = l.getD (a + k) tz := by
    rw [List.getD_eq_getElem?_getD, List.getD_eq_getElem?_getD, List.getElem?_drop, List.getElem?_take, if_pos (by omega)]
  obtain ⟨B, c, h0, h1, h2, h3⟩ := hc (a + k) (by omega)
  rw [e1]
  have e2 : off + a * 3 + k * 3 = off + (a + k) * 3 := by omega
  rw [e2]
  exact ⟨B, c, h0, h1, h2, h3⟩

theorem Few.cut {l : List Tk} (h : Few l) (a e : Nat) : Few ((l.take e).drop a) := fun t ht => h t (List.mem_of_mem_take (List.mem_of_mem_drop ht))

end Go.Proofs.Ythiiipbfdgaemaa

/- How a timeline's pieces lie among its minutes, and what is asked of a function that they are handed to. Conditions: none beyond each lemma's own premises. -/
namespace Go.Proofs.Ythiiipbfdgaemaa
open Go.RowKit

theorem tl_begins : ∀ {r : List Rc} {e : Int} {k : Nat} {q y z : Int}, Tl e r → k < r.length → r.getD k rz = (q, y, z) → y = e + ((kindsV (r.take k)).length : Int)
  | c :: r, e, 0, q, y, z, h, _, hr => by
    have : c = (q, y, z) := hr
    subst this
    have := h.2.1
    simp only at this
    simp [kindsV, this]
  | c :: r, e, k + 1, q, y, z, h, hk, hr => by
    have ih := tl_begins (k := k) h.2.2 (by simpa using hk) (by simpa using hr)
    have h1 := h.1.2
    have h2 := h.2.1
    rw [List.take_succ_cons, kinds_cons, List.length_append, List.length_replicate]
    omega

theorem kinds_part {r : List Rc} {k : Nat} {q y z : Int} (hk : k < r.length) (hr : r.getD k rz = (q, y, z)) {d : Nat} (hd : d ≤ (z - y).toNat) :
    (kindsV r).take ((kindsV (r.take k)).length + d) = kindsV (r.take k) ++ List.replicate d q := by
  have e : kindsV r = kindsV (r.take (k + 1)) ++ kindsV (r.drop (k + 1)) := by
    unfold kindsV
    rw [← List.flatMap_append, List.take_append_drop]
  rw [e, kinds_more hk hr, List.append_assoc, List.take_length_add_append, List.take_append_of_le_length (by rw [List.length_replicate]; exact hd), List.take_replicate, Nat.min_eq_left hd]

theorem kinds_piece {r : List Rc} {k : Nat} {q y z : Int} (hk : k < r.length) (hr : r.getD k rz = (q, y, z)) {d n ii : Nat} (hi : (kindsV (r.take k)).length = ii) (hd : d + n ≤ (z - y).toNat) :
    (kindsV r).take (ii + d + n) = (kindsV r).take (ii + d) ++ List.replicate n q := by
  subst hi
  rw [Nat.add_assoc, kinds_part hk hr hd, kinds_part hk hr (by omega), List.append_assoc, List.replicate_append_replicate]

theorem kinds_next {r : List Rc} {k : Nat} {q y z : Int} (hk : k < r.length) (hr : r.getD k rz = (q, y, z)) {ii : Nat} (hi : (kindsV (r.take k)).length = ii) : (kindsV (r.take (k + 1))).length = ii + (z - y).toNat := by
  rw [kinds_more hk hr, List.length_append, List.length_replicate, hi]

theorem runK_spot (l : List Tk) (k : Int) : ∀ (n : Nat) (m : Int) (s : Pt) (F f : Fs), (runK l k n m (s, F)).1 = (runK l k n m (s, f)).1
  | 0, _, _, _, _ => rfl
  | n + 1, m, s, F, f => by
    unfold runK
    exact runK_spot l k n (m + 1) (stepT l s k) _ _

/-- The spot behind a piece. -/
theorem run_piece {l : List Tk} {ks : List Int} {m0 : Int} {st : Pt × Fs} {i n : Nat} {k : Int} {s s' : Pt} {f : Fs} (hi : i ≤ ks.length) (hk : ks.take (i + n) = ks.take i ++ List.replicate n k) (hs : (runS l (ks.take i) m0 st).1 = s)
    (hr : runK l k n (m0 + i) (s, none4) = (s', f)) : (runS l (ks.take (i + n)) m0 st).1 = s' := by
  rw [hk, runS_append, runS_rep, List.length_take, Nat.min_eq_left hi]
  subst hs
  have := runK_spot l k n (m0 + i) (runS l (ks.take i) m0 st).1 (runS l (ks.take i) m0 st).2 none4
  rw [hr] at this
  exact this

/-- A function that pieces are handed to: it keeps I, told behind i minutes. -/
structure Does (g : Nat) (cb : Array Value) (n0 n1 : Nat) (I : Nat → World → Prop) (l : List Tk) (ks : List Int) (m0 : Int) (s0 : Pt) : Prop where
  bel : ∀ i W W', I i W → Below W.heap.size W W' → I i W'
  upd : ∀ i W W' q t old cs, I i W → n1 ≤ q → Held t → Bx W q t old → Upd W q t cs W' → I i W'
  step : ∀ i n k s F s' f W, I i W → 0 < n → i + n ≤ ks.length → ks.take (i + n) = ks.take i ++ List.replicate n k → runS l (ks.take i) m0 (s0, none4) = (s, F) → Pc l s k n → runK l k n (m0 + i) (s, none4) = (s', f) →
    Calls Try.prog g (#[.agg (pc13 k (m0 + i) (m0 + i + n) s s' f)] ++ cb) W fun e W' => e = .returned (.tuple #[]) ∧ I (i + n) W' ∧ KeepT n0 W W'

theorem KeepT.upd {n q : Nat} {t : TypeId} {cs : Array Value} {A B C : World} (h : KeepT n A B) (u : Upd B q t cs C) (hq : A.heap.size ≤ q) (hn : n ≤ q) : KeepT n A C :=
  ⟨h.bel.trans (u.bel n hn), fun g s ds b ht => u.bx (h.box g s ds b ht) (by have := b.lt; omega)⟩
theorem KeepT.below {n : Nat} {A B C : World} (h : KeepT n A B) (hb : Below B.heap.size B C) (hn : n ≤ A.heap.size) : KeepT n A C :=
  h.trans (KeepT.of_below hb (Nat.le_trans hn h.bel.size))

end Go.Proofs.Ythiiipbfdgaemaa
