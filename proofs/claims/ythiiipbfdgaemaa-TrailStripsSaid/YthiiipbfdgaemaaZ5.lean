/- Plain facts, several texts in one: TrailFound, TrailRAudM. Conditions: none beyond each lemma's own premises. -/
import Derived.Test.YthiiipbfdgaemaaZ2
import Derived.Test.YthiiipbfdgaemaaTrailLeaf
import Derived.Test.YthiiipbfdgaemaaTrailHand
import Derived.Test.YthiiipbfdgaemaaZ4
import Derived.Test.YthiiipbfdgaemaaRows
import Derived.Test.YthiiipbfdgaemaaZ1
import Derived.Test.YthiiipbfdgaemaaErrandOverC
import Derived.WalkKit
import Derived.WalkSpells
import Derived.WalkSmall
import Derived.Below
import Derived.Lib.Hide
import Derived.Outline
import Derived.Deep.DeepCutAuto
import Derived.OwnWalk
import Derived.BigQuiet
import Derived.Deep.QuietTactic
import Derived.Deep.LoopGhost
import Derived.WalkMore
import Derived.OrdersHeld
import Derived.Deep.RegionHeld3

/- What an audit of a timeline tells, in plain words: the spot behind it and the findings. Conditions: none beyond each lemma's own premises. -/
namespace Go.Proofs.Ythiiipbfdgaemaa
open Go.RowKit

theorem run_note {l : List Tk} {ks : List Int} {m0 : Int} {s0 : Pt} {i n : Nat} {k : Int} {s s' : Pt} {F f : Fs} (hi : i ≤ ks.length) (hm : 0 ≤ m0) (hk : ks.take (i + n) = ks.take i ++ List.replicate n k) (hs : runS l (ks.take i) m0 (s0, none4) = (s, F))
    (hr : runK l k n (m0 + i) (s, none4) = (s', f)) : runS l (ks.take (i + n)) m0 (s0, none4) = (s', combF F f) := by
  have hF : Fok F := by
    have := runS_ok (l := l) (ks.take i) (m := m0) (st := (s0, none4)) fok_none hm
    rw [hs] at this
    exact this
  rw [hk, runS_append, runS_rep, List.length_take, Nat.min_eq_left hi, hs]
  have e : (s, F) = (s, combF F none4) := by rw [comb_none hF]
  rw [e, runK_comb, hr]

theorem runK_lt {l : List Tk} {k : Int} {n : Nat} {m : Int} {s s' : Pt} {f : Fs} (hm : 0 ≤ m) (hr : runK l k n m (s, none4) = (s', f)) : ∀ i, i < 4 → fget f i < m + n := by
  have h := runS_hi (l := l) (List.replicate n k) (m := m) (st := (s, none4)) ⟨by unfold none4; simp only; omega, by unfold none4; simp only; omega, by unfold none4; simp only; omega, by unfold none4; simp only; omega⟩
  rw [runS_rep, hr, List.length_replicate] at h
  obtain ⟨h0, h1, h2, h3⟩ := h
  intro i hi
  unfold fget
  simp only at h0 h1 h2 h3
  repeat' split
  all_goals assumption

/-- The findings in order. -/
def outG (G : Gs) : Nat → List Rc
  | 0 => []
  | c + 1 => outG G c ++ (match G c with | some v => [(((10 + c : Nat) : Int), v, v + 1)] | none => [])

theorem outG_mem (G : Gs) : ∀ (n : Nat) (r : Rc), r ∈ outG G n ↔ ∃ c : Nat, c < n ∧ G c = some r.2.1 ∧ r.1 = ((10 + c : Nat) : Int) ∧ r.2.2 = r.2.1 + 1
  | 0, r => by simp [outG]
  | n + 1, r => by
    unfold outG
    rw [List.mem_append, outG_mem G n r]
    constructor
    · rintro (⟨c, hc, h⟩ | h)
      · exact ⟨c, by omega, h⟩
      · cases hG : G n with
        | none => rw [hG] at h; cases h
        | some v =>
          rw [hG] at h
          rw [List.mem_singleton] at h
          subst h
          exact ⟨n, by omega, hG, rfl, rfl⟩
    · rintro ⟨c, hc, h1, h2, h3⟩
      by_cases e : c = n
      · subst e
        right
        rw [h1]
        rw [List.mem_singleton]
        obtain ⟨x, y, z⟩ := r
        simp only at h2 h3 ⊢
        rw [h2, h3]
      · exact .inl ⟨c, by omega, h1, h2, h3⟩

theorem outG_sorted (G : Gs) : ∀ n, (outG G n).Pairwise ltF
  | 0 => List.Pairwise.nil
  | n + 1 => by
    unfold outG
    rw [List.pairwise_append]
    refine ⟨outG_sorted G n, ?_, fun x hx y hy => ?_⟩
    · cases G n with
      | none => exact List.Pairwise.nil
      | some v => exact List.pairwise_singleton _ _
    · obtain ⟨c, hc, _, h2, _⟩ := (outG_mem G n x).1 hx
      cases hG : G n with
      | none => rw [hG] at hy; cases hy
      | some v =>
        rw [hG] at hy
        rw [List.mem_singleton] at hy
        subst hy
        refine Or.inl ?_
        rw [h2]
        simp only
        omega

theorem outG_len (G : Gs) : ∀ n, (outG G n).length ≤ n
  | 0 => Nat.le_refl _
  | n + 1 => by
    unfold outG
    have := outG_len G n
    rw [List.length_append]
    cases G n with
    | none => simp; omega
    | some v => simp; omega

theorem outG_is {G : Gs} {l r : List Rc} {s : Nat} (h : RepG l s G) (hs : SetF r l) : r = outG G 5 :=
  sorted_unique hs.1 (outG_sorted G 5) fun x => by rw [hs.2, h.mem, outG_mem]

/-- What is broken, with what is left at the end. -/
def allG (l : List Tk) (r : List Rc) (X : Pt × Fs) : Gs := fun c => if c = 4 then (if X.1.1 < l.length then some (lastV r) else none) else GF X.2 c

/-- What Audit tells: the spot, the findings, the error. -/
def audV (l : List Tk) (s : Pt) (r : List Rc) : Pt × List Rc × Int :=
  if checkE l s r = 0 then ((runS l (kindsV r) (beg r) (s, none4)).1, outG (allG l r (runS l (kindsV r) (beg r) (s, none4))) 5, 0) else ((0, 0, 0), [], checkE l s r)

theorem aud_bad {l : List Tk} {s : Pt} {r : List Rc} {e : Int} (h : checkE l s r = e) (hne : e ≠ 0) : audV l s r = ((0, 0, 0), [], e) := by unfold audV; rw [h, if_neg hne]
theorem aud_ok {l : List Tk} {s : Pt} {r : List Rc} {X : Pt × Fs} (h : checkE l s r = 0) (hX : runS l (kindsV r) (beg r) (s, none4) = X) : audV l s r = (X.1, outG (allG l r X) 5, 0) := by unfold audV; rw [if_pos h, hX]

theorem GF_four (F : Fs) : GF F 4 = none := by unfold GF; rw [if_neg (fun c => absurd c.1 (by decide))]

theorem allG_none {l : List Tk} {r : List Rc} {X : Pt × Fs} (h : ¬ X.1.1 < l.length) : allG l r X = GF X.2 := by
  funext c
  unfold allG
  by_cases e : c = 4
  · subst e; rw [if_pos rfl, if_neg h, GF_four]
  · rw [if_neg e]
theorem allG_left {l : List Tk} {r : List Rc} {X : Pt × Fs} (h : X.1.1 < l.length) : allG l r X = putG (GF X.2) 4 (lastV r) := by
  funext c
  rw [putG_none (GF_four _)]
  unfold allG
  by_cases e : c = 4
  · subst e; rw [if_pos rfl, if_pos rfl, if_pos h]
  · rw [if_neg e, if_neg e]

/-- No finding: nothing is broken, and nothing is left. -/
theorem outG_nil {G : Gs} (h : outG G 5 = []) : ∀ c, c < 5 → G c = none := by
  intro c hc
  cases hG : G c with
  | none => rfl
  | some v =>
    have := (outG_mem G 5 (((10 + c : Nat) : Int), v, v + 1)).2 ⟨c, hc, hG, rfl, rfl⟩
    rw [h] at this; cases this

theorem follows_none {l : List Tk} {r : List Rc} {X : Pt × Fs} (hok : Fok X.2) (h : outG (allG l r X) 5 = []) : X.2 = none4 ∧ ¬ X.1.1 < l.length := by
  have hn := outG_nil h
  have h4 := hn 4 (by omega)
  unfold allG at h4
  rw [if_pos rfl] at h4
  have hl : ¬ X.1.1 < l.length := fun c => by rw [if_pos c] at h4; cases h4
  refine ⟨?_, hl⟩
  have g : ∀ c, c < 4 → fget X.2 c < 0 := fun c hc => by
    have := hn c (by omega)
    unfold allG at this
    rw [if_neg (by omega)] at this
    unfold GF at this
    by_cases k : c < 4 ∧ 0 ≤ fget X.2 c
    · rw [if_pos k] at this; cases this
    · exact Int.not_le.1 (fun q => k ⟨hc, q⟩)
  have g0 := g 0 (by omega); have g1 := g 1 (by omega); have g2 := g 2 (by omega); have g3 := g 3 (by omega)
  obtain ⟨p, a, b, c, d⟩ := X
  obtain ⟨k0, k1, k2, k3⟩ := hok
  unfold fget at g0 g1 g2 g3
  simp at g0 g1 g2 g3
  simp only at k0 k1 k2 k3
  unfold none4
  simp only [Prod.mk.injEq]
  exact ⟨by omega, by omega, by omega, by omega⟩

/-- A row of findings stays, where a block of another type is written. -/
theorem OwnF.held {base q : Nat} {t : TypeId} {old cs : Array Value} {w w' : World} {v : Value} {l : List Rc} (h : OwnF base w v l) (hb : Bx w q t old) (ht : t ≠ 62) (u : Upd w q t cs w') : OwnF base w' v l :=
  row_block h fun k hk => u.other k fun e => by
    subst e
    obtain ⟨cs', z, hh⟩ := row_type (show w.ownsRow base 62 3 _ _ _ from h) hk
    unfold Bx at hb
    rw [hb] at hh
    injection hh with hh
    injection hh with _ hh _
    exact ht hh

/-- What the closures of Audit keep, behind i minutes. -/
def AudI (base E L N : Nat) (l : List Tk) (ks : List Int) (m0 : Int) (s0 : Pt) (i : Nat) (W : World) : Prop :=
  ∃ l' s', HanS base E L N l' s' W ∧ RepG l' s' (GF (runS l (ks.take i) m0 (s0, none4)).2)

theorem aud_does {base E L N n0 : Nat} {l : List Tk} {ks : List Int} {m0 : Int} {s0 : Pt} (hm : 0 ≤ m0) (hks : m0 + (ks.length : Int) ≤ 40320) (hE : n0 ≤ E) (hL : n0 ≤ L) (hb : n0 ≤ base) :
    Does 26 #[.pointer (some ⟨N, 0, none⟩)] n0 base (AudI base E L N l ks m0 s0) l ks m0 s0 where
  bel i W W' h hW := by
    obtain ⟨l', s', h1, h2⟩ := h
    exact ⟨l', s', h1.below hW, h2⟩
  upd i W W' q t old cs h hq ht hB u := by
    obtain ⟨l', s', h1, h2⟩ := h
    obtain ⟨v, hv, ho⟩ := h1.ns.bL
    have hne : t ≠ 62 := by rcases ht with rfl | rfl | rfl <;> decide
    exact ⟨l', s', ⟨⟨u.bx h1.ns.bE (by have := h1.ns.eb; omega), ⟨v, u.bx hv (by have := h1.ns.lb; omega), ho.held hB hne u⟩, h1.ns.eb, h1.ns.lb, h1.ns.ne, by rw [u.size]; exact h1.ns.sz⟩, u.bx h1.bN (by have := h1.nb; omega), h1.nb, h1.nE, h1.nL⟩, h2⟩
  step i n k s F s' f W h hn hi hk hs hp hr := by
    obtain ⟨l', st, h1, h2⟩ := h
    rw [hs] at h2
    have hlt := runK_lt (by omega) hr
    refine (hand20_any base E L N l' st (GF F) k (m0 + i) (m0 + i + n) s s' f W h1 h2 (fun j hj => by have := hlt j hj; omega)).mono ?_
    rintro e W' ⟨rfl, ⟨l2, s2, h3, h4⟩, hk2⟩
    refine ⟨rfl, ⟨l2, s2, h3, ?_⟩, ?_⟩
    · rw [run_note (by omega) hm hk hs hr, ← stepG_comb]
      exact h4
    · obtain ⟨v, hv, _⟩ := h1.ns.bL
      exact hk2.keep h1.ns.bE hv (by rintro (h | h | h) <;> exact absurd h (by decide)) (by rintro (h | h | h) <;> exact absurd h (by decide)) (by rintro (h | h | h) <;> exact absurd h (by decide)) hb hE hL (Nat.le_trans hb h1.ns.sz)

end Go.Proofs.Ythiiipbfdgaemaa

/- What the document's own Audit of layer 20 returns, in plain words. Conditions: none beyond each lemma's own premises. -/
namespace Go.Proofs.Ythiiipbfdgaemaa
open Go.RowKit

/-- What is left that turns two blocks and may make memory. -/
structure Chg2 (W : World) (g : Nat) (t : TypeId) (cs : Array Value) (h : Nat) (s : TypeId) (ds : Array Value) (W' : World) : Prop where
  size : W.heap.size ≤ W'.heap.size
  os : W'.os = W.os
  tape : W'.tape = W.tape
  output : W'.output = W.output
  box1 : Bx W' g t cs
  box2 : Bx W' h s ds
  other : ∀ k, k ≠ g → k ≠ h → k < W.heap.size → W'.heap[k]? = W.heap[k]?
theorem Chg2.below {W : World} {g : Nat} {t : TypeId} {cs : Array Value} {h : Nat} {s : TypeId} {ds : Array Value} {W1 W2 : World} (c : Chg2 W g t cs h s ds W1) (hb : Below W1.heap.size W1 W2) : Chg2 W g t cs h s ds W2 :=
  ⟨Nat.le_trans c.size hb.size, hb.os.trans c.os, hb.tape.trans c.tape, hb.output.trans c.output, c.box1.below hb, c.box2.below hb, fun k a b d => (hb.block k (Nat.lt_of_lt_of_le d c.size)).trans (c.other k a b d)⟩
theorem Chg2.upd1 {W : World} {g : Nat} {t : TypeId} {cs cs' : Array Value} {h : Nat} {s : TypeId} {ds : Array Value} {W1 W2 : World} (c : Chg2 W g t cs h s ds W1) (u : Upd W1 g t cs' W2) (hn : h ≠ g) : Chg2 W g t cs' h s ds W2 :=
  ⟨by rw [u.size]; exact c.size, (u.bel 0 (Nat.zero_le _)).os.trans c.os, (u.bel 0 (Nat.zero_le _)).tape.trans c.tape, (u.bel 0 (Nat.zero_le _)).output.trans c.output, u.box, u.bx c.box2 hn, fun k a b d => (u.other k a).trans (c.other k a b d)⟩
theorem Chg2.upd2 {W : World} {g : Nat} {t : TypeId} {cs : Array Value} {h : Nat} {s : TypeId} {ds ds' : Array Value} {W1 W2 : World} (c : Chg2 W g t cs h s ds W1) (u : Upd W1 h s ds' W2) (hn : g ≠ h) : Chg2 W g t cs h s ds' W2 :=
  ⟨by rw [u.size]; exact c.size, (u.bel 0 (Nat.zero_le _)).os.trans c.os, (u.bel 0 (Nat.zero_le _)).tape.trans c.tape, (u.bel 0 (Nat.zero_le _)).output.trans c.output, u.bx c.box1 hn, u.box, fun k a b d => (u.other k b).trans (c.other k a b d)⟩
theorem Chg2.bel {W : World} {g : Nat} {t : TypeId} {cs : Array Value} {h : Nat} {s : TypeId} {ds : Array Value} {W' : World} (c : Chg2 W g t cs h s ds W') {n : Nat} (hg : n ≤ g) (hh : n ≤ h) (hn : n ≤ W.heap.size) : Below n W W' :=
  ⟨c.os, c.tape, c.output, c.size, fun k a => c.other k (by omega) (by omega) (by omega)⟩
theorem Chg2.bx {W : World} {g : Nat} {t : TypeId} {cs : Array Value} {h : Nat} {s : TypeId} {ds : Array Value} {W' : World} (c : Chg2 W g t cs h s ds W') {q : Nat} {y : TypeId} {es : Array Value} (b : Bx W q y es) (hg : q ≠ g) (hh : q ≠ h) : Bx W' q y es := (c.other q hg hh b.lt).trans b
theorem OwnN.chg2 {W : World} {g : Nat} {t : TypeId} {cs : Array Value} {h : Nat} {s : TypeId} {ds : Array Value} {W' : World} (c : Chg2 W g t cs h s ds W') {base : Nat} {v : Value} {l : List Int} (o : OwnN base W v l) (hg : g < base) (hh : ∀ k, v.ownBlock = some k → k ≠ h) : OwnN base W' v l :=
  row_block o fun k hk => c.other k (by have := (World.ownsRow.lt o k hk).1; omega) (hh k hk) (World.ownsRow.lt o k hk).2

/-- Four truths by number. -/
def bget (b : Bool × Bool × Bool × Bool) (c : Nat) : Bool := if c = 0 then b.1 else if c = 1 then b.2.1 else if c = 2 then b.2.2.1 else b.2.2.2
/-- The first c of the first minutes noted. -/
def noteN (F : Fs) (b : Bool × Bool × Bool × Bool) (m : Int) (c : Nat) : Fs :=
  (if 0 < c then noteF F.1 b.1 m else F.1, if 1 < c then noteF F.2.1 b.2.1 m else F.2.1, if 2 < c then noteF F.2.2.1 b.2.2.1 m else F.2.2.1, if 3 < c then noteF F.2.2.2 b.2.2.2 m else F.2.2.2)
theorem noteN_zero (F : Fs) (b : Bool × Bool × Bool × Bool) (m : Int) : noteN F b m 0 = F := rfl
theorem noteN_four (F : Fs) (b : Bool × Bool × Bool × Bool) (m : Int) : noteN F b m 4 = (noteF F.1 b.1 m, noteF F.2.1 b.2.1 m, noteF F.2.2.1 b.2.2.1 m, noteF F.2.2.2 b.2.2.2 m) := rfl
theorem four {c : Nat} (h : c < 4) : c = 0 ∨ c = 1 ∨ c = 2 ∨ c = 3 := by omega
theorem noteN_at (F : Fs) (b : Bool × Bool × Bool × Bool) (m : Int) {c : Nat} (h : c < 4) : fget (noteN F b m c) c = fget F c := by
  rcases four h with rfl | rfl | rfl | rfl <;> rfl
theorem noteN_skip (F : Fs) (b : Bool × Bool × Bool × Bool) (m : Int) {c : Nat} (h : c < 4) (hs : ¬ (bget b c = true ∧ fget F c < 0)) : noteN F b m (c + 1) = noteN F b m c := by
  rcases four h with rfl | rfl | rfl | rfl
  · have : noteF F.1 b.1 m = F.1 := if_neg hs
    unfold noteN; simp [this]
  · have : noteF F.2.1 b.2.1 m = F.2.1 := if_neg hs
    unfold noteN; simp [this]
  · have : noteF F.2.2.1 b.2.2.1 m = F.2.2.1 := if_neg hs
    unfold noteN; simp [this]
  · have : noteF F.2.2.2 b.2.2.2 m = F.2.2.2 := if_neg hs
    unfold noteN; simp [this]
theorem noteN_set (F : Fs) (b : Bool × Bool × Bool × Bool) (m : Int) {c : Nat} (h : c < 4) (hs : bget b c = true ∧ fget F c < 0) : (fs4 (noteN F b m c)).setIfInBounds c (.int .i64 m) = fs4 (noteN F b m (c + 1)) := by
  rcases four h with rfl | rfl | rfl | rfl
  · have : noteF F.1 b.1 m = m := if_pos hs
    unfold noteN; simp [this, fs4]
  · have : noteF F.2.1 b.2.1 m = m := if_pos hs
    unfold noteN; simp [this, fs4]
  · have : noteF F.2.2.1 b.2.2.1 m = m := if_pos hs
    unfold noteN; simp [this, fs4]
  · have : noteF F.2.2.2 b.2.2.2 m = m := if_pos hs
    unfold noteN; simp [this, fs4]
theorem fs4_at (F : Fs) {c : Nat} (h : c < 4) : (fs4 F)[c]? = some (.int .i64 (fget F c)) := by
  rcases four h with rfl | rfl | rfl | rfl <;> rfl
theorem bl4_at (b0 b1 b2 b3 : Bool) {c : Nat} (h : c < 4) : (#[.bool b0, .bool b1, .bool b2, .bool b3] : Array Value)[c]? = some (.bool (bget (b0, b1, b2, b3) c)) := by
  rcases four h with rfl | rfl | rfl | rfl <;> rfl
theorem runS_more {l : List Tk} {ks : List Int} {k : Nat} {x m : Int} {st : Pt × Fs} (hx : ks[k]? = some x) : runS l (ks.take (k + 1)) m st = minT l x (m + k) (runS l (ks.take k) m st) := by
  have hk := (List.getElem?_eq_some_iff.1 hx).1
  rw [List.take_add_one, hx, Option.toList_some, runS_append, List.length_take, Nat.min_eq_left (by omega)]
  rfl
theorem outG_yes {F : Fs} {c : Nat} (h : c < 4) (h0 : 0 ≤ fget F c) : outG (GF F) (c + 1) = outG (GF F) c ++ [(((10 + c : Nat) : Int), fget F c, fget F c + 1)] := by
  have e : GF F c = some (fget F c) := by unfold GF; rw [if_pos ⟨h, h0⟩]
  show outG (GF F) c ++ _ = _
  rw [e]
theorem outG_no {F : Fs} {c : Nat} (h0 : ¬ 0 ≤ fget F c) : outG (GF F) (c + 1) = outG (GF F) c := by
  have e : GF F c = none := by unfold GF; rw [if_neg (fun k => h0 k.2)]
  show outG (GF F) c ++ _ = _
  rw [e, List.append_nil]
theorem outG_congr {G H : Gs} : ∀ {n : Nat}, (∀ c, c < n → G c = H c) → outG G n = outG H n
  | 0, _ => rfl
  | n + 1, h => by
    unfold outG
    rw [outG_congr fun c hc => h c (by omega), h n (by omega)]
theorem outG_all {l : List Tk} {r : List Rc} {X : Pt × Fs} : outG (allG l r X) 5 = outG (GF X.2) 4 ++ (if X.1.1 < l.length then [(14, lastV r, lastV r + 1)] else []) := by
  have e : outG (allG l r X) 4 = outG (GF X.2) 4 := outG_congr fun c hc => by unfold allG; rw [if_neg (by omega)]
  show outG (allG l r X) 4 ++ _ = _
  rw [e]
  unfold allG
  rw [if_pos rfl]
  by_cases h : X.1.1 < l.length
  · rw [if_pos h, if_pos h]
    rfl
  · rw [if_neg h, if_neg h]

end Go.Proofs.Ythiiipbfdgaemaa
