/- A front in memory: its box, its map, and a row of meters for each spot; what a call leaves that turns them. Conditions: none beyond each lemma's own premises. -/
import Derived.Test.YtglgifhpacmhiaaRows
import Derived.Test.YtglgifhpacmhiaaBase
import Derived.Test.YtglgifhpacmhiaaRow
import Derived.Test.YtglgifhpacmhiaaBookRow
import Derived.Test.YtglgifhpacmhiaaRecMath
import Derived.Test.YtglgifhpacmhiaaBox
import Derived.Test.YtglgifhpacmhiaaChg
import Derived.Test.YtglgifhpacmhiaaWide
import Derived.Test.YtglgifhpacmhiaaMeterMath
import Derived.Test.YtglgifhpacmhiaaFrontMath
import Derived.Test.YtglgifhpacmhiaaFrontEq
import Derived.Test.YtglgifhpacmhiaaFrontMap
namespace Go.Proofs.Ytglgifhpacmhiaa
open Go.RowKit

instance : Inhabited Mt := ⟨Mt.zero⟩

/-- Meters as elements. -/
def mtW : Wd Mt where
  T := 36
  n := 14
  enc m := (mt m).toList
  len _ := rfl
  one m v hv := by
    have := mt_one m
    rw [Array.all_eq_true'] at this
    exact this v (by simpa using hv)
  pos := by decide

/-- A meter at a spot: its cells. -/
def ad (a : Ad) : Array Value := #[.int .i64 a.1.1, .int .i64 a.1.2.1, .int .i64 a.1.2.2, .int .i64 a.2.now, .int .i64 a.2.acc, .bool a.2.half, .int .i64 a.2.lie, .int .i64 a.2.dawn, .int .i64 a.2.day, .int .i64 a.2.longers, .bool a.2.split, .int .i64 a.2.reduces, .int .i64 a.2.sabbath, .bool a.2.brief, .int .i64 a.2.week, .int .i64 a.2.last, .int .i64 a.2.labour]
theorem ad_size (a : Ad) : (ad a).size = 17 := rfl
theorem ad_one (a : Ad) : (ad a).all (·.oneCell') = true := by kernel_rfl

/-- Such as elements. -/
def adW : Wd Ad where
  T := 42
  n := 17
  enc a := (ad a).toList
  len _ := rfl
  one a v hv := by
    have := ad_one a
    rw [Array.all_eq_true'] at this
    exact this v (by simpa using hv)
  pos := by decide

theorem ad_spot {w : World} {b off : Nat} {a : Ad} (h : w.rangeAt b off (ad a).toList) : w.rangeAt b off (sp a.1).toList := fun j v hj => by
  have hlt : j < 3 := (List.getElem?_eq_some_iff.1 hj).1
  refine h j v ?_
  have : j = 0 ∨ j = 1 ∨ j = 2 := by omega
  rcases this with rfl | rfl | rfl <;> exact hj
theorem ad_meter {w : World} {b off : Nat} {a : Ad} (h : w.rangeAt b off (ad a).toList) : w.rangeAt b (off + 3) (mt a.2).toList := fun j v hj => by
  rw [Nat.add_assoc]
  refine h (3 + j) v ?_
  rw [show (ad a).toList = (sp a.1).toList ++ (mt a.2).toList from rfl, List.getElem?_append_right (by show 3 ≤ 3 + j; omega)]
  show (mt a.2).toList[3 + j - 3]? = some v
  rw [Nat.add_sub_cancel_left]
  exact hj

theorem Bx.mid {W : World} {g off : Nat} {t : TypeId} {cs : Array Value} {vs : List Value} (h : Bx W g t cs) (e : ∀ j v, vs[j]? = some v → cs[off + j]? = some v) : W.rangeAt g off vs := fun j v hj => h.cell (e j v hj)
theorem Bx.whole {W : World} {g : Nat} {t : TypeId} {cs : Array Value} (h : Bx W g t cs) : W.rangeAt g 0 cs.toList := h.mid fun j v hj => by rw [Nat.zero_add]; simpa using hj

/-! ### A front -/

/-- A front's cells: its book, and its map. -/
def fc (x : Nat → Int) (m : Option Nat) : Array Value := (bk x).push (.map m)
theorem fc_size (x : Nat → Int) (m : Option Nat) : (fc x m).size = 20 := rfl
theorem fc_map (x : Nat → Int) (m : Option Nat) : (fc x m)[19]? = some (.map m) := rfl
theorem fc_book {W : World} {g : Nat} {t : TypeId} {x : Nat → Int} {m : Option Nat} (h : Bx W g t (fc x m)) : W.rangeAt g 0 (bk x).toList := h.mid fun j v hj => by
  have hlt : j < 19 := (List.getElem?_eq_some_iff.1 hj).1
  rw [Nat.zero_add]
  unfold fc
  rw [Array.getElem?_push_lt (by rw [bk_size]; exact hlt)]
  have := Array.getElem?_eq_some_iff.1 (show (bk x)[j]? = some v by simpa using hj)
  rw [this.2]

/-- What there is at one spot: where it lies, and which meters. -/
structure En where
  key : Rc
  blk : Nat
  cap : Nat
  l : List Mt

def En.v (q : En) : Value := .slice (some ⟨q.blk, 0, none⟩) q.l.length q.cap
def En.kv (q : En) : Rc × Value := (q.key, q.v)

/-- The map in block b has the meters of y. -/
structure FrM (w : World) (b : Nat) (E : List En) (y : List Ad) : Prop where
  mp : Mp w b (E.map En.kv)
  own : ∀ q ∈ E, OwnG mtW q.blk w q.v q.l
  some_ : ∀ q ∈ E, q.l ≠ []
  apart : (E.map (·.blk)).Nodup
  all : ∀ q ∈ E, q.l = allF y q.key
  keys : ∀ a ∈ y, a.1 ∈ E.map (·.key)

/-- The front whose box is g, of the book x, has the meters of y; its blocks are those of B. -/
def Fr (w : World) (g : Nat) (x : Nat → Int) (y : List Ad) (B : List Nat) : Prop :=
  (Bx w g 55 (fc x none) ∧ y = [] ∧ B = [g]) ∨
  ∃ b E, Bx w g 55 (fc x (some b)) ∧ FrM w b E y ∧ B = g :: b :: E.map (·.blk)

/-- What a call leaves that turns the blocks of B. -/
structure Ms (w : World) (B : List Nat) (w' : World) (B' : List Nat) : Prop where
  size : w.heap.size ≤ w'.heap.size
  other : ∀ q, q ∉ B → q < w.heap.size → w'.heap[q]? = w.heap[q]?
  bel : ∀ n, (∀ q ∈ B, n ≤ q) → n ≤ w.heap.size → Below n w w'
  new : ∀ q ∈ B', q ∈ B ∨ w.heap.size ≤ q

theorem Ms.refl (w : World) (B : List Nat) : Ms w B w B := ⟨Nat.le_refl _, fun _ _ _ => rfl, fun _ _ _ => Below.refl _ _, fun _ h => .inl h⟩
theorem Ms.trans {w w1 w2 : World} {B B1 B2 : List Nat} (h : Ms w B w1 B1) (h2 : Ms w1 B1 w2 B2) : Ms w B w2 B2 where
  size := Nat.le_trans h.size h2.size
  other q hq hl := (h2.other q (fun hm => (h.new q hm).elim hq (fun h3 => by omega)) (Nat.lt_of_lt_of_le hl h.size)).trans (h.other q hq hl)
  bel n hn hl := (h.bel n hn hl).trans (h2.bel n (fun q hq => (h.new q hq).elim (hn q) (fun h3 => by omega)) (Nat.le_trans hl h.size))
  new q hq := (h2.new q hq).elim (h.new q) (fun h3 => .inr (Nat.le_trans h.size h3))
theorem Ms.below {w w1 w2 : World} {B B1 : List Nat} (h : Ms w B w1 B1) (hb : Below w1.heap.size w1 w2) : Ms w B w2 B1 where
  size := Nat.le_trans h.size hb.size
  other q hq hl := (hb.block q (Nat.lt_of_lt_of_le hl h.size)).trans (h.other q hq hl)
  bel n hn hl := (h.bel n hn hl).trans (hb.mono (Nat.le_trans hl h.size))
  new := h.new
theorem Ms.of_below {w w1 : World} {B : List Nat} (hb : Below w.heap.size w w1) : Ms w B w1 B := (Ms.refl w B).below hb
theorem Ms.bx {w w' : World} {B B' : List Nat} {h : Nat} {t : TypeId} {cs : Array Value} (m : Ms w B w' B') (hb : Bx w h t cs) (hh : h ∉ B) : Bx w' h t cs := (m.other h hh hb.lt).trans hb
theorem Ms.rd {α : Type} {k : Wd α} {w w' : World} {B B' : List Nat} {A : Option Addr} {l : List α} (m : Ms w B w' B') (h : RdG k w A l) (ha : l ≠ [] → ∀ b off, A = some ⟨b, off, none⟩ → b ∉ B) : RdG k w' A l := fun hl =>
  (h.keep m.size (fun b off e hlt => m.other b (ha hl b off e) hlt)) hl
/-- What is apart from the blocks stays so. -/
theorem Ms.apart {w w' : World} {B B' : List Nat} (m : Ms w B w' B') {q : Nat} (hq : q ∉ B) (hl : q < w.heap.size) : q ∉ B' := fun hm => (m.new q hm).elim hq (fun h => by omega)

/-! ### What a front has -/

theorem bx_types {w : World} {g : Nat} {t s : TypeId} {cs ds : Array Value} (h : Bx w g t cs) (k : Bx w g s ds) : t = s ∧ cs = ds := by
  unfold Bx at h k
  rw [h] at k
  injection k with k
  injection k with e1 e2 _
  exact ⟨e2, e1⟩
theorem Mp.not_bx {w : World} {b g : Nat} {L : List (Rc × Value)} {t : TypeId} {cs : Array Value} (h : Mp w b L) (k : Bx w g t cs) : g ≠ b := by
  rintro rfl
  obtain ⟨es, clock, hb, _⟩ := h.ex
  unfold Bx at k
  rw [hb] at k
  cases k

section
variable {w : World} {g b : Nat} {x : Nat → Int} {y : List Ad} {E : List En} {B : List Nat}

theorem FrM.row (h : FrM w b E y) {q : En} (hq : q ∈ E) : ∃ cur, Bx w q.blk 36 cur := by
  obtain ⟨cur, _, h1, _⟩ := (h.own q hq).cur
  exact ⟨cur, h1⟩
theorem FrM.blk_b (h : FrM w b E y) {q : En} (hq : q ∈ E) : q.blk ≠ b := by
  obtain ⟨cur, h1⟩ := h.row hq
  exact h.mp.not_bx h1
theorem FrM.blk_g (h : FrM w b E y) {cs : Array Value} (hg : Bx w g 55 cs) {q : En} (hq : q ∈ E) : q.blk ≠ g := by
  obtain ⟨cur, h1⟩ := h.row hq
  rintro rfl
  exact absurd (bx_types hg h1).1 (by decide)
theorem FrM.key_nodup (h : FrM w b E y) : (E.map (·.key)).Nodup := by
  have := h.mp.keys
  rw [List.map_map] at this
  exact this
theorem FrM.at_mem (h : FrM w b E y) {q : En} (hq : q ∈ E) : atK (E.map En.kv) q.key = some q.v := atK_mem h.mp.keys (List.mem_map.2 ⟨q, hq, rfl⟩)
theorem FrM.find (h : FrM w b E y) (s : Rc) : (∃ q ∈ E, q.key = s) ∨ (atK (E.map En.kv) s = none ∧ allF y s = []) := by
  by_cases hs : s ∈ E.map (·.key)
  · obtain ⟨q, hq, e⟩ := List.mem_map.1 hs
    exact .inl ⟨q, hq, e⟩
  · refine .inr ⟨atK_none fun p hp e => ?_, ?_⟩
    · obtain ⟨q, hq, rfl⟩ := List.mem_map.1 hp
      exact hs (List.mem_map.2 ⟨q, hq, e⟩)
    · apply List.eq_nil_iff_forall_not_mem.2
      intro m hm
      exact hs (h.keys _ (allF_mem.1 hm))

theorem Fr.lt (h : Fr w g x y B) : g < w.heap.size ∧ g ∈ B := by
  rcases h with ⟨h1, _, rfl⟩ | ⟨b, E, h1, _, rfl⟩
  · exact ⟨h1.lt, by simp⟩
  · exact ⟨h1.lt, by simp⟩
theorem Fr.blocks (h : Fr w g x y B) : ∀ q ∈ B, q < w.heap.size := by
  rcases h with ⟨h1, _, rfl⟩ | ⟨b, E, h1, h2, rfl⟩
  · intro q hq
    rw [List.mem_singleton] at hq
    rw [hq]; exact h1.lt
  · intro q hq
    rcases List.mem_cons.1 hq with rfl | hq
    · exact h1.lt
    rcases List.mem_cons.1 hq with rfl | hq
    · exact h2.mp.lt
    obtain ⟨e, he, rfl⟩ := List.mem_map.1 hq
    obtain ⟨cur, h3⟩ := h2.row he
    exact h3.lt
theorem FrM.kept {w' : World} (h : FrM w b E y) (hb : w'.heap[b]? = w.heap[b]?) (hq : ∀ q ∈ E, w'.heap[q.blk]? = w.heap[q.blk]?) : FrM w' b E y :=
  ⟨h.mp.kept hb, fun q hm => (h.own q hm).kept fun k hk => by injection hk with hk; have hk : q.blk = k := hk; rw [← hk]; exact hq q hm, h.some_, h.apart, h.all, h.keys⟩
theorem Fr.kept {w' : World} (h : Fr w g x y B) (hk : ∀ q ∈ B, w'.heap[q]? = w.heap[q]?) : Fr w' g x y B := by
  rcases h with ⟨h1, h2, rfl⟩ | ⟨b, E, h1, h2, rfl⟩
  · exact .inl ⟨(hk g (by simp)).trans h1, h2, rfl⟩
  · exact .inr ⟨b, E, (hk g (by simp)).trans h1, h2.kept (hk b (by simp)) (fun q hq => hk q.blk (by simp; exact .inr (.inr ⟨q, hq, rfl⟩))), rfl⟩
theorem Fr.below {w' : World} (h : Fr w g x y B) (hb : Below w.heap.size w w') : Fr w' g x y B := h.kept fun q hq => hb.block q (h.blocks q hq)
theorem Fr.alloc (h : Fr w g x y B) (o : Obj) : Fr (w.alloc o) g x y B := h.below ((Below.refl _ _).alloc (Nat.le_refl _) o)
theorem Fr.box (h : Fr w g x y B) : ∃ m, Bx w g 55 (fc x m) := by
  rcases h with ⟨h1, _, _⟩ | ⟨b, E, h1, _, _⟩
  · exact ⟨_, h1⟩
  · exact ⟨_, h1⟩

/-- How many meters there are, spot by spot. -/
theorem FrM.sum (h : FrM w b E y) : (E.map fun q => q.l.length).sum = y.length := by
  have := keys_sum h.key_nodup h.keys
  rw [List.map_map] at this
  rw [← this]
  congr 1
  apply List.map_congr_left
  intro q hq
  simp only [Function.comp]
  rw [h.all q hq]
/-- The spots with meters. -/
theorem FrM.spots (h : FrM w b E y) (s : Rc) : s ∈ E.map (·.key) ↔ s ∈ y.map (·.1) := by
  constructor
  · intro hs
    obtain ⟨q, hq, rfl⟩ := List.mem_map.1 hs
    have h1 := h.some_ q hq
    rw [h.all q hq] at h1
    obtain ⟨m, hm⟩ := List.exists_mem_of_ne_nil _ h1
    exact List.mem_map.2 ⟨_, allF_mem.1 hm, rfl⟩
  · intro hs
    obtain ⟨a, ha, rfl⟩ := List.mem_map.1 hs
    exact h.keys a ha

end

end Go.Proofs.Ytglgifhpacmhiaa
