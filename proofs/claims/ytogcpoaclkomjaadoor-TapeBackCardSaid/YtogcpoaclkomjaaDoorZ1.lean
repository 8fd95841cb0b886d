/- Plain facts, several texts in one: Base, Index, IvalsMath, Laid, Nums, RecMath, Round, Row, RecHeap, RecOpen, RecArg, Strs, WeekMath, Bytes, WordMath, WordHeap, WordNum. Conditions: none beyond each lemma's own premises. -/
import Derived.Below
import Derived.Deep.Draws
import Derived.Deep.RegionHeld
import Derived.Lib.Hide
import Derived.Shelf.Small.Strs
import Derived.Test.YtogcpoaclkomjaaDoorProg
import Derived.Stop.LaidErr
import Derived.OpenShut
import Derived.LaidMore
import Derived.MakeChecks
import Derived.Shelf.LaysM
import Derived.Shelf.LaysC
import Derived.Shelf.Strconv.Itoa3
import Derived.Shelf.Strconv.AtoiAll
import Derived.Shelf.Strconv.ErrVarAll
import Derived.RowKit
import Derived.Test.YtogcpoaclkomjaaDoorRows
import Derived.RangeFuncBox
import Derived.RangeFuncNested
import Derived.RangeFuncCalls
import Derived.Shelf.RegionOpen
import Derived.WalkKit
import Derived.OwnWalkIn
import Derived.TacticsInMore
import Derived.Deep.QuietTactic
import Derived.Laws.OwnMore
import Derived.OwnWalk
import Derived.Laws.AppendOwn
import Derived.Laws.Rows
import Derived.KernelRfl
import Derived.ChangeSame
import Derived.Lib.SmallJoins
import Derived.ProofKit
import Derived.Deep.Slices
import Derived.Deep.Fields
import Derived.Shelf.Strings.Prefix
import Derived.Shelf.Strings.Cut
import Derived.Shelf.Strings.Shaped
import Derived.Shelf.Strconv.Clone
import Derived.Shelf.Strings.BuilderF
import Derived.Shelf.Strings.BuilderK
import Derived.IntWalk
import Derived.Laws.BytesArg
import Derived.Lib.AtoiAllCases
import Derived.Lib.ItoaNum
import Derived.Lib.CutLaws
import Derived.Lib.IndexLaws

/- Small facts on what a call leaves as it was, for any program. Conditions: none beyond each lemma's own premises. -/
namespace Go.Proofs.YtogcpoaclkomjaaDoor
open Go.RowKit

theorem bcell {W w1 : World} (hb : Below W.heap.size W w1) : (∀ b o, b < W.heap.size → w1.cell? ⟨b, o, none⟩ = W.cell? ⟨b, o, none⟩) ∧ (∀ b o, b < W.heap.size → w1.frozen? ⟨b, o, none⟩ = W.frozen? ⟨b, o, none⟩) :=
  ⟨fun b o h => hb.cell (p := ⟨b, o, none⟩) h, fun b o h => hb.frozen (p := ⟨b, o, none⟩) h⟩
theorem b_al {n : Nat} {w W : World} (h : Below n w W) (hn : n ≤ w.heap.size) (o : Obj) : Below n w (W.alloc o) := h.alloc (Nat.le_trans hn h.size) o
theorem b_cl {n : Nat} {w W w1 : World} (h : Below n w W) (hn : n ≤ w.heap.size) (hb : Below W.heap.size W w1) : Below n w w1 := h.trans (hb.mono (Nat.le_trans hn h.size))
theorem b_st {n : Nat} {w W : World} {p : Addr} {v : Value} (h : Below n w W) (hp : n ≤ p.block) : Below n w (W.setCell p v) := h.setCell hp _
theorem b_dn {n k : Nat} {w W : World} (h : Below n w W) : Below n w (W.drewN k) := ⟨h.os, h.tape, h.output, h.size, h.block⟩
theorem b_dr {n : Nat} {w W : World} (h : Below n w W) : Below n w W.drew := ⟨h.os, h.tape, h.output, h.size, h.block⟩

theorem c_lt {W : World} {p : Addr} {v : Value} (h : W.cell? p = some v) : p.block < W.heap.size := World.block_lt_of_cell? W p h
theorem c_al {W : World} {p : Addr} {v : Value} (o : Obj) (h : W.cell? p = some v) : (W.alloc o).cell? p = some v := by
  rw [World.cell?_alloc_some W p o (by rw [h]; rfl), h]
theorem c_cl {W w1 : World} {p : Addr} {v : Value} (h : W.cell? p = some v) (hb : Below W.heap.size W w1) : w1.cell? p = some v := by
  rw [hb.cell (c_lt h), h]

end Go.Proofs.YtogcpoaclkomjaaDoor

/- The library's IndexByte lies in this program as the library's contract asks. Conditions: none. -/
namespace Go.Proofs.YtogcpoaclkomjaaDoor
open Go.Shelf
def ibL_ren : Go.Shelf.Ren := ⟨fun | 137 => 56 | 217 => 65 | 266 => 70 | n => n, fun | 9 => 9 | 5 => 5 | 3 => 3 | n => n, fun | n => n⟩
theorem ibL : Go.Proofs.Lays.n137 Tryd.prog ibL_ren := {
  mixed := by kernel_rfl
  f137 := Tryd.func56.trans (congrArg some (by kernel_rfl))
  f217 := Tryd.func65.trans (congrArg some (by kernel_rfl))
  f266 := Tryd.func70.trans (congrArg some (by kernel_rfl))
  t3 := Tryd.underlying3
  a3 := Tryd.isAgg3
  z3 := Tryd.sizeOf3
  v3 := Tryd.zeroValue3
  t5 := Tryd.underlying5
  a5 := Tryd.isAgg5
  z5 := Tryd.sizeOf5
  v5 := Tryd.zeroValue5
  t9 := Tryd.underlying9
  a9 := Tryd.isAgg9
  z9 := Tryd.sizeOf9
  v9 := Tryd.zeroValue9 }
open Go.RowKit in
theorem index_any (s : ByteArray) (c : Int) (w : World) :
    Calls Tryd.prog 56 #[.string s, .int .u8 c] w fun e w' => e = .returned (.int .i64 (Lib.indexByte s.data.toList c.toNat.toUInt8)) ∧ w' = w := Any.strings_IndexByte ibL s c w

end Go.Proofs.YtogcpoaclkomjaaDoor

/- Sets of minutes as lists of spans: plain facts on lists of pairs of numbers. Conditions: none beyond each lemma's own premises. -/
namespace Go.Proofs.YtogcpoaclkomjaaDoor

abbrev Sp := Int × Int

def hasS (s : Sp) (m : Int) : Bool := decide (s.1 ≤ m) && decide (m < s.2)

def hasL (l : List Sp) (m : Int) : Bool := l.any (fun s => hasS s m)

structure IsSet (l : List Sp) : Prop where
  right : ∀ s ∈ l, s.1 < s.2
  rise : l.Pairwise (fun s t => s.2 < t.1)

theorem hasS_iff {s : Sp} {m : Int} : hasS s m = true ↔ s.1 ≤ m ∧ m < s.2 := by simp [hasS]

theorem hasS_no {s : Sp} {m : Int} : hasS s m = false ↔ ¬ (s.1 ≤ m ∧ m < s.2) := by
  rw [← hasS_iff]; simp

theorem hasL_iff {l : List Sp} {m : Int} : hasL l m = true ↔ ∃ s ∈ l, s.1 ≤ m ∧ m < s.2 := by
  simp [hasL, hasS]

theorem hasL_no {l : List Sp} {m : Int} : hasL l m = false ↔ ∀ s ∈ l, ¬ (s.1 ≤ m ∧ m < s.2) := by
  constructor
  · intro h s hs hm
    have : hasL l m = true := hasL_iff.2 ⟨s, hs, hm⟩
    rw [h] at this; cases this
  · intro h
    cases hh : hasL l m with
    | false => rfl
    | true =>
      obtain ⟨s, hs, hm⟩ := hasL_iff.1 hh
      exact absurd hm (h s hs)

theorem hasL_nil (m : Int) : hasL [] m = false := rfl

theorem hasL_cons (s : Sp) (l : List Sp) (m : Int) : hasL (s :: l) m = (hasS s m || hasL l m) := rfl

theorem hasL_append (a b : List Sp) (m : Int) : hasL (a ++ b) m = (hasL a m || hasL b m) := by simp [hasL]

/-- Two lists have the same minutes. -/
theorem hasL_ext {a b : List Sp} {m n : Int} (h : hasL a m = true ↔ hasL b n = true) : hasL a m = hasL b n := by
  cases h1 : hasL a m <;> cases h2 : hasL b n <;> simp_all

theorem IsSet.nil : IsSet [] := ⟨by simp, List.Pairwise.nil⟩

theorem IsSet.tail {s : Sp} {l : List Sp} (h : IsSet (s :: l)) : IsSet l :=
  ⟨fun t ht => h.right t (List.mem_cons_of_mem _ ht), (List.pairwise_cons.1 h.rise).2⟩

theorem IsSet.head {s : Sp} {l : List Sp} (h : IsSet (s :: l)) : s.1 < s.2 := h.right s (List.mem_cons_self ..)

theorem IsSet.later {s : Sp} {l : List Sp} (h : IsSet (s :: l)) : ∀ t ∈ l, s.2 < t.1 := (List.pairwise_cons.1 h.rise).1

theorem IsSet.cons {s : Sp} {l : List Sp} (h : IsSet l) (h1 : s.1 < s.2) (h2 : ∀ t ∈ l, s.2 < t.1) : IsSet (s :: l) :=
  ⟨fun t ht => by
    rcases List.mem_cons.1 ht with rfl | ht
    · exact h1
    · exact h.right t ht, List.pairwise_cons.2 ⟨h2, h.rise⟩⟩

theorem IsSet.snoc {s : Sp} {l : List Sp} (h : IsSet l) (h1 : s.1 < s.2) (h2 : ∀ t ∈ l, t.2 < s.1) : IsSet (l ++ [s]) :=
  ⟨fun t ht => by
    rcases List.mem_append.1 ht with ht | ht
    · exact h.right t ht
    · rw [List.mem_singleton.1 ht]; exact h1, List.pairwise_append.2 ⟨h.rise, List.pairwise_singleton _ _, fun a ha b hb => by
      rw [List.mem_singleton.1 hb]; exact h2 a ha⟩⟩

theorem IsSet.init {s : Sp} {l : List Sp} (h : IsSet (l ++ [s])) : IsSet l ∧ s.1 < s.2 ∧ ∀ t ∈ l, t.2 < s.1 := by
  refine ⟨⟨fun t ht => h.right t (List.mem_append_left _ ht), (List.pairwise_append.1 h.rise).1⟩, h.right s (by simp), fun t ht => (List.pairwise_append.1 h.rise).2.2 t ht s (by simp)⟩

/-- Of each list there is one set with its minutes. -/
theorem set_unique : ∀ {a b : List Sp}, IsSet a → IsSet b → (∀ m, hasL a m = hasL b m) → a = b
  | [], [], _, _, _ => rfl
  | [], t :: b, _, hb, h => by
    have h1 := h t.1
    have : hasL (t :: b) t.1 = true := hasL_iff.2 ⟨t, List.mem_cons_self .., by have := hb.head; omega⟩
    rw [this] at h1; cases h1
  | s :: a, [], ha, _, h => by
    have h1 := h s.1
    have : hasL (s :: a) s.1 = true := hasL_iff.2 ⟨s, List.mem_cons_self .., by have := ha.head; omega⟩
    rw [this] at h1; cases h1
  | s :: a, t :: b, ha, hb, h => by
    have hs := ha.head
    have ht := hb.head
    have la := ha.later
    have lb := hb.later
    have e1 : s.1 = t.1 := by
      have h1 : hasL (t :: b) s.1 = true := by rw [← h]; exact hasL_iff.2 ⟨s, List.mem_cons_self .., by omega⟩
      have h2 : hasL (s :: a) t.1 = true := by rw [h]; exact hasL_iff.2 ⟨t, List.mem_cons_self .., by omega⟩
      obtain ⟨x, hx, hx1, hx2⟩ := hasL_iff.1 h1
      obtain ⟨y, hy, hy1, hy2⟩ := hasL_iff.1 h2
      have c1 : t.1 ≤ s.1 := by
        rcases List.mem_cons.1 hx with rfl | hx
        · exact hx1
        · have := lb x hx; omega
      have c2 : s.1 ≤ t.1 := by
        rcases List.mem_cons.1 hy with rfl | hy
        · exact hy1
        · have := la y hy; omega
      omega
    have e2 : s.2 = t.2 := by
      rcases Int.lt_trichotomy s.2 t.2 with hlt | he | hgt
      · have h1 : hasL (s :: a) s.2 = true := by rw [h]; exact hasL_iff.2 ⟨t, List.mem_cons_self .., by omega⟩
        obtain ⟨x, hx, hx1, hx2⟩ := hasL_iff.1 h1
        rcases List.mem_cons.1 hx with rfl | hx
        · omega
        · have := la x hx; omega
      · exact he
      · have h1 : hasL (t :: b) t.2 = true := by rw [← h]; exact hasL_iff.2 ⟨s, List.mem_cons_self .., by omega⟩
        obtain ⟨x, hx, hx1, hx2⟩ := hasL_iff.1 h1
        rcases List.mem_cons.1 hx with rfl | hx
        · omega
        · have := lb x hx; omega
    have e : s = t := Prod.ext e1 e2
    subst e
    congr 1
    refine set_unique ha.tail hb.tail fun m => ?_
    have hm := h m
    rw [hasL_cons, hasL_cons] at hm
    cases hsm : hasS s m with
    | false => simpa [hsm] using hm
    | true =>
      have hh := hasS_iff.1 hsm
      rw [hasL_no.2 fun x hx hxm => by have := la x hx; omega, hasL_no.2 fun x hx hxm => by have := lb x hx; omega]

/-- What Right asks at place k. -/
def okAt (l : List Sp) (k : Nat) : Bool := decide ((l.getD k (0, 0)).1 < (l.getD k (0, 0)).2) && (decide (k = 0) || decide ((l.getD (k - 1) (0, 0)).2 < (l.getD k (0, 0)).1))

def rightB (l : List Sp) : Bool := (List.range l.length).all (okAt l)

theorem rightB_iff (l : List Sp) : rightB l = true ↔ IsSet l := by
  constructor
  · intro h
    have hk : ∀ k, k < l.length → okAt l k = true := fun k hk => by
      have := List.all_eq_true.1 h k (List.mem_range.2 hk); simpa using this
    have hr : ∀ k (hk : k < l.length), l[k].1 < l[k].2 := fun k hkl => by
      have := hk k hkl
      simp [okAt, List.getD, hkl] at this
      exact this.1
    have hs : ∀ k (h0 : 0 < k) (hk : k < l.length), l[k - 1].2 < l[k].1 := fun k h0 hkl => by
      have := hk k hkl
      have h1 : k - 1 < l.length := by omega
      simp [okAt, List.getD, hkl, h1] at this
      rcases this.2 with h2 | h2
      · omega
      · exact h2
    refine ⟨fun s hs' => ?_, ?_⟩
    · obtain ⟨k, hkl, rfl⟩ := List.mem_iff_getElem.1 hs'
      exact hr k hkl
    · rw [List.pairwise_iff_getElem]
      have key : ∀ (d i : Nat) (hj : i + d + 1 < l.length), (l[i]'(by omega)).2 < l[i + d + 1].1 := by
        intro d
        induction d with
        | zero => intro i hj; exact hs (i + 1) (by omega) hj
        | succ d ih =>
          intro i hj
          have h1 := ih i (by omega)
          have h2 := hr (i + d + 1) (by omega)
          have h3 := hs (i + d + 1 + 1) (by omega) hj
          have h4 : (l[i + d + 1 + 1 - 1]'(by omega)) = l[i + d + 1] := rfl
          rw [h4] at h3
          have h5 : i + (d + 1) + 1 = i + d + 1 + 1 := by omega
          simp only [h5]
          omega
      intro i j hi hj hij
      obtain ⟨d, rfl⟩ : ∃ d, j = i + d + 1 := ⟨j - i - 1, by omega⟩
      exact key d i hj
  · intro h
    refine List.all_eq_true.2 fun k hk => ?_
    have hk := List.mem_range.1 hk
    have h1 := h.right l[k] (List.getElem_mem hk)
    simp only [okAt, List.getD, hk, List.getElem?_eq_getElem, Option.getD_some, h1, decide_true, Bool.true_and, Bool.or_eq_true, decide_eq_true_eq]
    by_cases h0 : k = 0
    · exact Or.inl h0
    · refine Or.inr ?_
      have h2 : k - 1 < l.length := by omega
      have := List.pairwise_iff_getElem.1 h.rise (k - 1) k h2 hk (by omega)
      simpa [h2] using this

theorem rightB_no {l : List Sp} {k : Nat} (hk : k < l.length) (h : okAt l k = false) : rightB l = false := by
  cases hh : rightB l with
  | false => rfl
  | true =>
    have := List.all_eq_true.1 hh k (List.mem_range.2 hk)
    rw [h] at this; cases this

theorem rightB_yes {l : List Sp} (h : ∀ k, k < l.length → okAt l k = true) : rightB l = true :=
  List.all_eq_true.2 fun k hk => h k (List.mem_range.1 hk)

/-- Those that are right. -/
def onlyR (l : List Sp) : List Sp := l.filter fun s => decide (s.1 < s.2)

theorem hasL_onlyR (l : List Sp) (m : Int) : hasL (onlyR l) m = hasL l m := by
  refine hasL_ext ⟨fun h => ?_, fun h => ?_⟩
  · obtain ⟨s, hs, hm⟩ := hasL_iff.1 h
    exact hasL_iff.2 ⟨s, (List.mem_filter.1 hs).1, hm⟩
  · obtain ⟨s, hs, hm⟩ := hasL_iff.1 h
    exact hasL_iff.2 ⟨s, List.mem_filter.2 ⟨hs, by simp; omega⟩, hm⟩

theorem hasL_perm {a b : List Sp} (h : a.Perm b) (m : Int) : hasL a m = hasL b m := by
  refine hasL_ext ⟨fun hh => ?_, fun hh => ?_⟩
  · obtain ⟨s, hs, hm⟩ := hasL_iff.1 hh
    exact hasL_iff.2 ⟨s, h.mem_iff.1 hs, hm⟩
  · obtain ⟨s, hs, hm⟩ := hasL_iff.1 hh
    exact hasL_iff.2 ⟨s, h.mem_iff.2 hs, hm⟩

/-- One span more, put to a set whose last one begins no later. -/
def put1 (set : List Sp) (s : Sp) : List Sp :=
  match set.getLast? with
  | some t => if s.1 ≤ t.2 then set.dropLast ++ [(t.1, if s.2 ≤ t.2 then t.2 else s.2)] else set ++ [s]
  | none => [s]

def putAll (l : List Sp) : List Sp := l.foldl put1 []

theorem put1_nil (s : Sp) : put1 [] s = [s] := rfl

theorem put1_join (a : List Sp) (t s : Sp) (h : s.1 ≤ t.2) : put1 (a ++ [t]) s = a ++ [(t.1, if s.2 ≤ t.2 then t.2 else s.2)] := by
  simp [put1, h]

theorem put1_new (a : List Sp) (t s : Sp) (h : ¬ s.1 ≤ t.2) : put1 (a ++ [t]) s = a ++ [t] ++ [s] := by
  simp [put1, h]

theorem put1_len (set : List Sp) (s : Sp) : (put1 set s).length ≤ set.length + 1 := by
  rcases List.eq_nil_or_concat set with rfl | ⟨a, t, rfl⟩
  · simp [put1_nil]
  · by_cases h : s.1 ≤ t.2
    · simp [List.concat_eq_append, put1_join a t s h]
    · simp [List.concat_eq_append, put1_new a t s h]

theorem put1_ok {set : List Sp} {s : Sp} (h : IsSet set) (hs : s.1 < s.2) (hb : ∀ t ∈ set, t.1 ≤ s.1) :
    IsSet (put1 set s) ∧ (∀ m, hasL (put1 set s) m = (hasL set m || hasS s m)) ∧ (∀ t ∈ put1 set s, t.1 ≤ s.1) := by
  rcases List.eq_nil_or_concat set with rfl | ⟨a, t, rfl⟩
  · rw [put1_nil]
    exact ⟨IsSet.nil.cons hs (by simp), fun m => by simp [hasL], by simp⟩
  · rw [List.concat_eq_append] at *
    have hi := h.init
    have ht1 : t.1 ≤ s.1 := hb t (by simp)
    by_cases c : s.1 ≤ t.2
    · rw [put1_join a t s c]
      refine ⟨hi.1.snoc (s := (t.1, if s.2 ≤ t.2 then t.2 else s.2)) ?_ hi.2.2, fun m => ?_, fun u hu => ?_⟩
      · show t.1 < if s.2 ≤ t.2 then t.2 else s.2
        split <;> omega
      · rw [hasL_append, hasL_append, Bool.or_assoc]
        congr 1
        simp only [hasL, List.any_cons, List.any_nil, Bool.or_false]
        rw [Bool.eq_iff_iff, Bool.or_eq_true, hasS_iff, hasS_iff, hasS_iff]
        show (t.1 ≤ m ∧ m < if s.2 ≤ t.2 then t.2 else s.2) ↔ _
        split <;> omega
      · rcases List.mem_append.1 hu with hu | hu
        · exact hb u (by simp [hu])
        · rw [List.mem_singleton.1 hu]; exact ht1
    · rw [put1_new a t s c]
      refine ⟨h.snoc hs fun u hu => ?_, fun m => ?_, fun u hu => ?_⟩
      · rcases List.mem_append.1 hu with hu | hu
        · have := hi.2.2 u hu; omega
        · rw [List.mem_singleton.1 hu]; omega
      · rw [hasL_append (a ++ [t])]
        simp [hasL]
      · rcases List.mem_append.1 hu with hu | hu
        · exact hb u hu
        · rw [List.mem_singleton.1 hu]; exact Int.le_refl _

theorem putAll_from : ∀ (l set : List Sp), IsSet set → (∀ s ∈ l, s.1 < s.2) → l.Pairwise (fun s t => s.1 ≤ t.1) → (∀ t ∈ set, ∀ s ∈ l, t.1 ≤ s.1) →
    IsSet (l.foldl put1 set) ∧ ∀ m, hasL (l.foldl put1 set) m = (hasL set m || hasL l m)
  | [], set, h, _, _, _ => ⟨h, fun m => by simp [hasL]⟩
  | s :: l, set, h, hr, hp, hb => by
    have hp' := List.pairwise_cons.1 hp
    have h1 := put1_ok h (hr s (List.mem_cons_self ..)) (fun t ht => hb t ht s (List.mem_cons_self ..))
    have h2 := putAll_from l (put1 set s) h1.1 (fun u hu => hr u (List.mem_cons_of_mem _ hu)) hp'.2 (fun t ht u hu => Int.le_trans (h1.2.2 t ht) (hp'.1 u hu))
    refine ⟨h2.1, fun m => ?_⟩
    rw [List.foldl_cons, h2.2, h1.2.1, hasL_cons, Bool.or_assoc]

theorem putAll_ok {l d : List Sp} (hp : d.Perm (onlyR l)) (hs : d.Pairwise (fun s t => s.1 ≤ t.1)) : IsSet (putAll d) ∧ ∀ m, hasL (putAll d) m = hasL l m := by
  have h := putAll_from d [] IsSet.nil (fun s h => by
    have := (List.mem_filter.1 (hp.mem_iff.1 h)).2
    simpa using this) hs (by simp)
  exact ⟨h.1, fun m => by rw [putAll, h.2, hasL_nil, Bool.false_or, hasL_perm hp, hasL_onlyR]⟩

end Go.Proofs.YtogcpoaclkomjaaDoor

/- A listed package-level variable, wherever it stands on a row's list; an array of texts. Conditions: none beyond each lemma's own premises. -/
namespace Go.Proofs.YtogcpoaclkomjaaDoor

theorem laid_at {P : Program} {W : World} {n : String} {d : DataW Unit} : ∀ {l : List (String × DataW Unit)}, laidMet P l W → (n, d) ∈ l → ∃ r, laidMet P ((n, d) :: r) W
  | [], _, hm => by cases hm
  | x :: r, h, hm => by
    rcases List.mem_cons.1 hm with rfl | hm
    · exact ⟨r, h⟩
    · exact laid_at h.tail hm

/-- An array of texts that reads as the list holds these, cell for cell. -/
theorem texts_of_head {P : Program} {W : World} {name : String} {zs : List (List UInt8)} {rest : List (String × DataW Unit)} {g : Nat} {t e : TypeId} {n : Nat}
    (hg : P.globalNamed name = some g) (hty : (P.globals[g]?).map (·.type) = some t) (ht : P.underlying t = some (.array n e)) (he : P.underlying e = some .string) (hce : P.cellsOf e = 1)
    (h : laidMet P ((name, .agg (zs.map fun z => .lit (.string z))) :: rest) W) : ∀ k z, zs[k]? = some z → W.cell? ⟨g, k, none⟩ = some (.string ⟨z.toArray⟩) := by
  intro k z hz
  obtain ⟨ps, ⟨g', t', cs, fuel, p, q, hg', ht', hvar, hd, _, _⟩, _⟩ := h
  obtain rfl := Option.some.inj (hg.symm.trans hg')
  obtain rfl := Option.some.inj (hty.symm.trans ht')
  obtain ⟨xs, m, rfl, hx, _, hn, hel⟩ := DataW.trod_array ht hd
  have hxs : xs.map (·.1) = zs.map fun z => (DataW.lit (.string z) : DataW Unit) := by
    have := congrArg Prod.fst hx
    simpa using this.symm
  have hl : zs.length = xs.length := by
    have := congrArg List.length hxs
    simpa using this.symm
  have hkn : k < n := by
    have := (List.getElem?_eq_some_iff.1 hz).1
    omega
  have hk := hel k hkn
  have hkx : k < xs.length := by omega
  rw [List.getElem?_eq_getElem hkx] at hk
  obtain ⟨s, hc, hs, _⟩ := DataW.trod_string he hk
  have hsz : s.data.toList = z := by
    have h1 : (xs.map (·.1))[k]? = some (DataW.lit (.string s.data.toList) : DataW Unit) := by
      rw [List.getElem?_map, List.getElem?_eq_getElem hkx, hs]; rfl
    rw [hxs, List.getElem?_map, hz] at h1
    simpa using h1.symm
  subst hsz
  have h2 : cs[k]? = some (.string s) := by
    have := congrArg (·[0]?) hc
    simp [hce] at this
    simpa using this
  rw [World.var?_cell hg hvar k, h2]

end Go.Proofs.YtogcpoaclkomjaaDoor

/- The library's Itoa and Atoi lie in this program as the library's contracts ask. Conditions: as each theorem says. -/
namespace Go.Proofs.YtogcpoaclkomjaaDoor
open Go.Shelf
def itoaL_ren : Go.Shelf.Ren := ⟨fun | 171 => 63 | 243 => 69 | 246 => 79 | 283 => 83 | 284 => 84 | 285 => 85 | 286 => 86 | 129 => 90 | 317 => 89 | 318 => 91 | 319 => 92 | 320 => 93 | 337 => 94 | 338 => 95 | n => n, fun | 3 => 3 | 9 => 9 | 2 => 2 | 4 => 4 | 171 => 116 | 0 => 0 | 53 => 110 | 37 => 58 | 5 => 5 | 173 => 119 | 212 => 126 | 51 => 107 | 20 => 20 | 213 => 127 | 46 => 99 | 232 => 130 | 233 => 131 | n => n, fun | 17 => 3 | 18 => 4 | 19 => 5 | n => n⟩
theorem itoaL : Go.Proofs.LaysM.n171 Tryd.prog itoaL_ren := {
  mixed := by kernel_rfl
  f129 := Tryd.func90.trans (congrArg some (by kernel_rfl))
  f171 := Tryd.func63.trans (congrArg some (by kernel_rfl))
  f243 := Tryd.func69.trans (congrArg some (by kernel_rfl))
  f246 := Tryd.func79.trans (congrArg some (by kernel_rfl))
  f283 := Tryd.func83.trans (congrArg some (by kernel_rfl))
  f284 := Tryd.func84.trans (congrArg some (by kernel_rfl))
  f285 := Tryd.func85.trans (congrArg some (by kernel_rfl))
  f286 := Tryd.func86.trans (congrArg some (by kernel_rfl))
  f317 := Tryd.func89.trans (congrArg some (by kernel_rfl))
  f318 := Tryd.func91.trans (congrArg some (by kernel_rfl))
  f319 := Tryd.func92.trans (congrArg some (by kernel_rfl))
  f320 := Tryd.func93.trans (congrArg some (by kernel_rfl))
  f337 := Tryd.func94.trans (congrArg some (by kernel_rfl))
  f338 := Tryd.func95.trans (congrArg some (by kernel_rfl))
  t0 := Tryd.underlying0
  a0 := Tryd.isAgg0
  z0 := Tryd.sizeOf0
  v0 := Tryd.zeroValue0
  t2 := Tryd.underlying2
  a2 := Tryd.isAgg2
  z2 := Tryd.sizeOf2
  v2 := Tryd.zeroValue2
  t3 := Tryd.underlying3
  a3 := Tryd.isAgg3
  z3 := Tryd.sizeOf3
  v3 := Tryd.zeroValue3
  t4 := Tryd.underlying4
  a4 := Tryd.isAgg4
  z4 := Tryd.sizeOf4
  v4 := Tryd.zeroValue4
  t5 := Tryd.underlying5
  a5 := Tryd.isAgg5
  z5 := Tryd.sizeOf5
  v5 := Tryd.zeroValue5
  t9 := Tryd.underlying9
  a9 := Tryd.isAgg9
  z9 := Tryd.sizeOf9
  v9 := Tryd.zeroValue9
  t20 := Tryd.underlying20
  a20 := Tryd.isAgg20
  z20 := Tryd.sizeOf20
  v20 := Tryd.zeroValue20
  t37 := Tryd.underlying58
  a37 := Tryd.isAgg58
  z37 := Tryd.sizeOf58
  v37 := Tryd.zeroValue58
  t46 := Tryd.underlying99
  a46 := Tryd.isAgg99
  z46 := Tryd.sizeOf99
  v46 := Tryd.zeroValue99
  t51 := Tryd.underlying107
  a51 := Tryd.isAgg107
  z51 := Tryd.sizeOf107
  v51 := Tryd.zeroValue107
  t53 := Tryd.underlying110
  a53 := Tryd.isAgg110
  z53 := Tryd.sizeOf110
  v53 := Tryd.zeroValue110
  t171 := Tryd.underlying116
  a171 := Tryd.isAgg116
  z171 := Tryd.sizeOf116
  v171 := Tryd.zeroValue116
  t173 := Tryd.underlying119
  a173 := Tryd.isAgg119
  z173 := Tryd.sizeOf119
  v173 := Tryd.zeroValue119
  t212 := Tryd.underlying126
  a212 := Tryd.isAgg126
  z212 := Tryd.sizeOf126
  v212 := Tryd.zeroValue126
  t213 := Tryd.underlying127
  a213 := Tryd.isAgg127
  z213 := Tryd.sizeOf127
  t232 := Tryd.underlying130
  a232 := Tryd.isAgg130
  z232 := Tryd.sizeOf130
  v232 := Tryd.zeroValue130
  t233 := Tryd.underlying131
  a233 := Tryd.isAgg131
  z233 := Tryd.sizeOf131
  v233 := Tryd.zeroValue131
  g17 := by kernel_rfl
  g18 := by kernel_rfl
  g19 := by kernel_rfl
  i0 := by kernel_rfl
  i2 := by kernel_rfl
  i3 := by kernel_rfl
  i4 := by kernel_rfl
  i5 := by kernel_rfl
  i9 := by kernel_rfl
  i20 := by kernel_rfl
  i37 := by kernel_rfl
  i46 := by kernel_rfl
  i51 := by kernel_rfl
  i53 := by kernel_rfl
  i171 := by kernel_rfl
  i173 := by kernel_rfl
  i212 := by kernel_rfl
  i232 := by kernel_rfl
  i233 := by kernel_rfl
  m17 := by kernel_rfl
  m18 := by kernel_rfl
  m19 := by kernel_rfl }
def atoiL_ren : Go.Shelf.Ren := ⟨fun | 172 => 59 | 244 => 67 | 245 => 68 | 247 => 74 | 279 => 75 | 280 => 76 | 281 => 77 | 282 => 78 | 287 => 81 | 316 => 64 | 171 => 63 | 205 => 82 | 321 => 87 | 322 => 88 | 243 => 69 | 246 => 79 | 283 => 83 | 284 => 84 | 285 => 85 | 286 => 86 | 129 => 90 | 317 => 89 | 318 => 91 | 319 => 92 | 320 => 93 | 337 => 94 | 338 => 95 | n => n, fun | 9 => 9 | 3 => 3 | 75 => 62 | 76 => 63 | 4 => 4 | 5 => 5 | 167 => 100 | 37 => 58 | 0 => 0 | 85 => 101 | 2 => 2 | 168 => 103 | 53 => 110 | 175 => 111 | 46 => 99 | 210 => 114 | 127 => 83 | 145 => 124 | 143 => 122 | 21 => 21 | 171 => 116 | 173 => 119 | 212 => 126 | 51 => 107 | 20 => 20 | 213 => 127 | 232 => 130 | 233 => 131 | 80 => 65 | n => n, fun | 15 => 1 | 16 => 2 | 17 => 3 | 18 => 4 | 19 => 5 | n => n⟩
theorem atoiL : Go.Proofs.LaysC.n172 Tryd.prog atoiL_ren := {
  mixed := by kernel_rfl
  f129 := Tryd.func90.trans (congrArg some (by kernel_rfl))
  f171 := Tryd.func63.trans (congrArg some (by kernel_rfl))
  f172 := Tryd.func59.trans (congrArg some (by kernel_rfl))
  f205 := Tryd.func82.trans (congrArg some (by kernel_rfl))
  f243 := Tryd.func69.trans (congrArg some (by kernel_rfl))
  f244 := Tryd.func67.trans (congrArg some (by kernel_rfl))
  f245 := Tryd.func68.trans (congrArg some (by kernel_rfl))
  f246 := Tryd.func79.trans (congrArg some (by kernel_rfl))
  f247 := Tryd.func74.trans (congrArg some (by kernel_rfl))
  f279 := Tryd.func75.trans (congrArg some (by kernel_rfl))
  f280 := Tryd.func76.trans (congrArg some (by kernel_rfl))
  f281 := Tryd.func77.trans (congrArg some (by kernel_rfl))
  f282 := Tryd.func78.trans (congrArg some (by kernel_rfl))
  f283 := Tryd.func83.trans (congrArg some (by kernel_rfl))
  f284 := Tryd.func84.trans (congrArg some (by kernel_rfl))
  f285 := Tryd.func85.trans (congrArg some (by kernel_rfl))
  f286 := Tryd.func86.trans (congrArg some (by kernel_rfl))
  f287 := Tryd.func81.trans (congrArg some (by kernel_rfl))
  f316 := Tryd.func64.trans (congrArg some (by kernel_rfl))
  f317 := Tryd.func89.trans (congrArg some (by kernel_rfl))
  f318 := Tryd.func91.trans (congrArg some (by kernel_rfl))
  f319 := Tryd.func92.trans (congrArg some (by kernel_rfl))
  f320 := Tryd.func93.trans (congrArg some (by kernel_rfl))
  f321 := Tryd.func87.trans (congrArg some (by kernel_rfl))
  f322 := Tryd.func88.trans (congrArg some (by kernel_rfl))
  f337 := Tryd.func94.trans (congrArg some (by kernel_rfl))
  f338 := Tryd.func95.trans (congrArg some (by kernel_rfl))
  t0 := Tryd.underlying0
  a0 := Tryd.isAgg0
  z0 := Tryd.sizeOf0
  v0 := Tryd.zeroValue0
  t2 := Tryd.underlying2
  a2 := Tryd.isAgg2
  z2 := Tryd.sizeOf2
  v2 := Tryd.zeroValue2
  t3 := Tryd.underlying3
  a3 := Tryd.isAgg3
  z3 := Tryd.sizeOf3
  v3 := Tryd.zeroValue3
  t4 := Tryd.underlying4
  a4 := Tryd.isAgg4
  z4 := Tryd.sizeOf4
  v4 := Tryd.zeroValue4
  t5 := Tryd.underlying5
  a5 := Tryd.isAgg5
  z5 := Tryd.sizeOf5
  v5 := Tryd.zeroValue5
  t9 := Tryd.underlying9
  a9 := Tryd.isAgg9
  z9 := Tryd.sizeOf9
  v9 := Tryd.zeroValue9
  t20 := Tryd.underlying20
  a20 := Tryd.isAgg20
  z20 := Tryd.sizeOf20
  v20 := Tryd.zeroValue20
  t21 := Tryd.underlying21
  a21 := Tryd.isAgg21
  z21 := Tryd.sizeOf21
  v21 := Tryd.zeroValue21
  t37 := Tryd.underlying58
  a37 := Tryd.isAgg58
  z37 := Tryd.sizeOf58
  v37 := Tryd.zeroValue58
  t46 := Tryd.underlying99
  a46 := Tryd.isAgg99
  z46 := Tryd.sizeOf99
  v46 := Tryd.zeroValue99
  t51 := Tryd.underlying107
  a51 := Tryd.isAgg107
  z51 := Tryd.sizeOf107
  v51 := Tryd.zeroValue107
  t53 := Tryd.underlying110
  a53 := Tryd.isAgg110
  z53 := Tryd.sizeOf110
  v53 := Tryd.zeroValue110
  t75 := Tryd.underlying62
  a75 := Tryd.isAgg62
  z75 := Tryd.sizeOf62
  v75 := Tryd.zeroValue62
  t76 := Tryd.underlying63
  a76 := Tryd.isAgg63
  z76 := Tryd.sizeOf63
  v76 := Tryd.zeroValue63
  t85 := Tryd.underlying101
  a85 := Tryd.isAgg101
  z85 := Tryd.sizeOf101
  v85 := Tryd.zeroValue101
  t127 := Tryd.underlying83
  a127 := Tryd.isAgg83
  z127 := Tryd.sizeOf83
  v127 := Tryd.zeroValue83
  t143 := Tryd.underlying122
  a143 := Tryd.isAgg122
  z143 := Tryd.sizeOf122
  v143 := Tryd.zeroValue122
  t145 := Tryd.underlying124
  a145 := Tryd.isAgg124
  z145 := Tryd.sizeOf124
  v145 := Tryd.zeroValue124
  t167 := Tryd.underlying100
  a167 := Tryd.isAgg100
  z167 := Tryd.sizeOf100
  v167 := Tryd.zeroValue100
  t168 := Tryd.underlying103
  a168 := Tryd.isAgg103
  z168 := Tryd.sizeOf103
  v168 := Tryd.zeroValue103
  t171 := Tryd.underlying116
  a171 := Tryd.isAgg116
  z171 := Tryd.sizeOf116
  v171 := Tryd.zeroValue116
  t173 := Tryd.underlying119
  a173 := Tryd.isAgg119
  z173 := Tryd.sizeOf119
  v173 := Tryd.zeroValue119
  t175 := Tryd.underlying111
  a175 := Tryd.isAgg111
  z175 := Tryd.sizeOf111
  v175 := Tryd.zeroValue111
  t210 := Tryd.underlying114
  a210 := Tryd.isAgg114
  z210 := Tryd.sizeOf114
  v210 := Tryd.zeroValue114
  t212 := Tryd.underlying126
  a212 := Tryd.isAgg126
  z212 := Tryd.sizeOf126
  v212 := Tryd.zeroValue126
  t213 := Tryd.underlying127
  a213 := Tryd.isAgg127
  z213 := Tryd.sizeOf127
  t232 := Tryd.underlying130
  a232 := Tryd.isAgg130
  z232 := Tryd.sizeOf130
  v232 := Tryd.zeroValue130
  t233 := Tryd.underlying131
  a233 := Tryd.isAgg131
  z233 := Tryd.sizeOf131
  v233 := Tryd.zeroValue131
  g15 := by kernel_rfl
  g16 := by kernel_rfl
  g17 := by kernel_rfl
  g18 := by kernel_rfl
  g19 := by kernel_rfl
  t80 := Tryd.underlying65
  a80 := Tryd.isAgg65
  z80 := Tryd.sizeOf65
  v80 := Tryd.zeroValue65
  i0 := by kernel_rfl
  i2 := by kernel_rfl
  i3 := by kernel_rfl
  i4 := by kernel_rfl
  i5 := by kernel_rfl
  i9 := by kernel_rfl
  i20 := by kernel_rfl
  i21 := by kernel_rfl
  i37 := by kernel_rfl
  i46 := by kernel_rfl
  i51 := by kernel_rfl
  i53 := by kernel_rfl
  i75 := by kernel_rfl
  i76 := by kernel_rfl
  i80 := by kernel_rfl
  i85 := by kernel_rfl
  i127 := by kernel_rfl
  i143 := by kernel_rfl
  i145 := by kernel_rfl
  i167 := by kernel_rfl
  i168 := by kernel_rfl
  i171 := by kernel_rfl
  i173 := by kernel_rfl
  i175 := by kernel_rfl
  i210 := by kernel_rfl
  i212 := by kernel_rfl
  i232 := by kernel_rfl
  i233 := by kernel_rfl
  m15 := by kernel_rfl
  m16 := by kernel_rfl
  m17 := by kernel_rfl
  m18 := by kernel_rfl
  m19 := by kernel_rfl
  c0 := by kernel_rfl
  c2 := by kernel_rfl
  c3 := by kernel_rfl
  c4 := by kernel_rfl
  c5 := by kernel_rfl
  c9 := by kernel_rfl
  c20 := by kernel_rfl
  c21 := by kernel_rfl
  c37 := by kernel_rfl
  c46 := by kernel_rfl
  c51 := by kernel_rfl
  c53 := by kernel_rfl
  c75 := by kernel_rfl
  c76 := by kernel_rfl
  c80 := by kernel_rfl
  c85 := by kernel_rfl
  c127 := by kernel_rfl
  c143 := by kernel_rfl
  c145 := by kernel_rfl
  c167 := by kernel_rfl
  c168 := by kernel_rfl
  c171 := by kernel_rfl
  c173 := by kernel_rfl
  c175 := by kernel_rfl
  c210 := by kernel_rfl
  c212 := by kernel_rfl
  c213 := by kernel_rfl
  c232 := by kernel_rfl
  c233 := by kernel_rfl }
open Go.RowKit in
theorem itoa_any (n : Int) (h0 : -9223372036854775808 ≤ n) (h1 : n ≤ 9223372036854775807) (w : World) (htab : Lib.TabIs Tryd.prog w "internal/strconv.uint64pow10" .u64 Lib.pow10Tab) :
    Calls Tryd.prog 63 #[.int .i64 n] w fun e w' => e = .returned (.string ⟨(Lib.itoa n).toArray⟩) ∧ ∃ k os, w' = Go.Sort.grow (w.drewN k) os := Any.strconv_Itoa itoaL n h0 h1 w htab
open Go.RowKit in
theorem atoi_ok (s : ByteArray) (hmax : s.size ≤ 9223372036854775806) (v : Int) (h : Lib.atoiAll s.data.toList = .ok v) (w : World) :
    Calls Tryd.prog 59 #[.string s] w fun e w' => e = .returned (.tuple #[.int .i64 v, .nilIface]) ∧ (w' = w ∨ ∃ t, w' = Lib.bytesWorld w 5 t) := Any.strconv_Atoi_ok atoiL s hmax v h w
open Go.RowKit in
theorem atoi_range (s : ByteArray) (hlim : s.size ≤ 281474976710656) (h : Lib.atoiAll s.data.toList = .range) (tp : TypeId) (p : Value) (w : World) (hvar : w.var? Tryd.prog "strconv.ErrRange" = some #[.iface tp p]) :
    Calls Tryd.prog 59 #[.string s] w fun e w' => ∃ N, e = .returned (.tuple #[.int .i64 (Lib.atoiSat s.data.toList), .iface 103 (.pointer (some ⟨N, 0, none⟩))]) ∧ w.heap.size ≤ N ∧ Below w.heap.size w w' :=
  (Any.strconv_Atoi_range_var atoiL s hlim h tp p w hvar).mono fun _ _ ⟨N, he, h1, _, h3⟩ => ⟨N, he, h1, h3⟩

end Go.Proofs.YtogcpoaclkomjaaDoor

/- Timelines in plain words: which record is wrong first, the minutes' kinds, the normal one. Conditions: none beyond each lemma's own premises. -/
namespace Go.Proofs.YtogcpoaclkomjaaDoor

/-- A record: its kind, its begin, its end. -/
abbrev Rc := Int × Int × Int
def rz : Rc := (0, 0, 0)

/-- What is wrong with a record alone; and by the end of the one ahead. -/
def aloneV (x y z : Int) : Int := if 0 ≤ x ∧ x < 4 then (if (0 ≤ y ∧ y ≤ 40320) ∧ (0 ≤ z ∧ z ≤ 40320) then (if y < z then 0 else 3) else 4) else 2
def behindV (t y : Int) : Int := if t < y then 5 else if y < t then 6 else 0

theorem alone_zero {x y z : Int} : aloneV x y z = 0 ↔ (0 ≤ x ∧ x < 4) ∧ (0 ≤ y ∧ y < z ∧ z ≤ 40320) := by
  unfold aloneV
  repeat' split
  all_goals first | (constructor <;> intro h <;> omega) | (constructor <;> intro h <;> first | omega | (exfalso; omega))

theorem behind_zero {t y : Int} : behindV t y = 0 ↔ y = t := by
  unfold behindV
  repeat' split
  all_goals (constructor <;> intro h <;> omega)

/-- What is wrong with the record at k. -/
def faultV (l : List Rc) (k : Nat) : Int :=
  if aloneV (l.getD k rz).1 (l.getD k rz).2.1 (l.getD k rz).2.2 = 0 ∧ k ≠ 0 then behindV (l.getD (k - 1) rz).2.2 (l.getD k rz).2.1 else aloneV (l.getD k rz).1 (l.getD k rz).2.1 (l.getD k rz).2.2

theorem fault_alone {l : List Rc} {k : Nat} {x y z : Int} (h : l.getD k rz = (x, y, z)) (ha : aloneV x y z ≠ 0) : faultV l k = aloneV x y z := by
  unfold faultV
  rw [h, if_neg (fun c => ha c.1)]

theorem fault_first {l : List Rc} {x y z : Int} (h : l.getD 0 rz = (x, y, z)) : faultV l 0 = aloneV x y z := by
  unfold faultV
  rw [h, if_neg (fun c => c.2 rfl)]

theorem fault_next {l : List Rc} {j : Nat} {x y z a b c : Int} (h : l.getD (j + 1) rz = (x, y, z)) (ha : aloneV x y z = 0) (hp : l.getD j rz = (a, b, c)) : faultV l (j + 1) = behindV c y := by
  unfold faultV
  rw [h, if_pos ⟨ha, by omega⟩, show j + 1 - 1 = j by omega, hp]

/-- The first record that is wrong, and what is wrong. -/
def checkV (l : List Rc) : Nat × Int := match (List.range l.length).find? (fun j => faultV l j != 0) with | none => (0, 0) | some j => (j, faultV l j)

theorem check_ok {l : List Rc} (h : ∀ j, j < l.length → faultV l j = 0) : checkV l = (0, 0) := by
  unfold checkV
  have e : (List.range l.length).find? (fun j => faultV l j != 0) = none := by
    rw [List.find?_eq_none]
    intro j hj
    simp [h j (by simpa using hj)]
  rw [e]

theorem check_bad {l : List Rc} {k : Nat} {e : Int} (hk : k < l.length) (h : ∀ j, j < k → faultV l j = 0) (he : faultV l k = e) (hne : e ≠ 0) : checkV l = (k, e) := by
  unfold checkV
  have e1 : (List.range l.length).find? (fun j => faultV l j != 0) = some k := by
    rw [List.find?_range_eq_some]
    refine ⟨by simp [he, hne], by simpa using hk, fun j hj => by simp [h j hj]⟩
  rw [e1, ← he]

theorem check_zero {l : List Rc} (h : (checkV l).2 = 0) : ∀ j, j < l.length → faultV l j = 0 := by
  intro j hj
  rcases hf : (List.range l.length).find? (fun j => faultV l j != 0) with _ | k
  · rw [List.find?_eq_none] at hf
    have := hf j (by simpa using hj)
    simpa using this
  · have hk := hf
    rw [List.find?_range_eq_some] at hk
    unfold checkV at h
    rw [hf] at h
    have := hk.1
    simp at this h
    exact absurd h this

/-- A timeline from e on. -/
def Tl (e : Int) : List Rc → Prop
  | [] => True
  | r :: l => ((0 ≤ r.1 ∧ r.1 < 4) ∧ (0 ≤ r.2.1 ∧ r.2.1 < r.2.2 ∧ r.2.2 ≤ 40320)) ∧ r.2.1 = e ∧ Tl r.2.2 l

def beg : List Rc → Int
  | [] => 0
  | r :: _ => r.2.1

def fin : List Rc → Int
  | [] => 0
  | [r] => r.2.2
  | _ :: r :: l => fin (r :: l)

theorem Tl.from_ {e : Int} {l : List Rc} (h : Tl e l) : Tl (beg l) l := by
  cases l with
  | nil => trivial
  | cons r l => exact ⟨h.1, rfl, h.2.2⟩

theorem tl_of {l : List Rc} {e : Int} (h1 : ∀ j, j < l.length → (0 ≤ (l.getD j rz).1 ∧ (l.getD j rz).1 < 4) ∧ (0 ≤ (l.getD j rz).2.1 ∧ (l.getD j rz).2.1 < (l.getD j rz).2.2 ∧ (l.getD j rz).2.2 ≤ 40320))
    (h2 : l ≠ [] → (l.getD 0 rz).2.1 = e) (h3 : ∀ j, j + 1 < l.length → (l.getD (j + 1) rz).2.1 = (l.getD j rz).2.2) : Tl e l := by
  induction l generalizing e with
  | nil => trivial
  | cons r l ih =>
    refine ⟨by simpa using h1 0 (by simp), by simpa using h2 (by simp), ih (fun j hj => by simpa using h1 (j + 1) (by simpa using hj)) (fun hne => ?_) (fun j hj => by simpa using h3 (j + 1) (by simpa using hj))⟩
    have := h3 0 (by have := List.length_pos_iff.2 hne; simp; omega)
    simpa using this

theorem fault_ok {l : List Rc} {k : Nat} (h : faultV l k = 0) : aloneV (l.getD k rz).1 (l.getD k rz).2.1 (l.getD k rz).2.2 = 0 := by
  unfold faultV at h
  split at h
  · rename_i c; exact c.1
  · exact h

theorem check_tl {l : List Rc} (h : (checkV l).2 = 0) : Tl (beg l) l := by
  have hf := check_zero h
  refine tl_of (fun j hj => alone_zero.1 (fault_ok (hf j hj))) (fun hne => ?_) (fun j hj => ?_)
  · cases l with
    | nil => exact absurd rfl hne
    | cons r l => rfl
  · have h1 := hf (j + 1) hj
    have h2 := fault_ok h1
    unfold faultV at h1
    rw [if_pos ⟨h2, by omega⟩, show j + 1 - 1 = j by omega] at h1
    exact behind_zero.1 h1

theorem Tl.at_ {l : List Rc} {e : Int} (h : Tl e l) : ∀ j, j < l.length → (0 ≤ (l.getD j rz).1 ∧ (l.getD j rz).1 < 4) ∧ (0 ≤ (l.getD j rz).2.1 ∧ (l.getD j rz).2.1 < (l.getD j rz).2.2 ∧ (l.getD j rz).2.2 ≤ 40320) := by
  induction l generalizing e with
  | nil => intro j hj; cases hj
  | cons r l ih =>
    intro j hj
    cases j with
    | zero => simpa using h.1
    | succ j => simpa using ih h.2.2 j (by simpa using hj)

theorem Tl.chain {l : List Rc} {e : Int} (h : Tl e l) : ∀ j, j + 1 < l.length → (l.getD (j + 1) rz).2.1 = (l.getD j rz).2.2 := by
  induction l generalizing e with
  | nil => intro j hj; cases hj
  | cons r l ih =>
    intro j hj
    cases j with
    | zero =>
      cases l with
      | nil => simp at hj
      | cons s l => simpa using h.2.2.2.1
    | succ j => simpa using ih h.2.2 j (by simpa using hj)

theorem tl_check {l : List Rc} {e : Int} (h : Tl e l) : checkV l = (0, 0) := by
  refine check_ok fun j hj => ?_
  have h1 := alone_zero.2 (h.at_ j hj)
  unfold faultV
  rw [h1]
  split
  · rename_i c
    obtain ⟨k, rfl⟩ : ∃ k, j = k + 1 := ⟨j - 1, by omega⟩
    rw [show k + 1 - 1 = k by omega]
    exact behind_zero.2 (h.chain k hj)
  · rfl

/-- The kind of each minute. -/
def kindsV (l : List Rc) : List Int := l.flatMap fun r => List.replicate (r.2.2 - r.2.1).toNat r.1

theorem kinds_cons (r : Rc) (l : List Rc) : kindsV (r :: l) = List.replicate (r.2.2 - r.2.1).toNat r.1 ++ kindsV l := rfl

theorem kinds_more {l : List Rc} {k : Nat} {x y z : Int} (h : k < l.length) (hr : l.getD k rz = (x, y, z)) : kindsV (l.take (k + 1)) = kindsV (l.take k) ++ List.replicate (z - y).toNat x := by
  have e : l[k]? = some (x, y, z) := by
    rw [List.getElem?_eq_getElem h]
    rw [List.getD_eq_getElem?_getD, List.getElem?_eq_getElem h] at hr
    simpa using hr
  rw [List.take_add_one, e]
  simp [kindsV]

/-- Where it ends. -/
theorem Tl.len {l : List Rc} {e : Int} (h : Tl e l) : l ≠ [] → e + ((kindsV l).length : Int) = fin l ∧ 0 ≤ e ∧ fin l ≤ 40320 := by
  induction l generalizing e with
  | nil => intro h; exact absurd rfl h
  | cons r l ih =>
    intro _
    obtain ⟨⟨h1, h2⟩, h3, h4⟩ := h
    have hr : ((List.replicate (r.2.2 - r.2.1).toNat r.1).length : Int) = r.2.2 - r.2.1 := by simp; omega
    cases l with
    | nil => rw [kinds_cons]; simp [kindsV, fin]; omega
    | cons s l =>
      have := ih h4 (by simp)
      rw [kinds_cons, List.length_append, fin]
      omega

theorem Tl.short {l : List Rc} {e : Int} (h : Tl e l) : (kindsV l).length ≤ 40320 := by
  cases l with
  | nil => simp [kindsV]
  | cons r l => have := h.len (by simp); omega

theorem Tl.bd {l : List Rc} {e : Int} (h : Tl e l) : 0 ≤ beg l ∧ beg l + ((kindsV l).length : Int) ≤ 40320 := by
  cases l with
  | nil => simp [beg, kindsV]
  | cons r l => have := h.from_.len (by simp); omega

theorem kinds_take (l : List Rc) (k : Nat) : (kindsV (l.take k)).length ≤ (kindsV l).length := by
  have e : kindsV l = kindsV (l.take k) ++ kindsV (l.drop k) := by
    unfold kindsV
    rw [← List.flatMap_append, List.take_append_drop]
  rw [e, List.length_append]
  omega

theorem Tl.kinds {l : List Rc} {e : Int} (h : Tl e l) : ∀ x ∈ kindsV l, 0 ≤ x ∧ x < 4 := by
  induction l generalizing e with
  | nil => intro x hx; simp [kindsV] at hx
  | cons r l ih =>
    intro x hx
    rw [kinds_cons, List.mem_append] at hx
    rcases hx with hx | hx
    · rw [List.mem_replicate] at hx; rw [hx.2]; exact h.1.1
    · exact ih h.2.2 x hx

/-! ### The normal timeline -/

/-- One more record behind those that are there: the last one's end is moved, where the kinds are the same. -/
def put (out : List Rc) (k f t : Int) : List Rc :=
  match out.getLast? with
  | some (a, b, _) => if a = k then out.dropLast ++ [(k, b, t)] else out ++ [(k, f, t)]
  | none => out ++ [(k, f, t)]

theorem put_nil (k f t : Int) : put [] k f t = [(k, f, t)] := rfl

theorem put_same (o : List Rc) (b c k f t : Int) : put (o ++ [(k, b, c)]) k f t = o ++ [(k, b, t)] := by
  unfold put; simp

theorem put_other (o : List Rc) {a b c k f t : Int} (h : a ≠ k) : put (o ++ [(a, b, c)]) k f t = o ++ [(a, b, c)] ++ [(k, f, t)] := by
  unfold put; simp [h]

theorem snoc_form {out : List Rc} {j : Nat} {a b c : Int} (hl : out.length = j + 1) (hg : out.getD j rz = (a, b, c)) : ∃ o, out = o ++ [(a, b, c)] ∧ o.length = j := by
  rcases List.eq_nil_or_concat out with rfl | ⟨o, r, rfl⟩
  · cases hl
  · have : o.length = j := by simpa using hl
    subst this
    refine ⟨o, ?_, rfl⟩
    simp at hg
    simp [hg]

theorem put_put (out : List Rc) (k f m n t : Int) : put (put out k f m) k n t = put out k f t := by
  rcases List.eq_nil_or_concat out with rfl | ⟨o, ⟨a, b, c⟩, rfl⟩
  · rw [put_nil, put_nil]; exact put_same [] f m k n t
  · by_cases h : a = k
    · subst h; simp only [List.concat_eq_append]; rw [put_same, put_same, put_same]
    · simp only [List.concat_eq_append]; rw [put_other o h, put_other o h, put_same]

def normV (l : List Rc) : List Rc := l.foldl (fun out r => put out r.1 r.2.1 r.2.2) []

theorem norm_more {l : List Rc} {k : Nat} {x y z : Int} (h : k < l.length) (hr : l.getD k rz = (x, y, z)) : normV (l.take (k + 1)) = put (normV (l.take k)) x y z := by
  have e : l[k]? = some (x, y, z) := by
    rw [List.getElem?_eq_getElem h]
    rw [List.getD_eq_getElem?_getD, List.getElem?_eq_getElem h] at hr
    simpa using hr
  rw [List.take_add_one, e]
  simp [normV]

theorem put_len (out : List Rc) (k f t : Int) : (put out k f t).length ≤ out.length + 1 := by
  rcases List.eq_nil_or_concat out with rfl | ⟨o, ⟨a, b, c⟩, rfl⟩
  · rw [put_nil]; simp
  · by_cases h : a = k
    · subst h; simp only [List.concat_eq_append]; rw [put_same]; simp
    · simp only [List.concat_eq_append]; rw [put_other o h]; simp

/-- The normal timeline of minutes' kinds, the first of which is the minute m. -/
def ofS (s : List Rc × Int) (ks : List Int) : List Rc × Int := ks.foldl (fun s k => (put s.1 k s.2 (s.2 + 1), s.2 + 1)) s
def ofR (at_ : Int) (ks : List Int) : List Rc := (ofS ([], at_) ks).1

theorem of_same (out : List Rc) (k f : Int) : ∀ n, ofS (out, f) (List.replicate (n + 1) k) = (put out k f (f + (n + 1 : Nat)), f + (n + 1 : Nat))
  | 0 => by simp [ofS]
  | n + 1 => by
    rw [List.replicate_succ', ofS, List.foldl_append]
    have := of_same out k f n
    unfold ofS at this
    rw [this]
    simp only [List.foldl_cons, List.foldl_nil, put_put]
    have e : f + ((n + 1 : Nat) : Int) + 1 = f + ((n + 1 + 1 : Nat) : Int) := by omega
    rw [e]

theorem of_norm {l : List Rc} {e : Int} (h : Tl e l) : ∀ out, (ofS (out, e) (kindsV l)).1 = l.foldl (fun out r => put out r.1 r.2.1 r.2.2) out := by
  induction l generalizing e with
  | nil => intro out; rfl
  | cons r l ih =>
    intro out
    obtain ⟨⟨h1, h2⟩, h3, h4⟩ := h
    subst h3
    obtain ⟨n, hn⟩ : ∃ n : Nat, (r.2.2 - r.2.1).toNat = n + 1 := ⟨(r.2.2 - r.2.1).toNat - 1, by omega⟩
    rw [kinds_cons, hn]
    show (List.foldl _ (out, r.2.1) (_ ++ _)).1 = _
    rw [List.foldl_append]
    have := of_same out r.1 r.2.1 n
    unfold ofS at this
    rw [this]
    have e : r.2.1 + ((n + 1 : Nat) : Int) = r.2.2 := by omega
    rw [e]
    exact ih h4 _

theorem norm_of {l : List Rc} {e : Int} (h : Tl e l) : ofR (beg l) (kindsV l) = normV l := of_norm h.from_ []

theorem of_more {ks : List Int} {at_ : Int} {k : Nat} {x : Int} (hx : ks[k]? = some x) : ofR at_ (ks.take (k + 1)) = put (ofR at_ (ks.take k)) x (at_ + k) (at_ + k + 1) := by
  have hm : ∀ (ks : List Int) (s : List Rc × Int), (ofS s ks).2 = s.2 + ks.length := by
    intro ks
    induction ks with
    | nil => intro s; simp [ofS]
    | cons y ks ih =>
      intro s
      show (ofS _ ks).2 = _
      rw [ih]
      simp; omega
  rw [List.take_add_one, hx]
  unfold ofR
  simp only [Option.toList_some]
  rw [ofS, List.foldl_append]
  have h2 := hm (ks.take k) ([], at_)
  have hl : (ks.take k).length = k := by
    have := (List.getElem?_eq_some_iff.1 hx).1
    simp; omega
  rw [hl] at h2
  unfold ofS at h2 ⊢
  simp only [List.foldl_cons, List.foldl_nil]
  rw [h2]

theorem of_len (at_ : Int) (ks : List Int) : (ofR at_ ks).length ≤ ks.length := by
  have : ∀ (ks : List Int) (s : List Rc × Int), (ofS s ks).1.length ≤ s.1.length + ks.length := by
    intro ks
    induction ks with
    | nil => intro s; simp [ofS]
    | cons y ks ih =>
      intro s
      have := ih (put s.1 y s.2 (s.2 + 1), s.2 + 1)
      have h2 := put_len s.1 y s.2 (s.2 + 1)
      show (ofS (put s.1 y s.2 (s.2 + 1), s.2 + 1) ks).1.length ≤ _
      simp at this ⊢
      omega
  have h := this ks ([], at_)
  rw [List.length_nil, Nat.zero_add] at h
  exact h

/-- What Normal tells. -/
def nrmV (l : List Rc) : List Rc := if (checkV l).2 = 0 then normV l else []

theorem nrm_ok {l : List Rc} {e : Int} (h : Tl e l) : nrmV l = normV l := by unfold nrmV; rw [tl_check h]; exact if_pos rfl
theorem nrm_bad {l : List Rc} (h : (checkV l).2 ≠ 0) : nrmV l = [] := if_neg h

theorem norm_len (l : List Rc) : (normV l).length ≤ l.length := by
  have : ∀ (l : List Rc) (out : List Rc), (l.foldl (fun out r => put out r.1 r.2.1 r.2.2) out).length ≤ out.length + l.length := by
    intro l
    induction l with
    | nil => intro out; simp
    | cons r l ih =>
      intro out
      have := ih (put out r.1 r.2.1 r.2.2)
      have h2 := put_len out r.1 r.2.1 r.2.2
      simp only [List.foldl_cons, List.length_cons]
      omega
  have h := this l []
  rw [List.length_nil, Nat.zero_add] at h
  exact h

end Go.Proofs.YtogcpoaclkomjaaDoor

/- A region that draws its order in a round of a range over a function; an append there. Conditions: none beyond each lemma's own premises. -/
namespace Go.Proofs.YtogcpoaclkomjaaDoor
open Go.RowKit Go.Shelf

/-- What holds of a region's orders outside of a round holds in one, if nothing is deferred. -/
theorem op_round {F : Fence} {n l : Nat} {P : Program} {ops : Array Oper} {Q : Exit → Act → World → Prop} (hro : F.round = none) (hd : ∀ (i : Nat) (o : Oper) (c : _), ops[i]? = some o → o.op ≠ .defer c) {i : Nat} {K : Act → World → Prop} {a : Act} {w : World}
    (h : wpOpIn F n P ops Q i K a w) : wpOpIn (F.inRound l) n P ops Q i K a w := by
  unfold wpOpIn at *
  cases ho : ops[i]? with
  | none => rw [ho] at h; exact h
  | some o =>
    rw [ho] at h
    simp only [] at h ⊢
    split
    · rename_i hw
      rw [if_pos hw] at h
      unfold Oper.wpIn at *
      refine ⟨h.1, ?_⟩
      have h2 := h.2
      rw [hro, Oper.semAt_none] at h2
      rw [Fence.inRound_round, Oper.semAt_eq _ _ _ (fun c => hd i o c ho)]
      exact h2
    · rename_i hw
      rw [if_neg hw] at h
      exact h

theorem any_round {F : Fence} {n l : Nat} {P : Program} {md : Region.Mode} {ops : Array Oper} {Q : Exit → Act → World → Prop} (hro : F.round = none) (hd : ∀ (i : Nat) (o : Oper) (c : _), ops[i]? = some o → o.op ≠ .defer c) :
    ∀ (fuel : Nat) (listed : Array Bool) (a : Act) (w : World), wpAnyIn F n P md ops Q fuel listed a w → wpAnyIn (F.inRound l) n P md ops Q fuel listed a w
  | 0, _, _, _, h => h
  | fuel + 1, _, _, _, h => ⟨h.1, fun i hi => op_round hro hd (wpOpIn_mono (fun _ _ h' => any_round hro hd fuel _ _ _ h') (h.2 i hi))⟩

/-- An append onto a slice of the call's own, as one step of a region that draws its order. -/
theorem step_append {F : Fence} {n : Nat} {P : Program} (w : World) {ops : Array Oper} {o : Oper} {a : Act} {K : Act → World → Prop} {Q : Exit → Act → World → Prop} {E : Prop}
    (hg : o.guard = none) (s x : Operand) (t : TypeId) (hop : o.op = Op.call { callee := Callee.builtin Builtin.append, args := #[s, x], argTypes := #[t, t] })
    (base : Nat) (e : TypeId) (i : TypeInfo) (z : Value) (size bytes : Nat) (h1 : P.underlying t = some (.slice e)) (h2 : P.info? e = some i) (h3 : i.zero = some z) (h4 : i.size = size) (h5 : i.bytes = bytes) (h6 : z.cells.size = size) (h7 : 0 < size)
    (v : Value) (k : Nat) (xs : List Value) (hs : a.eval s = v) (hown : w.ownsRow base e size v k xs) (ad : Addr) (m c : Nat) (news : List Value) (hx : a.eval x = .slice (some ad) m c) (hn : news.length = m * size)
    (hc : ∀ j u, news[j]? = some u → w.cell? (ad.add j) = some u) (h1c : ∀ u ∈ news, u.oneCell' = true) (b1 : k + m ≤ maxLen) (b2 : (k + m) * bytes ≤ 140737488355328) (b3 : base ≤ w.heap.size)
    (hK : ∀ v' w', w'.ownsRow base e size v' (k + m) (xs ++ news) → w.grownBy w' v.ownBlock → K (a.put o.dst v') w') :
    if Region.wanted o (yielded ops a.tmps) = true then Oper.wpIn F n P o a w K Q else E := by
  have hw : Region.wanted o (yielded ops a.tmps) = true := by simp [Region.wanted, hg]
  rw [if_pos hw]
  obtain ⟨v', w', hrun, r1, r2, _⟩ := run_append_own (P := P) w base t o.type e i z size bytes h1 h2 h3 h4 h5 h6 h7 v k xs hown ad m c news hn hc h1c b1 b2 b3
  unfold Oper.wpIn
  refine ⟨by simp [Oper.about, hop, resolve, Target.leads, Sem.run_pure], ?_⟩
  rw [Oper.semAt_plain F _ _ (by rw [hop]; intro c hc'; cases hc')]
  simp [execOp, hop, resolve, invoke, builtin, hs, hx, hrun, Result.andThen]
  exact hK v' w' r1 r2

end Go.Proofs.YtogcpoaclkomjaaDoor

/- A region that draws its order and makes memory; rows of a slice that the call itself has made. Conditions: none beyond each lemma's own premises. -/
namespace Go.Proofs.YtogcpoaclkomjaaDoor
open Go.RowKit

/-- A world in which all that lay in w lies unturned. -/
structure BelowOf (w : World) where
  world : World
  ok : Below w.heap.size w world

instance (w : World) : Inhabited (BelowOf w) := ⟨⟨w, Below.refl _ _⟩⟩

theorem BelowOf.cell {w : World} (p : BelowOf w) {a : Addr} {v : Value} (h : w.cell? a = some v) : p.world.cell? a = some v :=
  (p.ok.cell (World.block_lt_of_cell? w a h)).trans h

theorem wp_region_bel {P : Program} {id : Nat} {Q : Exit → Act → World → Prop} {a : Act} {w : World} {l : List Oper} (hm : P.follows .mixedOrders = true) (hB : Region.lexB .any l.toArray = true)
    (h : wpQuiet P l.toArray (fun w' => ∃ p : BelowOf w, w' = p.world) (fun a' => ∀ w', (∃ p : BelowOf w, w' = p.world) → Q .normal a' w') l a) : (Code.region id l.toArray true).wp P Q a w :=
  wp_region_quiet (C := fun w' => ∃ p : BelowOf w, w' = p.world) hm hB ⟨⟨w.drew, b_dr (Below.refl _ _)⟩, rfl⟩ (by simpa using h)

theorem bel_all {w : World} {Q : World → Prop} (h : ∀ wq, Below w.heap.size w wq → Q wq) : ∀ w', (∃ p : BelowOf w, w' = p.world) → Q w' := fun _ ⟨⟨_, ok⟩, e⟩ => e ▸ h _ ok

theorem Calls.bel_of {P : Program} {f : FuncId} {args : Array Value} {w : World} {p : BelowOf w} {v : Value}
    (h : Calls P f args p.world fun e w' => e = .returned v ∧ Below p.world.heap.size p.world w') : Calls P f args p.world fun e w'' => e = .returned v ∧ ∃ q : BelowOf w, w'' = q.world :=
  h.mono fun _ _ ⟨he, hb⟩ => ⟨he, ⟨_, p.ok.trans (hb.mono p.ok.size)⟩, rfl⟩

/-! ### Rows of a slice of the call's own -/

theorem row_below {base sz n : Nat} {e : TypeId} {w w' : World} {v : Value} {cs : List Value} (h : w.ownsRow base e sz v n cs) (hb : Below w.heap.size w w') : w'.ownsRow base e sz v n cs := by
  refine ⟨h.1, ?_⟩
  rcases h.2 with h2 | ⟨g, cap, cur, hv, hg, hh, r⟩
  · exact Or.inl h2
  · refine Or.inr ⟨g, cap, cur, hv, hg, ?_, r⟩
    have hlt : g < w.heap.size := by
      rcases Nat.lt_or_ge g w.heap.size with h | h
      · exact h
      · rw [Array.getElem?_eq_none h] at hh; cases hh
    rw [hb.block g hlt]; exact hh

theorem row_more {base base' sz n : Nat} {e : TypeId} {w : World} {v : Value} {cs : List Value} (h : w.ownsRow base e sz v n cs) (hb : base' ≤ base) : w.ownsRow base' e sz v n cs := by
  refine ⟨h.1, ?_⟩
  rcases h.2 with h2 | ⟨g, cap, cur, hv, hg, hh, r⟩
  · exact Or.inl h2
  · exact Or.inr ⟨g, cap, cur, hv, Nat.le_trans hb hg, hh, r⟩

theorem row_form {base sz n : Nat} {e : TypeId} {w : World} {v : Value} {cs : List Value} (h : w.ownsRow base e sz v n cs) : ∃ A c, v = .slice A n c ∧ (n ≠ 0 → ∃ g, A = some ⟨g, 0, none⟩ ∧ base ≤ g ∧ g < w.heap.size) ∧ (n = 0 → A = none → c = 0) := by
  have h0 := h
  rcases h.2 with ⟨rfl, hn⟩ | ⟨g, cap, cur, rfl, hb, hg, h1, h2, h3, h4⟩
  · subst hn; exact ⟨none, 0, rfl, fun h => absurd rfl h, fun _ _ => rfl⟩
  · exact ⟨some ⟨g, 0, none⟩, cap, rfl, fun _ => ⟨g, rfl, hb, (h0.lt g rfl).2⟩, fun _ h => by cases h⟩

/-- The block, where there is one: it may be written. -/
theorem row_some {base sz n c b off : Nat} {e : TypeId} {w : World} {cs : List Value} (h : w.ownsRow base e sz (.slice (some ⟨b, off, none⟩) n c) n cs) : off = 0 ∧ base ≤ b ∧ ∀ j, w.frozen? ⟨b, j, none⟩ = false := by
  rcases h.2 with ⟨h', _⟩ | ⟨g, cap, cur, h', hb, hg, _⟩
  · simp at h'
  · simp only [Value.slice.injEq, Option.some.injEq, Addr.mk.injEq, and_true] at h'
    obtain ⟨⟨rfl, rfl⟩, _, rfl⟩ := h'
    exact ⟨rfl, hb, fun j => by simp [World.frozen?, hg]⟩

/-- Behind an append ahead of which two blocks were made. -/
theorem grown_two {W w5 : World} {row : Option Nat} {base : Nat} {o1 o2 : Obj} (hg : ((W.alloc o1).alloc o2).grownBy w5 row) (hrow : ∀ k, row = some k → base ≤ k ∧ k < W.heap.size) (hbase : base ≤ W.heap.size) :
    w5.heap[W.heap.size]? = some o1 ∧ Below base W w5 ∧ W.heap.size + 2 ≤ w5.heap.size := by
  have hs : ((W.alloc o1).alloc o2).heap.size = W.heap.size + 2 := by simp
  have hz := hg.size
  refine ⟨?_, ((((Below.refl base W).alloc hbase o1).alloc (by simp; omega) o2).grown hg (by simp; omega) (fun k hk => (hrow k hk).1)), by omega⟩
  rw [hg.block W.heap.size (by omega) (fun e => by have := (hrow _ e.symm).2; omega), Below.heap_alloc _ _ _ (by simp)]
  exact heap_alloc_new W o1

/-- A span in a block of its own, that may be written. -/
structure Box2 (w : World) (B : Nat) (x y : Int) : Prop where
  c0 : w.cell? ⟨B, 0, none⟩ = some (.int .i64 x)
  c1 : w.cell? ⟨B, 1, none⟩ = some (.int .i64 y)
  f0 : w.frozen? ⟨B, 0, none⟩ = false
  f1 : w.frozen? ⟨B, 1, none⟩ = false

theorem Box2.lt {w : World} {B : Nat} {x y : Int} (h : Box2 w B x y) : B < w.heap.size := World.block_lt_of_cell? w ⟨B, 0, none⟩ h.c0

theorem Box2.new (w : World) (x y : Int) (t : TypeId) : Box2 (w.alloc (.cells #[.int .i64 x, .int .i64 y] t)) w.heap.size x y := ⟨by simp, by simp, by simp, by simp⟩

theorem Box2.newAt (w : World) {n : Nat} (hn : n = w.heap.size) (x y : Int) (t : TypeId) : Box2 (w.alloc (.cells #[.int .i64 x, .int .i64 y] t)) n x y := by
  subst hn; exact Box2.new w x y t

theorem Box2.below {w w' : World} {B : Nat} {x y : Int} (h : Box2 w B x y) (hb : Below w.heap.size w w') : Box2 w' B x y :=
  ⟨by rw [hb.cell (p := ⟨B, 0, none⟩) h.lt]; exact h.c0, by rw [hb.cell (p := ⟨B, 1, none⟩) h.lt]; exact h.c1, by rw [hb.frozen (p := ⟨B, 0, none⟩) h.lt]; exact h.f0, by rw [hb.frozen (p := ⟨B, 1, none⟩) h.lt]; exact h.f1⟩

theorem Box2.alloc {w : World} {B : Nat} {x y : Int} (h : Box2 w B x y) (o : Obj) : Box2 (w.alloc o) B x y := h.below ((Below.refl _ _).alloc (Nat.le_refl _) o)

theorem Box2.set1 {w : World} {B : Nat} {x y : Int} (h : Box2 w B x y) (z : Int) : Box2 (w.setCell ⟨B, 1, none⟩ (.int .i64 z)) B x z :=
  ⟨by rw [World.cell?_setCell_other w _ _ _ (by simp)]; exact h.c0, World.cell?_setCell_same' _ _ _ (by rw [h.c1]; rfl), by rw [World.frozen?_setCell]; exact h.f0, by rw [World.frozen?_setCell]; exact h.f1⟩

theorem Box2.set0 {w : World} {B : Nat} {x y : Int} (h : Box2 w B x y) (z : Int) : Box2 (w.setCell ⟨B, 0, none⟩ (.int .i64 z)) B z y :=
  ⟨World.cell?_setCell_same' _ _ _ (by rw [h.c0]; rfl), by rw [World.cell?_setCell_other w _ _ _ (by simp)]; exact h.c1, by rw [World.frozen?_setCell]; exact h.f0, by rw [World.frozen?_setCell]; exact h.f1⟩

theorem Box2.other {w : World} {B : Nat} {x y : Int} (h : Box2 w B x y) {p : Addr} (hp : p.block ≠ B) (u : Value) : Box2 (w.setCell p u) B x y :=
  ⟨by rw [World.cell?_setCell_other w _ _ _ (by rintro rfl; exact hp rfl)]; exact h.c0, by rw [World.cell?_setCell_other w _ _ _ (by rintro rfl; exact hp rfl)]; exact h.c1, by rw [World.frozen?_setCell]; exact h.f0, by rw [World.frozen?_setCell]; exact h.f1⟩

theorem b_un {n : Nat} {w W : World} (h : Below n w.drew W) : Below n w W := ⟨h.os, h.tape, h.output, h.size, h.block⟩

theorem c_dr {W : World} {p : Addr} {v : Value} (h : W.cell? p = some v) : W.drew.cell? p = some v := h

theorem nonnil {α : Type} {l : List α} {k : Nat} (h : k < l.length) : l ≠ [] := by rintro rfl; cases h

theorem b_tr {a b c : World} (h1 : Below a.heap.size a b) (h2 : Below b.heap.size b c) : Below a.heap.size a c := h1.trans (h2.mono h1.size)

theorem addr_plain (b off i : Nat) : (⟨b, off, none⟩ : Addr).add i = ⟨b, off + i, none⟩ := by
  unfold Addr.add
  by_cases h : i = 0 <;> simp [h]

end Go.Proofs.YtogcpoaclkomjaaDoor

/- Slices of records and of ints that can be read, or that the call itself has made. Conditions: none beyond each lemma's own premises. -/
namespace Go.Proofs.YtogcpoaclkomjaaDoor
open Go.RowKit

/-! ### Records -/

/-- At the address A the records of l lie one behind the other (of no record nothing is asked). -/
def RdR (w : World) (A : Option Addr) (l : List Rc) : Prop :=
  l ≠ [] → ∃ b off, A = some ⟨b, off, none⟩ ∧ b < w.heap.size ∧ ∀ k, k < l.length →
    w.cell? ⟨b, off + k * 3, none⟩ = some (.int .i64 (l.getD k rz).1) ∧ w.cell? ⟨b, off + k * 3 + 1, none⟩ = some (.int .i64 (l.getD k rz).2.1) ∧ w.cell? ⟨b, off + k * 3 + 2, none⟩ = some (.int .i64 (l.getD k rz).2.2)

theorem RdR.nil (w : World) (A : Option Addr) : RdR w A [] := fun h => absurd rfl h

theorem RdR.at_ {w : World} {A : Option Addr} {l : List Rc} (h : RdR w A l) {k : Nat} (hk : k < l.length) : ∃ b off x y z, A = some ⟨b, off, none⟩ ∧ b < w.heap.size ∧
    w.cell? ⟨b, off + k * 3, none⟩ = some (.int .i64 x) ∧ w.cell? ⟨b, off + k * 3 + 1, none⟩ = some (.int .i64 y) ∧ w.cell? ⟨b, off + k * 3 + 2, none⟩ = some (.int .i64 z) ∧ Hid (l.getD k rz = (x, y, z)) := by
  obtain ⟨b, off, hA, hb, hc⟩ := h (nonnil hk)
  exact ⟨b, off, _, _, _, hA, hb, (hc k hk).1, (hc k hk).2.1, (hc k hk).2.2, Lib.hid rfl⟩

theorem RdR.below {w w' : World} {A : Option Addr} {l : List Rc} (h : RdR w A l) (hb : Below w.heap.size w w') : RdR w' A l := fun hl => by
  obtain ⟨b, off, hA, hbb, hk⟩ := h hl
  exact ⟨b, off, hA, Nat.lt_of_lt_of_le hbb hb.size, fun k hk' => ⟨by rw [hb.cell (p := ⟨b, _, none⟩) hbb]; exact (hk k hk').1, by rw [hb.cell (p := ⟨b, _, none⟩) hbb]; exact (hk k hk').2.1, by rw [hb.cell (p := ⟨b, _, none⟩) hbb]; exact (hk k hk').2.2⟩⟩

def flatR (l : List Rc) : List Value := l.flatMap fun s => [.int .i64 s.1, .int .i64 s.2.1, .int .i64 s.2.2]

theorem flatR_cons (s : Rc) (l : List Rc) : flatR (s :: l) = .int .i64 s.1 :: .int .i64 s.2.1 :: .int .i64 s.2.2 :: flatR l := rfl
theorem flatR_append (a b : List Rc) : flatR (a ++ b) = flatR a ++ flatR b := by simp [flatR]

theorem flatR_len (l : List Rc) : (flatR l).length = l.length * 3 := by
  induction l with
  | nil => rfl
  | cons s l ih => rw [flatR_cons, List.length_cons, List.length_cons, List.length_cons, ih, List.length_cons]; omega

theorem flatR_get : ∀ (l : List Rc) (k : Nat), k < l.length → (flatR l)[k * 3]? = some (.int .i64 (l.getD k rz).1) ∧ (flatR l)[k * 3 + 1]? = some (.int .i64 (l.getD k rz).2.1) ∧ (flatR l)[k * 3 + 2]? = some (.int .i64 (l.getD k rz).2.2)
  | s :: l, 0, _ => by simp [flatR_cons]
  | s :: l, k + 1, h => by
    have ih := flatR_get l k (by simpa using h)
    have e : (k + 1) * 3 = k * 3 + 1 + 1 + 1 := by omega
    rw [e, flatR_cons]
    simpa using ih

theorem flatR_one {l : List Rc} {u : Value} (h : u ∈ flatR l) : u.oneCell' = true := by
  obtain ⟨s, _, hs⟩ := List.mem_flatMap.1 h
  simp at hs
  rcases hs with rfl | rfl | rfl <;> rfl

theorem flatR_set (a : List Rc) (k x y z : Int) : (flatR (a ++ [(k, x, y)])).set (a.length * 3 + 2) (.int .i64 z) = flatR (a ++ [(k, x, z)]) := by
  rw [flatR_append, flatR_append, List.set_append_right _ _ (by rw [flatR_len]; omega), flatR_len]
  have e : a.length * 3 + 2 - a.length * 3 = 2 := by omega
  rw [e]
  rfl

/-- The slice is the call's own (its block's number is base or more) and holds l. -/
def OwnR (base : Nat) (w : World) (v : Value) (l : List Rc) : Prop := w.ownsRow base 23 3 v l.length (flatR l)

theorem OwnR.nil (base : Nat) (w : World) : OwnR base w (.slice none 0 0) [] := World.ownsRow_nil w base _ 3

theorem OwnR.read {base : Nat} {w : World} {v : Value} {l : List Rc} (h : OwnR base w v l) : ∃ A c, v = .slice A l.length c ∧ RdR w A l ∧ (A = none → c = 0) := by
  have h0 := h
  rcases h.2 with ⟨rfl, hn⟩ | ⟨g, cap, cur, rfl, hb, hg, h1, h2, h3, h4⟩
  · obtain rfl : l = [] := List.eq_nil_of_length_eq_zero hn
    exact ⟨none, 0, rfl, RdR.nil _ _, fun _ => rfl⟩
  · refine ⟨some ⟨g, 0, none⟩, cap, rfl, fun _ => ⟨g, 0, rfl, (World.ownsRow.lt h0 g rfl).2, fun k hk => ?_⟩, fun h => by cases h⟩
    have hf := flatR_get l k hk
    rw [Nat.zero_add, World.ownsRow.cellAt h0 (k * 3) (by omega), World.ownsRow.cellAt h0 (k * 3 + 1) (by omega), World.ownsRow.cellAt h0 (k * 3 + 2) (by omega)]
    exact hf

theorem OwnR.rd {base : Nat} {w : World} {A : Option Addr} {n c : Nat} {l : List Rc} (h : OwnR base w (.slice A n c) l) : RdR w A l := by
  obtain ⟨A', c', he, hr, _⟩ := h.read
  injection he with e1 e2 e3
  rw [e1]; exact hr

theorem OwnR.below {base : Nat} {w w' : World} {v : Value} {l : List Rc} (h : OwnR base w v l) (hb : Below w.heap.size w w') : OwnR base w' v l := row_below h hb
theorem OwnR.more {base base' : Nat} {w : World} {v : Value} {l : List Rc} (h : OwnR base w v l) (hb : base' ≤ base) : OwnR base' w v l := row_more h hb
theorem OwnR.alloc {base : Nat} {w : World} {v : Value} {l : List Rc} (h : OwnR base w v l) (o : Obj) : OwnR base (w.alloc o) v l := World.ownsRow.alloc h o

theorem OwnR.snoc {base : Nat} {w : World} {v : Value} {l : List Rc} {k x y : Int} (h : w.ownsRow base 23 3 v (l.length + 1) (flatR l ++ [.int .i64 k, .int .i64 x, .int .i64 y])) : OwnR base w v (l ++ [(k, x, y)]) := by
  unfold OwnR
  rw [flatR_append, List.length_append]
  exact h

theorem OwnR.stored {base : Nat} {w : World} {b n c : Nat} {o : List Rc} {k x y z : Int} (h : OwnR base w (.slice (some ⟨b, 0, none⟩) n c) (o ++ [(k, x, y)])) (hn : n = o.length + 1) :
    OwnR base (w.setCell ⟨b, o.length * 3 + 2, none⟩ (.int .i64 z)) (.slice (some ⟨b, 0, none⟩) n c) (o ++ [(k, x, z)]) := by
  have e1 : (o ++ [(k, x, y)]).length = n := by rw [hn]; simp
  have e2 : (o ++ [(k, x, z)]).length = n := by rw [hn]; simp
  unfold OwnR at *
  rw [e1] at h
  rw [e2]
  have h2 := (World.ownsRow.stored h (o.length * 3 + 2) (.int .i64 z)).1
  rw [flatR_set] at h2
  exact h2

theorem OwnR.some_ {base : Nat} {w : World} {b off n c : Nat} {l : List Rc} (h : OwnR base w (.slice (some ⟨b, off, none⟩) n c) l) : off = 0 ∧ base ≤ b ∧ ∀ j, w.frozen? ⟨b, j, none⟩ = false := by
  rcases h.2 with ⟨h', _⟩ | ⟨g, cap, cur, h', hb, hg, _⟩
  · simp at h'
  · simp only [Value.slice.injEq, Option.some.injEq, Addr.mk.injEq, and_true] at h'
    obtain ⟨⟨rfl, rfl⟩, _, rfl⟩ := h'
    exact ⟨rfl, hb, fun j => by simp [World.frozen?, hg]⟩

theorem info_rec : (Tryd.prog.info? 23).map (fun i => (i.zero, i.size, i.bytes)) = some (some (.agg #[.int .i64 0, .int .i64 0, .int .i64 0]), 3, 24) := by kernel_rfl

/-- The cells of one record in a block of their own. -/
theorem rec_news {w : World} {n : Nat} (hn : n = w.heap.size) {k x y : Int} {t : TypeId} : ∀ j u, ([.int .i64 k, .int .i64 x, .int .i64 y] : List Value)[j]? = some u → (w.alloc (.cells #[.int .i64 k, .int .i64 x, .int .i64 y] t)).cell? ((⟨n, 0, none⟩ : Addr).add j) = some u := by
  intro j u hj
  subst hn
  match j, hj with
  | 0, hj => simp at hj; subst hj; simp [Addr.add]
  | 1, hj => simp at hj; subst hj; simp [Addr.add]
  | 2, hj => simp at hj; subst hj; simp [Addr.add]
  | j + 3, hj => simp at hj

theorem rec_cells {k x y : Int} : ∀ u ∈ ([.int .i64 k, .int .i64 x, .int .i64 y] : List Value), u.oneCell' = true := by
  intro u hu
  simp at hu
  rcases hu with rfl | rfl | rfl <;> rfl

/-- The cells of a slice that reads as l, one by one. -/
theorem RdR.news {w : World} {ad : Addr} {l : List Rc} (h : RdR w (some ad) l) : ∀ j u, (flatR l)[j]? = some u → w.cell? (ad.add j) = some u := by
  intro j u hu
  have hj : j < l.length * 3 := by
    rw [← flatR_len]
    exact (List.getElem?_eq_some_iff.1 hu).1
  obtain ⟨b, off, hA, _, hc⟩ := h (nonnil (k := j / 3) (by omega))
  injection hA with hA
  subst hA
  have hk : j / 3 < l.length := by omega
  have hf := flatR_get l (j / 3) hk
  have hcc := hc (j / 3) hk
  rw [addr_plain]
  have hm : j = j / 3 * 3 ∨ j = j / 3 * 3 + 1 ∨ j = j / 3 * 3 + 2 := by omega
  rcases hm with e | e | e
  · rw [e, hf.1] at hu
    injection hu with hu
    rw [e, ← hu]; exact hcc.1
  · rw [e, hf.2.1] at hu
    injection hu with hu
    rw [e, ← hu, ← Nat.add_assoc]; exact hcc.2.1
  · rw [e, hf.2.2] at hu
    injection hu with hu
    rw [e, ← hu, ← Nat.add_assoc]; exact hcc.2.2

/-- A record in a block of its own. -/
structure BoxR (w : World) (B : Nat) (k x y : Int) : Prop where
  c0 : w.cell? ⟨B, 0, none⟩ = some (.int .i64 k)
  c1 : w.cell? ⟨B, 1, none⟩ = some (.int .i64 x)
  c2 : w.cell? ⟨B, 2, none⟩ = some (.int .i64 y)

theorem BoxR.new (w : World) (k x y : Int) (t : TypeId) : BoxR (w.alloc (.cells #[.int .i64 k, .int .i64 x, .int .i64 y] t)) w.heap.size k x y := ⟨by simp, by simp, by simp⟩
theorem BoxR.below {w w' : World} {B : Nat} {k x y : Int} (h : BoxR w B k x y) (hb : Below w.heap.size w w') : BoxR w' B k x y := ⟨c_cl h.c0 hb, c_cl h.c1 hb, c_cl h.c2 hb⟩

/-! ### Ints -/

def RdN (w : World) (A : Option Addr) (l : List Int) : Prop :=
  l ≠ [] → ∃ b off, A = some ⟨b, off, none⟩ ∧ b < w.heap.size ∧ ∀ k, k < l.length → w.cell? ⟨b, off + k, none⟩ = some (.int .i64 (l.getD k 0))

theorem RdN.at_ {w : World} {A : Option Addr} {l : List Int} (h : RdN w A l) {k : Nat} (hk : k < l.length) : ∃ b off x, A = some ⟨b, off, none⟩ ∧ b < w.heap.size ∧ w.cell? ⟨b, off + k, none⟩ = some (.int .i64 x) ∧ Hid (l[k]? = some x) := by
  obtain ⟨b, off, hA, hb, hc⟩ := h (nonnil hk)
  refine ⟨b, off, _, hA, hb, hc k hk, Lib.hid ?_⟩
  rw [List.getD_eq_getElem?_getD, List.getElem?_eq_getElem hk]; rfl

theorem RdN.below {w w' : World} {A : Option Addr} {l : List Int} (h : RdN w A l) (hb : Below w.heap.size w w') : RdN w' A l := fun hl => by
  obtain ⟨b, off, hA, hbb, hk⟩ := h hl
  exact ⟨b, off, hA, Nat.lt_of_lt_of_le hbb hb.size, fun k hk' => by rw [hb.cell (p := ⟨b, _, none⟩) hbb]; exact hk k hk'⟩

def OwnN (base : Nat) (w : World) (v : Value) (l : List Int) : Prop := w.ownsRow base 3 1 v l.length (l.map (Value.int .i64))

theorem OwnN.nil (base : Nat) (w : World) : OwnN base w (.slice none 0 0) [] := World.ownsRow_nil w base _ 1

theorem OwnN.read {base : Nat} {w : World} {v : Value} {l : List Int} (h : OwnN base w v l) : ∃ A c, v = .slice A l.length c ∧ RdN w A l := by
  have h0 := h
  rcases h.2 with ⟨rfl, hn⟩ | ⟨g, cap, cur, rfl, hb, hg, h1, h2, h3, h4⟩
  · obtain rfl : l = [] := List.eq_nil_of_length_eq_zero hn
    exact ⟨none, 0, rfl, fun h => absurd rfl h⟩
  · refine ⟨some ⟨g, 0, none⟩, cap, rfl, fun _ => ⟨g, 0, rfl, (World.ownsRow.lt h0 g rfl).2, fun k hk => ?_⟩⟩
    rw [Nat.zero_add, World.ownsRow.cellAt h0 k (by omega)]
    simp [hk]

theorem OwnN.below {base : Nat} {w w' : World} {v : Value} {l : List Int} (h : OwnN base w v l) (hb : Below w.heap.size w w') : OwnN base w' v l := row_below h hb
theorem OwnN.more {base base' : Nat} {w : World} {v : Value} {l : List Int} (h : OwnN base w v l) (hb : base' ≤ base) : OwnN base' w v l := row_more h hb
theorem OwnN.alloc {base : Nat} {w : World} {v : Value} {l : List Int} (h : OwnN base w v l) (o : Obj) : OwnN base (w.alloc o) v l := World.ownsRow.alloc h o

theorem OwnN.snoc {base : Nat} {w : World} {v : Value} {l : List Int} {x : Int} (h : w.ownsRow base 3 1 v (l.length + 1) (l.map (Value.int .i64) ++ [.int .i64 x])) : OwnN base w v (l ++ [x]) := by
  unfold OwnN
  rw [List.map_append, List.length_append]
  exact h

theorem info_int : (Tryd.prog.info? 3).map (fun i => (i.zero, i.size, i.bytes)) = some (some (.int .i64 0), 1, 8) := by kernel_rfl

theorem int_news {w : World} {n : Nat} (hn : n = w.heap.size) {x : Int} {t : TypeId} : ∀ j u, ([.int .i64 x] : List Value)[j]? = some u → (w.alloc (.cells #[.int .i64 x] t)).cell? ((⟨n, 0, none⟩ : Addr).add j) = some u := by
  intro j u hj
  subst hn
  match j, hj with
  | 0, hj => simp at hj; subst hj; simp [Addr.add]
  | j + 1, hj => simp at hj

theorem int_cells {x : Int} : ∀ u ∈ ([.int .i64 x] : List Value), u.oneCell' = true := by
  intro u hu
  simp at hu
  subst hu
  rfl

end Go.Proofs.YtogcpoaclkomjaaDoor

/- A slice of records as an argument: opened to the list that it holds. Conditions: none. -/
namespace Go.Proofs.YtogcpoaclkomjaaDoor
open Go.ChangeShapes Go.WideShapes Go.ChangeAt Go.RowKit Go.Joins Go.Deep

theorem cells_rec : Tryd.prog.cellsOf 23 = 3 := by kernel_rfl
theorem cells_int : Tryd.prog.cellsOf 3 = 1 := by kernel_rfl

set_option maxRecDepth 20000 in
/-- What lies in the three cells of a record that is read. -/
theorem read_rec {H : Type} {enc : TypeId × Value → H} {w : World} {base : Nat} {spare : Nat → Bool} {held : Bool} {fuel : Nat} {cs : List Value} {x : DataW H × List MemPlace}
    (h : DataW.trod enc Tryd.prog w base spare held fuel 23 cs = some x) : ∃ r : Rc, cs = [.int .i64 r.1, .int .i64 r.2.1, .int .i64 r.2.2] := by
  obtain ⟨ys, n, _, _, hl, hyl, hf⟩ := DataW.trod_struct Tryd.underlying23 h
  rw [cells_rec] at hl
  match cs, hl with
  | [c0, c1, c2], _ =>
    have hyl3 : ys.length = 3 := hyl
    match ys, hyl3 with
    | [y0, y1, y2], _ =>
      obtain ⟨a, ha, _, _⟩ := DataW.trod_int Tryd.underlying3 (hf 0 _ rfl)
      obtain ⟨b, hb, _, _⟩ := DataW.trod_int Tryd.underlying3 (hf 1 _ rfl)
      obtain ⟨c, hc, _, _⟩ := DataW.trod_int Tryd.underlying3 (hf 2 _ rfl)
      simp [cells_int] at ha hb hc
      exact ⟨(a, b, c), by rw [ha, hb, hc]⟩

set_option maxRecDepth 20000 in
theorem open_recs {H : Type} {enc : TypeId × Value → H} {w : World} {base : Nat} {spare : Nat → Bool} {held : Bool} {r : Reach} {b0 : Nat} {v : Value} {d : DataW H} {p : List MemPlace}
    (hv : Value.okWide Tryd.prog w r b0 31 v) (h : DataW.Trod enc Tryd.prog w base spare held 31 v d p) :
    ∃ (A : Option Addr) (n c : Nat) (l : List Rc), v = .slice A n c ∧ l.length = n ∧ RdR w A l ∧ (A = none → c = 0) := by
  obtain ⟨a0, len0, cap0, rfl⟩ := okWide_slice Tryd.underlying31 hv
  obtain ⟨fuel, hf⟩ := h
  rcases open_slice Tryd.underlying31 hf with ⟨hcs, _⟩ | ⟨a, len, cap, m, n, D, Pl, hcs, _, hl, _, hm, _, hx⟩
  · simp [Value.cells] at hcs
    obtain ⟨rfl, rfl, rfl⟩ := hcs
    exact ⟨none, 0, 0, [], rfl, rfl, RdR.nil _ _, fun _ => rfl⟩
  · simp [Value.cells] at hcs
    obtain ⟨rfl, rfl, rfl⟩ := hcs
    have hlm : len0 ≤ m := by rw [hm]; split <;> omega
    have hz : ∀ i, i < len0 → ∃ r : Rc, w.cell? (a.add (i * 3)) = some (.int .i64 r.1) ∧ w.cell? (a.add (i * 3 + 1)) = some (.int .i64 r.2.1) ∧ w.cell? (a.add (i * 3 + 2)) = some (.int .i64 r.2.2) := by
      intro i hi
      obtain ⟨cs', hc, ht⟩ := hx i (by omega)
      rw [cells_rec] at hc
      obtain ⟨q, rfl⟩ := read_rec ht
      obtain ⟨_, _, hat⟩ := World.cells?_some hc
      have h0 := hat 0 (by omega)
      have h1 := hat 1 (by omega)
      have h2 := hat 2 (by omega)
      rw [Go.Deep.add_add] at h0 h1 h2
      exact ⟨q, h0, h1, h2⟩
    obtain ⟨f, hF⟩ := choose_lt hz
    refine ⟨some a, len0, cap0, (List.range len0).map f, rfl, by simp, fun hne => ?_, fun h => by cases h⟩
    obtain ⟨b, off, spot⟩ := a
    have h0 : 0 < len0 := by
      rcases Nat.eq_zero_or_pos len0 with h | h
      · subst h; exact absurd rfl hne
      · exact h
    have hspot : spot = none := by simpa [Addr.add] using World.cell?_spot (hF 0 h0).1
    subst hspot
    refine ⟨b, off, rfl, ?_, fun k hk => ?_⟩
    · have := World.block_lt_of_cell? w _ (hF 0 h0).1
      rwa [addr_plain] at this
    · have hk' : k < len0 := by simpa using hk
      have hf := hF k hk'
      rw [addr_plain, addr_plain, addr_plain] at hf
      have e : ((List.range len0).map f).getD k rz = f k := by simp [List.getD, hk']
      rw [e, Nat.add_assoc, Nat.add_assoc]
      exact hf

end Go.Proofs.YtogcpoaclkomjaaDoor

/- A record as an argument: opened to its three numbers, and shut again. Conditions: none. -/
namespace Go.Proofs.YtogcpoaclkomjaaDoor
open Go.ChangeShapes Go.WideShapes Go.ChangeAt Go.RowKit Go.Joins

set_option maxRecDepth 100000 in
theorem open_rec {H : Type} {enc : TypeId × Value → H} {w : World} {base : Nat} {spare : Nat → Bool} {held : Bool} {r : Reach} {b0 : Nat} {v : Value} {d : DataW H} {p : List MemPlace}
    (hv : Value.okWide Tryd.prog w r b0 23 v) (h : DataW.Trod enc Tryd.prog w base spare held 23 v d p) :
    ∃ a b c : Int, v = .agg #[.int .i64 a, .int .i64 b, .int .i64 c] ∧ d = .agg [.lit (.int .i64 a), .lit (.int .i64 b), .lit (.int .i64 c)] ∧ p = [] ∧ (Lit.int .i64 a).wf = true ∧ (Lit.int .i64 b).wf = true ∧ (Lit.int .i64 c).wf = true := by
  obtain ⟨c0, c1, c2, y0, y1, y2, m, rfl, rfl, rfl, hy0, hy1, hy2⟩ := open_agg3 Tryd.underlying23 (by kernel_rfl) cells_rec hv h
  obtain ⟨a, e0, rfl, wa⟩ := DataW.trod_int Tryd.underlying3 hy0
  obtain ⟨b, e1, rfl, wb⟩ := DataW.trod_int Tryd.underlying3 hy1
  obtain ⟨c, e2, rfl, wc⟩ := DataW.trod_int Tryd.underlying3 hy2
  simp at e0 e1 e2
  subst e0 e1 e2
  exact ⟨a, b, c, rfl, rfl, rfl, wa, wb, wc⟩
set_option maxRecDepth 100000 in
theorem shut_rec {H : Type} {enc : TypeId × Value → H} {w : World} {base : Nat} {spare : Nat → Bool} {held : Bool} {a b c : Int} (wa : (Lit.int .i64 a).wf = true) (wb : (Lit.int .i64 b).wf = true) (wc : (Lit.int .i64 c).wf = true) :
    DataW.Trod enc Tryd.prog w base spare held 23 (.agg #[.int .i64 a, .int .i64 b, .int .i64 c]) (.agg [.lit (.int .i64 a), .lit (.int .i64 b), .lit (.int .i64 c)]) [] :=
  shut_agg3 (y0 := (.lit (.int .i64 a), [])) (y1 := (.lit (.int .i64 b), [])) (y2 := (.lit (.int .i64 c), [])) Tryd.underlying23 (by kernel_rfl) cells_rec ⟨1, by simp [DataW.trod, Tryd.underlying3, wa]⟩ ⟨1, by simp [DataW.trod, Tryd.underlying3, wb]⟩ ⟨1, by simp [DataW.trod, Tryd.underlying3, wc]⟩

end Go.Proofs.YtogcpoaclkomjaaDoor

/- The library's HasSuffix, IndexByte, Cut, Clone and the Builder's String lie in this program as the library's contracts ask. Conditions: as each theorem says. -/
namespace Go.Proofs.YtogcpoaclkomjaaDoor
open Go.Shelf
def sufL_ren : Go.Shelf.Ren := ⟨fun | 100 => 47 | 207 => 61 | n => n, fun | 9 => 9 | 4 => 4 | 3 => 3 | n => n, fun | n => n⟩
theorem sufL : Go.Proofs.Lays.n100 Tryd.prog sufL_ren := {
  mixed := by kernel_rfl
  f100 := Tryd.func47.trans (congrArg some (by kernel_rfl))
  f207 := Tryd.func61.trans (congrArg some (by kernel_rfl))
  t3 := Tryd.underlying3
  a3 := Tryd.isAgg3
  z3 := Tryd.sizeOf3
  v3 := Tryd.zeroValue3
  t4 := Tryd.underlying4
  a4 := Tryd.isAgg4
  z4 := Tryd.sizeOf4
  v4 := Tryd.zeroValue4
  t9 := Tryd.underlying9
  a9 := Tryd.isAgg9
  z9 := Tryd.sizeOf9
  v9 := Tryd.zeroValue9 }
def cutL_ren : Go.Shelf.Ren := ⟨fun | 145 => 42 | 220 => 57 | 219 => 66 | 217 => 65 | 225 => 71 | 224 => 72 | 267 => 73 | 266 => 70 | 314 => 80 | n => n, fun | 9 => 9 | 4 => 4 | 59 => 80 | 3 => 3 | 5 => 5 | 46 => 99 | 146 => 108 | 51 => 107 | n => n, fun | 1 => 0 | n => n⟩
theorem cutL : Go.Proofs.LaysM.n145 Tryd.prog cutL_ren := {
  mixed := by kernel_rfl
  f145 := Tryd.func42.trans (congrArg some (by kernel_rfl))
  f217 := Tryd.func65.trans (congrArg some (by kernel_rfl))
  f219 := Tryd.func66.trans (congrArg some (by kernel_rfl))
  f220 := Tryd.func57.trans (congrArg some (by kernel_rfl))
  f224 := Tryd.func72.trans (congrArg some (by kernel_rfl))
  f225 := Tryd.func71.trans (congrArg some (by kernel_rfl))
  f266 := Tryd.func70.trans (congrArg some (by kernel_rfl))
  f267 := Tryd.func73.trans (congrArg some (by kernel_rfl))
  f314 := Tryd.func80.trans (congrArg some (by kernel_rfl))
  t3 := Tryd.underlying3
  a3 := Tryd.isAgg3
  z3 := Tryd.sizeOf3
  v3 := Tryd.zeroValue3
  t4 := Tryd.underlying4
  a4 := Tryd.isAgg4
  z4 := Tryd.sizeOf4
  v4 := Tryd.zeroValue4
  t5 := Tryd.underlying5
  a5 := Tryd.isAgg5
  z5 := Tryd.sizeOf5
  v5 := Tryd.zeroValue5
  t9 := Tryd.underlying9
  a9 := Tryd.isAgg9
  z9 := Tryd.sizeOf9
  v9 := Tryd.zeroValue9
  t46 := Tryd.underlying99
  a46 := Tryd.isAgg99
  z46 := Tryd.sizeOf99
  v46 := Tryd.zeroValue99
  t51 := Tryd.underlying107
  a51 := Tryd.isAgg107
  z51 := Tryd.sizeOf107
  v51 := Tryd.zeroValue107
  t59 := Tryd.underlying80
  a59 := Tryd.isAgg80
  z59 := Tryd.sizeOf80
  v59 := Tryd.zeroValue80
  t146 := Tryd.underlying108
  a146 := Tryd.isAgg108
  z146 := Tryd.sizeOf108
  v146 := Tryd.zeroValue108
  g1 := by kernel_rfl
  i3 := by kernel_rfl
  i4 := by kernel_rfl
  i5 := by kernel_rfl
  i9 := by kernel_rfl
  i46 := by kernel_rfl
  i51 := by kernel_rfl
  i59 := by kernel_rfl
  i146 := by kernel_rfl
  m1 := by kernel_rfl
  s1_3 := fun w h => Go.Proofs.cell_of_shapedOpen_int (zero := #[.int .i64 0]) (t := 3) h (of_decide_eq_true (by kernel_rfl)) (by kernel_rfl) rfl (by kernel_rfl) (by kernel_rfl) Tryd.underlying3 }
def cloneL_ren : Go.Shelf.Ren := ⟨fun | 316 => 64 | n => n, fun | 9 => 9 | 3 => 3 | 4 => 4 | 37 => 58 | 0 => 0 | 127 => 83 | 5 => 5 | n => n, fun | n => n⟩
theorem cloneL : Go.Proofs.LaysM.n316 Tryd.prog cloneL_ren := {
  mixed := by kernel_rfl
  f316 := Tryd.func64.trans (congrArg some (by kernel_rfl))
  t0 := Tryd.underlying0
  a0 := Tryd.isAgg0
  z0 := Tryd.sizeOf0
  v0 := Tryd.zeroValue0
  t3 := Tryd.underlying3
  a3 := Tryd.isAgg3
  z3 := Tryd.sizeOf3
  v3 := Tryd.zeroValue3
  t4 := Tryd.underlying4
  a4 := Tryd.isAgg4
  z4 := Tryd.sizeOf4
  v4 := Tryd.zeroValue4
  t9 := Tryd.underlying9
  a9 := Tryd.isAgg9
  z9 := Tryd.sizeOf9
  v9 := Tryd.zeroValue9
  t37 := Tryd.underlying58
  a37 := Tryd.isAgg58
  z37 := Tryd.sizeOf58
  v37 := Tryd.zeroValue58
  t127 := Tryd.underlying83
  a127 := Tryd.isAgg83
  z127 := Tryd.sizeOf83
  v127 := Tryd.zeroValue83
  t5 := Tryd.underlying5
  a5 := Tryd.isAgg5
  z5 := Tryd.sizeOf5
  v5 := Tryd.zeroValue5
  i0 := by kernel_rfl
  i3 := by kernel_rfl
  i4 := by kernel_rfl
  i5 := by kernel_rfl
  i9 := by kernel_rfl
  i37 := by kernel_rfl
  i127 := by kernel_rfl }
def bsL_ren : Go.Shelf.Ren := ⟨fun | 169 => 27 | n => n, fun | 70 => 57 | 9 => 9 | 0 => 0 | 72 => 60 | 37 => 58 | 127 => 83 | 3 => 3 | 5 => 5 | n => n, fun | n => n⟩
theorem bsL : Go.Proofs.Lays.n169 Tryd.prog bsL_ren := {
  mixed := by kernel_rfl
  f169 := Tryd.func27.trans (congrArg some (by kernel_rfl))
  t0 := Tryd.underlying0
  a0 := Tryd.isAgg0
  z0 := Tryd.sizeOf0
  v0 := Tryd.zeroValue0
  t3 := Tryd.underlying3
  a3 := Tryd.isAgg3
  z3 := Tryd.sizeOf3
  v3 := Tryd.zeroValue3
  t9 := Tryd.underlying9
  a9 := Tryd.isAgg9
  z9 := Tryd.sizeOf9
  v9 := Tryd.zeroValue9
  t37 := Tryd.underlying58
  a37 := Tryd.isAgg58
  z37 := Tryd.sizeOf58
  v37 := Tryd.zeroValue58
  t70 := Tryd.underlying57
  a70 := Tryd.isAgg57
  z70 := Tryd.sizeOf57
  v70 := Tryd.zeroValue57
  t72 := Tryd.underlying60
  a72 := Tryd.isAgg60
  z72 := Tryd.sizeOf60
  v72 := Tryd.zeroValue60
  t127 := Tryd.underlying83
  a127 := Tryd.isAgg83
  z127 := Tryd.sizeOf83
  v127 := Tryd.zeroValue83 }
theorem extra_bs : Builder.Extra Tryd.prog bsL_ren where
  sizeBuilder := by kernel_rfl
  liesBuilder := by kernel_rfl
  t5 := Tryd.underlying5
  a5 := Tryd.isAgg5
  z5 := Tryd.sizeOf5
  v5 := Tryd.zeroValue5
  infoByte := by kernel_rfl
  cellsByte := by kernel_rfl
  sizeByte := by kernel_rfl
  neB5 := by decide
open Go.RowKit in
theorem clone_any (s : ByteArray) (w : World) (hl : s.size ≤ 281474976710656) :
    Calls Tryd.prog 64 #[.string s] w fun e w' => e = .returned (.string s) ∧ Below w.heap.size w w' := Any.stringslite_Clone cloneL s w hl
open Go.RowKit in
theorem suffix_any (s p : ByteArray) (w : World) (hs : s.size ≤ 9223372036854775807) :
    Calls Tryd.prog 47 #[.string s, .string p] w fun e w' => e = .returned (.bool (Lib.hasSuffix s.data.toList p.data.toList)) ∧ w' = w := Any.strings_HasSuffix sufL s p w hs
open Go.RowKit in
theorem cut_any (s sep : ByteArray) (m : Int) (w : World) (hs : s.size < 4294967281) (hm : w.cell? ⟨0, 0, none⟩ = some (.int .i64 m)) :
    Calls Tryd.prog 42 #[.string s, .string sep] w fun e w' => e = .returned (.tuple #[.string ⟨(Lib.cut s.data.toList sep.data.toList).1.toArray⟩, .string ⟨(Lib.cut s.data.toList sep.data.toList).2.1.toArray⟩, .bool (Lib.cut s.data.toList sep.data.toList).2.2]) ∧ ∃ n, w' = w.drewN n := Any.strings_Cut { cutL with } s sep m w hs hm
theorem max_shaped (w : World) (h : w.ShapedOpen Tryd.prog) : ∃ m, w.cell? ⟨0, 0, none⟩ = some (.int .i64 m) := cutL.s1_3 w h
open Go.RowKit in
theorem bstr_any (B b : Nat) (l : List UInt8) (w : World) (h : Lib.IsBuilderF 60 5 B b (Lib.byteCells l) w) (hBw : B ≤ w.heap.size) :
    Calls Tryd.prog 27 #[.pointer (some ⟨b, 0, none⟩)] w fun e w' => e = .returned (.string ⟨l.toArray⟩) ∧ (Lib.IsBuilderF 60 5 B b (Lib.byteCells l) w' ∧ Below B w w' ∧ Lib.OthersKept 5 (some b) w w') := Any.Builder_String_any_k bsL extra_bs B b l w h hBw

end Go.Proofs.YtogcpoaclkomjaaDoor

/- The document's names of minutes as bytes: what a minute is called, and which minute a text could be the name of. Conditions: none beyond each lemma's own premises. -/
namespace Go.Proofs.YtogcpoaclkomjaaDoor
open Go.RowKit

/-- A digit's byte. -/
def dg (n : Int) : UInt8 := UInt8.ofNat (48 + n).toNat

theorem dg_nat {n : Int} (h0 : 0 ≤ n) (h1 : n ≤ 9) : ((dg n).toNat : Int) = 48 + n := by
  unfold dg
  have h : (48 + n).toNat < 256 := by omega
  rw [UInt8.toNat_ofNat_of_lt' h]
  omega

/-- The bytes of a day's name. -/
def dayC : Nat → UInt8 × UInt8 × UInt8
  | 0 => (77, 111, 110)
  | 1 => (84, 117, 101)
  | 2 => (87, 101, 100)
  | 3 => (84, 104, 117)
  | 4 => (70, 114, 105)
  | 5 => (83, 97, 116)
  | _ => (83, 117, 110)

def dayB (k : Nat) : ByteArray := ⟨#[(dayC k).1, (dayC k).2.1, (dayC k).2.2]⟩

/-- Which day has the name: 7 where none has it. -/
def dayIx (t : ByteArray) : Nat :=
  if t = dayB 0 then 0 else if t = dayB 1 then 1 else if t = dayB 2 then 2 else if t = dayB 3 then 3 else if t = dayB 4 then 4 else if t = dayB 5 then 5 else if t = dayB 6 then 6 else 7

theorem dayIx_le (t : ByteArray) : dayIx t ≤ 7 := by
  unfold dayIx
  repeat' split
  all_goals omega

theorem dayIx_at {k : Nat} {t : ByteArray} (hk : k < 7) (h : dayB k = t) (hn : ∀ j, j < k → dayB j ≠ t) : dayIx t = k := by
  unfold dayIx
  match k, hk, h, hn with
  | 0, _, h, _ => rw [if_pos h.symm]
  | 1, _, h, hn => rw [if_neg (fun e => hn 0 (by omega) e.symm), if_pos h.symm]
  | 2, _, h, hn => rw [if_neg (fun e => hn 0 (by omega) e.symm), if_neg (fun e => hn 1 (by omega) e.symm), if_pos h.symm]
  | 3, _, h, hn => rw [if_neg (fun e => hn 0 (by omega) e.symm), if_neg (fun e => hn 1 (by omega) e.symm), if_neg (fun e => hn 2 (by omega) e.symm), if_pos h.symm]
  | 4, _, h, hn => rw [if_neg (fun e => hn 0 (by omega) e.symm), if_neg (fun e => hn 1 (by omega) e.symm), if_neg (fun e => hn 2 (by omega) e.symm), if_neg (fun e => hn 3 (by omega) e.symm), if_pos h.symm]
  | 5, _, h, hn => rw [if_neg (fun e => hn 0 (by omega) e.symm), if_neg (fun e => hn 1 (by omega) e.symm), if_neg (fun e => hn 2 (by omega) e.symm), if_neg (fun e => hn 3 (by omega) e.symm), if_neg (fun e => hn 4 (by omega) e.symm), if_pos h.symm]
  | 6, _, h, hn => rw [if_neg (fun e => hn 0 (by omega) e.symm), if_neg (fun e => hn 1 (by omega) e.symm), if_neg (fun e => hn 2 (by omega) e.symm), if_neg (fun e => hn 3 (by omega) e.symm), if_neg (fun e => hn 4 (by omega) e.symm), if_neg (fun e => hn 5 (by omega) e.symm), if_pos h.symm]

theorem dayIx_none {t : ByteArray} (hn : ∀ j, j < 7 → dayB j ≠ t) : dayIx t = 7 := by
  unfold dayIx
  rw [if_neg (fun e => hn 0 (by omega) e.symm), if_neg (fun e => hn 1 (by omega) e.symm), if_neg (fun e => hn 2 (by omega) e.symm), if_neg (fun e => hn 3 (by omega) e.symm), if_neg (fun e => hn 4 (by omega) e.symm), if_neg (fun e => hn 5 (by omega) e.symm), if_neg (fun e => hn 6 (by omega) e.symm)]

theorem dayIx_day {k : Nat} (hk : k < 7) : dayIx (dayB k) = k := by
  match k, hk with
  | 0, _ => decide
  | 1, _ => decide
  | 2, _ => decide
  | 3, _ => decide
  | 4, _ => decide
  | 5, _ => decide
  | 6, _ => decide

/-- The name of a minute from 0 to 40320. -/
def nameB (m : Int) : ByteArray :=
  ⟨#[dg (m / 10080 + 1), 32, (dayC (m / 1440 % 7).toNat).1, (dayC (m / 1440 % 7).toNat).2.1, (dayC (m / 1440 % 7).toNat).2.2, 32, dg (m / 60 % 24 / 10), dg (m / 60 % 24 % 10), 58, dg (m % 60 / 10), dg (m % 60 % 10)]⟩

theorem nameB_size (m : Int) : (nameB m).size = 11 := rfl

/-- A byte of a text as a number. -/
def bt (s : ByteArray) (i : Nat) : Int := ((s.data.getD i 0).toNat : Int)

theorem bt_bd (s : ByteArray) (i : Nat) : 0 ≤ bt s i ∧ bt s i ≤ 255 := by
  unfold bt
  have := (s.data.getD i 0).toNat_lt
  omega

/-- The minute that a text of eleven bytes could be the name of. -/
def cand (s : ByteArray) : Int :=
  (bt s 0 - 48 - 1) * 10080 + (dayIx (s.extract 2 5) : Int) * 1440 + (10 * (bt s 6 - 48) + (bt s 7 - 48)) * 60 + (10 * (bt s 9 - 48) + (bt s 10 - 48))

/-- The minute of a day that has the text's hour and minute. -/
def candD (s : ByteArray) (d : Int) : Int :=
  1440 * d + 60 * (10 * bt s 6 + bt s 7 - 528) + 10 * bt s 9 + bt s 10 - 528

theorem name_bytes (m : Int) (h0 : 0 ≤ m) (h1 : m ≤ 40320) :
    bt (nameB m) 0 = 48 + (m / 10080 + 1) ∧ bt (nameB m) 6 = 48 + m / 60 % 24 / 10 ∧ bt (nameB m) 7 = 48 + m / 60 % 24 % 10 ∧ bt (nameB m) 9 = 48 + m % 60 / 10 ∧ bt (nameB m) 10 = 48 + m % 60 % 10 := by
  refine ⟨?_, ?_, ?_, ?_, ?_⟩
  · exact dg_nat (by omega) (by omega)
  · exact dg_nat (by omega) (by omega)
  · exact dg_nat (by omega) (by omega)
  · exact dg_nat (by omega) (by omega)
  · exact dg_nat (by omega) (by omega)

theorem name_day (m : Int) : (nameB m).extract 2 5 = dayB (m / 1440 % 7).toNat := by
  apply ByteArray.ext
  rw [ByteArray.data_extract]
  rfl

theorem cand_name (m : Int) (h0 : 0 ≤ m) (h1 : m ≤ 40320) : cand (nameB m) = m := by
  obtain ⟨e0, e6, e7, e9, e10⟩ := name_bytes m h0 h1
  unfold cand
  rw [e0, e6, e7, e9, e10, name_day, dayIx_day (by omega)]
  omega

theorem candD_name (m : Int) (h0 : 0 ≤ m) (h1 : m ≤ 40320) : candD (nameB m) (m / 1440) = m := by
  obtain ⟨_, e6, e7, e9, e10⟩ := name_bytes m h0 h1
  unfold candD
  rw [e6, e7, e9, e10]
  omega

/-- What Parse tells of a text: the minute whose name it is, or the error 7. -/
def parseV (s : ByteArray) : Int × Int := if 0 ≤ cand s ∧ cand s ≤ 40320 ∧ nameB (cand s) = s then (cand s, 0) else (0, 7)

theorem parse_yes {s : ByteArray} {m : Int} (h0 : 0 ≤ m) (h1 : m ≤ 40320) (h : nameB m = s) : parseV s = (m, 0) := by
  subst h
  unfold parseV
  rw [cand_name m h0 h1, if_pos ⟨h0, h1, rfl⟩]

theorem parse_no {s : ByteArray} (h : ∀ m : Int, 0 ≤ m → m ≤ 40320 → nameB m ≠ s) : parseV s = (0, 7) := by
  unfold parseV
  rw [if_neg (fun ⟨a, b, c⟩ => h _ a b c)]

theorem parse_size {s : ByteArray} (h : s.size ≠ 11) : parseV s = (0, 7) :=
  parse_no fun m _ _ e => h (by rw [← e]; rfl)

theorem parse_out {s : ByteArray} (h : ¬ (0 ≤ cand s ∧ cand s ≤ 40320)) : parseV s = (0, 7) := by
  unfold parseV
  rw [if_neg (fun ⟨a, b, _⟩ => h ⟨a, b⟩)]

theorem parse_other {s : ByteArray} (h : nameB (cand s) ≠ s) : parseV s = (0, 7) := by
  unfold parseV
  rw [if_neg (fun ⟨_, _, c⟩ => h c)]

theorem parse_in {s : ByteArray} (h0 : 0 ≤ cand s) (h1 : cand s ≤ 40320) (h : nameB (cand s) = s) : parseV s = (cand s, 0) := parse_yes h0 h1 h

/-- Of all days none gives the text. -/
theorem parse_days {s : ByteArray} (h : ∀ d : Nat, d < 29 → ¬ (0 ≤ candD s d ∧ candD s d ≤ 40320 ∧ nameB (candD s d) = s)) : parseV s = (0, 7) := by
  refine parse_no fun m h0 h1 e => ?_
  have hd : ((m / 1440).toNat : Int) = m / 1440 := by omega
  refine h (m / 1440).toNat (by omega) ?_
  rw [hd, ← e, candD_name m h0 h1]
  exact ⟨h0, h1, rfl⟩

/-- What Name tells: the name, or the empty text, and the error number. -/
def nmS (m : Int) : ByteArray := if 0 ≤ m ∧ m ≤ 40320 then nameB m else ⟨#[]⟩
def nmE (m : Int) : Int := if 0 ≤ m ∧ m ≤ 40320 then 0 else 4

theorem nm_in {m : Int} (h0 : 0 ≤ m) (h1 : m ≤ 40320) : nmS m = nameB m ∧ nmE m = 0 := by
  unfold nmS nmE
  rw [if_pos ⟨h0, h1⟩, if_pos ⟨h0, h1⟩]
  exact ⟨rfl, rfl⟩

theorem nm_out {m : Int} (h : ¬ (0 ≤ m ∧ m ≤ 40320)) : nmS m = ⟨#[]⟩ ∧ nmE m = 4 := by
  unfold nmS nmE
  rw [if_neg h, if_neg h]
  exact ⟨rfl, rfl⟩

theorem name_alive : nameB 1505 = ⟨#[49, 32, 84, 117, 101, 32, 48, 49, 58, 48, 53]⟩ := by decide

end Go.Proofs.YtogcpoaclkomjaaDoor

/- Texts as bytes: a byte of a text as a number, the text of one byte and of two wherever they lie. Conditions: none beyond each lemma's own premises. -/
namespace Go.Proofs.YtogcpoaclkomjaaDoor
open Go.RowKit

theorem byte_bt (t : ByteArray) (i : Nat) (h : i < t.size) : ((t[i]'h).toNat : Int) = bt t i := by
  have h' : i < t.data.size := h
  have e : t.data.getD i 0 = t[i]'h := by
    unfold Array.getD
    rw [dif_pos h']
    rfl
  unfold bt
  rw [e]

theorem wrap_of {n : Int} (h0 : -9223372036854775808 ≤ n) (h1 : n ≤ 9223372036854775807) : IntKind.i64.wrap n = n := IntWalk.i64_in n ⟨h0, h1⟩

theorem wrap_u8 {n : Int} (h0 : 0 ≤ n) (h1 : n ≤ 255) : IntKind.u8.wrap n = n := by
  unfold IntKind.wrap
  simp [IntKind.bits, IntKind.signed]
  omega

/-- The text of one byte, of two, wherever they lie. -/
theorem convB1 (W : World) (N : Nat) (x : Int) (h : W.cell? ⟨N, 0, none⟩ = some (.int .u8 x)) :
    (convert 58 9 (.slice (some ⟨N, 0, none⟩) 1 1)).run Tryd.prog W = .ok (.string ⟨#[UInt8.ofNat x.toNat]⟩) W :=
  run_convert_bytes_arg W 58 5 Tryd.underlying58 Tryd.underlying5 N 0 1 1 [x] rfl (fun i hi => by
    obtain rfl : i = 0 := by omega
    exact h) 9 Tryd.underlying9

theorem cell_new0 (W : World) (x y : Int) (T : TypeId) : (W.alloc (.cells #[.int .u8 x, .int .u8 y] T)).cell? ⟨W.heap.size, 0, none⟩ = some (.int .u8 x) := by simp
theorem cell_new1 (W : World) (x y : Int) (T : TypeId) : (W.alloc (.cells #[.int .u8 x, .int .u8 y] T)).cell? ⟨W.heap.size, 1, none⟩ = some (.int .u8 y) := by simp

theorem convB2 (W : World) (N : Nat) (x y : Int) (h : W.cell? ⟨N, 0, none⟩ = some (.int .u8 x)) (h2 : W.cell? ⟨N, 1, none⟩ = some (.int .u8 y)) :
    (convert 58 9 (.slice (some ⟨N, 0, none⟩) 2 2)).run Tryd.prog W = .ok (.string ⟨#[UInt8.ofNat x.toNat, UInt8.ofNat y.toNat]⟩) W :=
  run_convert_bytes_arg W 58 5 Tryd.underlying58 Tryd.underlying5 N 0 2 2 [x, y] rfl (fun i hi => by
    rcases (by omega : i = 0 ∨ i = 1) with rfl | rfl
    · exact h
    · exact h2) 9 Tryd.underlying9

end Go.Proofs.YtogcpoaclkomjaaDoor

/- Plain facts on texts: the pieces between bytes of one kind, the words of a line, numbers as digits. Conditions: none beyond each lemma's own premises. -/
namespace Go.Proofs.YtogcpoaclkomjaaDoor
open Go.RowKit

/-- A word, and the place where it begins. -/
abbrev Wd := Nat × ByteArray

/-- Where the piece begins that is under way behind i bytes: pieces end at bytes c. -/
def pbeg (c : Int) (t : ByteArray) : Nat → Nat
  | 0 => 0
  | i + 1 => if bt t i = c then i + 1 else pbeg c t i

/-- The pieces that are ended behind i bytes. -/
def pdone (c : Int) (t : ByteArray) : Nat → List Wd
  | 0 => []
  | i + 1 => if bt t i = c then pdone c t i ++ [(pbeg c t i, t.extract (pbeg c t i) i)] else pdone c t i

theorem pbeg_hit {c : Int} {t : ByteArray} {i : Nat} (h : bt t i = c) : pbeg c t (i + 1) = i + 1 := by rw [pbeg, if_pos h]
theorem pbeg_miss {c : Int} {t : ByteArray} {i : Nat} (h : bt t i ≠ c) : pbeg c t (i + 1) = pbeg c t i := by rw [pbeg, if_neg h]
theorem pdone_hit {c : Int} {t : ByteArray} {i : Nat} (h : bt t i = c) : pdone c t (i + 1) = pdone c t i ++ [(pbeg c t i, t.extract (pbeg c t i) i)] := by rw [pdone, if_pos h]
theorem pdone_miss {c : Int} {t : ByteArray} {i : Nat} (h : bt t i ≠ c) : pdone c t (i + 1) = pdone c t i := by rw [pdone, if_neg h]

theorem pbeg_le (c : Int) (t : ByteArray) : ∀ i, pbeg c t i ≤ i
  | 0 => Nat.le_refl _
  | i + 1 => by
    have := pbeg_le c t i
    rw [pbeg]
    split <;> omega

/-- A piece begins at i just if i is the text's begin or stands behind a byte c. -/
theorem pbeg_here (c : Int) (t : ByteArray) : ∀ i, pbeg c t i = i ↔ i = 0 ∨ bt t (i - 1) = c
  | 0 => by simp [pbeg]
  | i + 1 => by
    have := pbeg_le c t i
    by_cases h : bt t i = c
    · simp [pbeg, h]
    · simp only [pbeg, if_neg h, Nat.add_sub_cancel]
      omega

theorem pdone_len (c : Int) (t : ByteArray) : ∀ i, (pdone c t i).length ≤ i
  | 0 => Nat.le_refl _
  | i + 1 => by
    have := pdone_len c t i
    rw [pdone]
    split
    · simp; omega
    · omega

/-- Over bytes that are no c nothing is ended. -/
theorem piece_skip {c : Int} {t : ByteArray} {i : Nat} : ∀ {d : Nat}, (∀ j, i ≤ j → j < i + d → bt t j ≠ c) → pbeg c t (i + d) = pbeg c t i ∧ pdone c t (i + d) = pdone c t i
  | 0, _ => ⟨rfl, rfl⟩
  | d + 1, h => by
    have ih := piece_skip (d := d) (fun j h1 h2 => h j h1 (by omega))
    have hn := h (i + d) (by omega) (by omega)
    rw [← Nat.add_assoc, pbeg_miss hn, pdone_miss hn]
    exact ih

theorem ext_list (t : ByteArray) (i j : Nat) : (t.extract i j).data.toList = (t.data.toList.take j).drop i := by
  simp [ByteArray.data_extract, List.drop_take]

theorem byte_list (t : ByteArray) (i : Nat) (h : i < t.size) : ∃ b, t.data.toList[i]? = some b ∧ (b.toNat : Int) = bt t i := by
  have h' : i < t.data.size := h
  refine ⟨t.data[i], by simp, ?_⟩
  unfold bt Array.getD
  rw [dif_pos h']
  rfl

theorem size_list (t : ByteArray) : t.data.toList.length = t.size := by rw [Array.length_toList]; rfl

/-- The pieces, each with the byte behind it, are the text up to the last one's end. -/
theorem join_done (cb : UInt8) (t : ByteArray) : ∀ i, i ≤ t.size → (pdone (cb.toNat : Int) t i).flatMap (fun s => s.2.data.toList ++ [cb]) = t.data.toList.take (pbeg (cb.toNat : Int) t i)
  | 0, _ => by simp [pdone, pbeg]
  | i + 1, h => by
    have ih := join_done cb t i (by omega)
    by_cases hc : bt t i = (cb.toNat : Int)
    · obtain ⟨b, hb, hbt⟩ := byte_list t i (by omega)
      have hbc : b = cb := UInt8.toNat_inj.1 (by omega)
      rw [pdone_hit hc, pbeg_hit hc, List.flatMap_append, ih, List.take_add_one, hb, hbc]
      have hle := pbeg_le (cb.toNat : Int) t i
      simp only [List.flatMap_cons, List.flatMap_nil, List.append_nil, Option.toList_some, ext_list, ← List.append_assoc]
      congr 1
      have e : List.take (pbeg (cb.toNat : Int) t i) t.data.toList = List.take (pbeg (cb.toNat : Int) t i) (List.take i t.data.toList) := by rw [List.take_take, Nat.min_eq_left hle]
      rw [e, List.take_append_drop]
    · rw [pdone_miss hc, pbeg_miss hc]
      exact ih

/-- Each piece stands where it is told. -/
theorem piece_place (c : Int) (t : ByteArray) : ∀ i, i ≤ t.size → ∀ s ∈ pdone c t i, s.1 + s.2.size ≤ i ∧ t.extract s.1 (s.1 + s.2.size) = s.2
  | 0, _, s, hs => by simp [pdone] at hs
  | i + 1, h, s, hs => by
    have ih := piece_place c t i (by omega)
    rw [pdone] at hs
    split at hs
    · rcases List.mem_append.1 hs with h1 | h1
      · have := ih s h1
        exact ⟨by omega, this.2⟩
      · have hle := pbeg_le c t i
        simp only [List.mem_singleton] at h1
        subst h1
        have hsz : (t.extract (pbeg c t i) i).size = i - pbeg c t i := by rw [ByteArray.size_extract]; omega
        simp only [hsz]
        have e : pbeg c t i + (i - pbeg c t i) = i := by omega
        rw [e]
        exact ⟨by omega, rfl⟩
    · have := ih s hs
      exact ⟨by omega, this.2⟩

/-- Texts with a blank between two. -/
def joinB : List ByteArray → List UInt8
  | [] => []
  | x :: r => x.data.toList ++ r.flatMap fun s => 32 :: s.data.toList

theorem joinB_snoc {l : List ByteArray} (x : ByteArray) (h : l ≠ []) : joinB (l ++ [x]) = joinB l ++ 32 :: x.data.toList := by
  cases l with
  | nil => exact absurd rfl h
  | cons a l => simp [joinB]

theorem joinB_flat : ∀ (l : List ByteArray) (x : ByteArray), joinB (l ++ [x]) = l.flatMap (fun s => s.data.toList ++ [32]) ++ x.data.toList
  | [], x => by simp [joinB]
  | a :: l, x => by
    have key : ∀ (l : List ByteArray), (l ++ [x]).flatMap (fun s => 32 :: s.data.toList) = 32 :: (l.flatMap (fun s => s.data.toList ++ [32]) ++ x.data.toList) := by
      intro l
      induction l with
      | nil => simp
      | cons b l ih => simp only [List.cons_append, List.flatMap_cons, ih]; simp
    simp only [List.cons_append, joinB, key]
    simp

/-- The byte at i stands wrong in a line of words. -/
def bad (t : ByteArray) (i : Nat) : Prop := bt t i < 32 ∨ 126 < bt t i ∨ (bt t i = 32 ∧ pbeg 32 t i = i)
instance (t : ByteArray) (i : Nat) : Decidable (bad t i) := by unfold bad; infer_instance

def fullW (t : ByteArray) : List Wd := pdone 32 t t.size ++ [(pbeg 32 t t.size, t.extract (pbeg 32 t t.size) t.size)]

/-- What a line is split into: its words, or the place of the byte that stands wrong. -/
def splitV (t : ByteArray) : List Wd × Nat × Int :=
  match (List.range t.size).find? fun i => decide (bad t i) with
  | some i => ([], i, 7)
  | none => if t.size = 0 then ([], 0, 0) else if pbeg 32 t t.size = t.size then ([], t.size, 7) else (fullW t, 0, 0)

theorem split_bad {t : ByteArray} {i : Nat} (h : i < t.size) (hb : bad t i) (hn : ∀ j, j < i → ¬ bad t j) : splitV t = ([], i, 7) := by
  have e : ((List.range t.size).find? fun i => decide (bad t i)) = some i := by
    rw [List.find?_range_eq_some]
    exact ⟨by simpa using hb, by simpa using h, fun j hj => by simpa using hn j hj⟩
  unfold splitV
  rw [e]

theorem find_none {t : ByteArray} (hn : ∀ j, j < t.size → ¬ bad t j) : ((List.range t.size).find? fun i => decide (bad t i)) = none := by
  rw [List.find?_eq_none]
  intro x hx
  simpa using hn x (by simpa using hx)

theorem split_empty {t : ByteArray} (h : t.size = 0) : splitV t = ([], 0, 0) := by
  unfold splitV
  rw [find_none (fun j hj => by omega)]
  simp [h]

theorem split_end {t : ByteArray} (h : t.size ≠ 0) (hn : ∀ j, j < t.size → ¬ bad t j) (he : pbeg 32 t t.size = t.size) : splitV t = ([], t.size, 7) := by
  unfold splitV
  rw [find_none hn]
  simp only [if_neg h, if_pos he]

theorem split_full {t : ByteArray} (h : t.size ≠ 0) (hn : ∀ j, j < t.size → ¬ bad t j) (he : pbeg 32 t t.size ≠ t.size) : splitV t = (fullW t, 0, 0) := by
  unfold splitV
  rw [find_none hn]
  simp only [if_neg h, if_neg he]

theorem full_len (t : ByteArray) : (fullW t).length ≤ t.size + 1 := by
  have := pdone_len 32 t t.size
  unfold fullW
  simp
  omega

theorem split_len (t : ByteArray) : (splitV t).1.length ≤ t.size + 1 := by
  unfold splitV
  split
  · simp
  · split
    · simp
    · split
      · simp
      · exact full_len t

/-- Of a line that is split: each word stands where it is told, and joined they are the line. -/
theorem full_back (t : ByteArray) : (∀ s ∈ fullW t, s.1 + s.2.size ≤ t.size ∧ t.extract s.1 (s.1 + s.2.size) = s.2) ∧ joinB ((fullW t).map (·.2)) = t.data.toList := by
  have hle := pbeg_le 32 t t.size
  constructor
  · intro s hs
    rcases List.mem_append.1 hs with h1 | h1
    · exact piece_place 32 t t.size (Nat.le_refl _) s h1
    · simp only [List.mem_singleton] at h1
      subst h1
      have hsz : (t.extract (pbeg 32 t t.size) t.size).size = t.size - pbeg 32 t t.size := by rw [ByteArray.size_extract]; omega
      simp only [hsz]
      have e : pbeg 32 t t.size + (t.size - pbeg 32 t t.size) = t.size := by omega
      rw [e]
      exact ⟨by omega, rfl⟩
  · unfold fullW
    rw [List.map_append, List.map_singleton, joinB_flat]
    have hj := join_done 32 t t.size (Nat.le_refl _)
    have e : (((32 : UInt8).toNat : Int)) = 32 := rfl
    rw [e] at hj
    rw [List.flatMap_map, hj, ext_list]
    have e2 : List.take t.size t.data.toList = t.data.toList := List.take_of_length_le (Nat.le_of_eq (size_list t))
    rw [e2, List.take_append_drop]

theorem split_back {t : ByteArray} (h : (splitV t).2.2 = 0) : (∀ s ∈ (splitV t).1, s.1 + s.2.size ≤ t.size ∧ t.extract s.1 (s.1 + s.2.size) = s.2) ∧ joinB ((splitV t).1.map (·.2)) = t.data.toList := by
  unfold splitV at h ⊢
  split
  · rename_i i e
    rw [e] at h
    simp at h
  · rename_i e
    rw [e] at h
    split
    · rename_i h0
      refine ⟨by simp, ?_⟩
      simp only [List.map_nil, joinB]
      have : t.data.toList.length = 0 := (size_list t).trans h0
      exact (List.eq_nil_of_length_eq_zero this).symm
    · rename_i h0
      simp only [if_neg h0] at h
      split
      · rename_i h1
        rw [if_pos h1] at h
        simp at h
      · exact full_back t

end Go.Proofs.YtogcpoaclkomjaaDoor

/- Slices of texts and of words that the call itself has made, or that can be read; a region that draws its order and makes memory. Conditions: none beyond each lemma's own premises. -/
namespace Go.Proofs.YtogcpoaclkomjaaDoor
open Go.RowKit

/-! ### Texts -/

/-- At the address A the texts of l lie one behind the other (of no text nothing is asked). -/
def RdT (w : World) (A : Option Addr) (l : List ByteArray) : Prop :=
  l ≠ [] → ∃ b off, A = some ⟨b, off, none⟩ ∧ b < w.heap.size ∧ ∀ k, k < l.length → w.cell? ⟨b, off + k, none⟩ = some (.string (l.getD k ⟨#[]⟩))

theorem RdT.at_ {w : World} {A : Option Addr} {l : List ByteArray} (h : RdT w A l) {k : Nat} (hk : k < l.length) : ∃ b off s, A = some ⟨b, off, none⟩ ∧ b < w.heap.size ∧ w.cell? ⟨b, off + k, none⟩ = some (.string s) ∧ Hid (l.getD k ⟨#[]⟩ = s) := by
  obtain ⟨b, off, hA, hb, hc⟩ := h (nonnil hk)
  exact ⟨b, off, _, hA, hb, hc k hk, Lib.hid rfl⟩

theorem RdT.below {w w' : World} {A : Option Addr} {l : List ByteArray} (h : RdT w A l) (hb : Below w.heap.size w w') : RdT w' A l := fun hl => by
  obtain ⟨b, off, hA, hbb, hk⟩ := h hl
  exact ⟨b, off, hA, Nat.lt_of_lt_of_le hbb hb.size, fun k hk' => by rw [hb.cell (p := ⟨b, off + k, none⟩) hbb]; exact hk k hk'⟩

/-- The slice is the call's own and holds the texts l. -/
def OwnT (base : Nat) (w : World) (v : Value) (l : List ByteArray) : Prop := w.ownsRow base 9 1 v l.length (l.map Value.string)

theorem OwnT.nil (base : Nat) (w : World) : OwnT base w (.slice none 0 0) [] := World.ownsRow_nil w base _ 1

theorem OwnT.read {base : Nat} {w : World} {v : Value} {l : List ByteArray} (h : OwnT base w v l) : ∃ A c, v = .slice A l.length c ∧ RdT w A l ∧ (A = none → c = 0) := by
  have h0 := h
  rcases h.2 with ⟨rfl, hn⟩ | ⟨g, cap, cur, rfl, hb, hg, h1, h2, h3, h4⟩
  · obtain rfl : l = [] := List.eq_nil_of_length_eq_zero hn
    exact ⟨none, 0, rfl, fun h => absurd rfl h, fun _ => rfl⟩
  · refine ⟨some ⟨g, 0, none⟩, cap, rfl, fun _ => ⟨g, 0, rfl, (World.ownsRow.lt h0 g rfl).2, fun k hk => ?_⟩, fun h => by cases h⟩
    rw [Nat.zero_add, World.ownsRow.cellAt h0 k (by omega)]
    simp [hk]

theorem OwnT.snoc {base : Nat} {w : World} {v : Value} {l : List ByteArray} {s : ByteArray} (h : w.ownsRow base 9 1 v (l.length + 1) (l.map Value.string ++ [.string s])) : OwnT base w v (l ++ [s]) := by
  unfold OwnT
  rw [List.map_append, List.length_append]
  exact h

theorem info_string : (Tryd.prog.info? 9).map (fun i => (i.zero, i.size, i.bytes)) = some (some (.string ⟨#[]⟩), 1, 16) := by kernel_rfl

/-! ### Words -/

def flatW (l : List Wd) : List Value := l.flatMap fun s => [.int .i64 s.1, .string s.2]

theorem flatW_cons (s : Wd) (l : List Wd) : flatW (s :: l) = .int .i64 s.1 :: .string s.2 :: flatW l := rfl
theorem flatW_append (a b : List Wd) : flatW (a ++ b) = flatW a ++ flatW b := by simp [flatW]

theorem flatW_len (l : List Wd) : (flatW l).length = l.length * 2 := by
  induction l with
  | nil => rfl
  | cons s l ih => rw [flatW_cons, List.length_cons, List.length_cons, ih, List.length_cons]; omega

theorem flatW_get : ∀ (l : List Wd) (k : Nat), k < l.length → (flatW l)[k * 2]? = some (.int .i64 ((l.getD k (0, ⟨#[]⟩)).1 : Nat)) ∧ (flatW l)[k * 2 + 1]? = some (.string (l.getD k (0, ⟨#[]⟩)).2)
  | s :: l, 0, _ => by simp [flatW_cons]
  | s :: l, k + 1, h => by
    have ih := flatW_get l k (by simpa using h)
    have e : (k + 1) * 2 = k * 2 + 1 + 1 := by omega
    rw [e, flatW_cons]
    simpa using ih

theorem flatW_set (a : List Wd) (x : Nat) (y z : ByteArray) : (flatW (a ++ [(x, y)])).set (a.length * 2 + 1) (.string z) = flatW (a ++ [(x, z)]) := by
  rw [flatW_append, flatW_append, List.set_append_right _ _ (by rw [flatW_len]; omega), flatW_len]
  have e : a.length * 2 + 1 - a.length * 2 = 1 := by omega
  rw [e]
  rfl

def RdW (w : World) (A : Option Addr) (l : List Wd) : Prop :=
  l ≠ [] → ∃ b off, A = some ⟨b, off, none⟩ ∧ b < w.heap.size ∧ ∀ k, k < l.length →
    w.cell? ⟨b, off + k * 2, none⟩ = some (.int .i64 ((l.getD k (0, ⟨#[]⟩)).1 : Nat)) ∧ w.cell? ⟨b, off + k * 2 + 1, none⟩ = some (.string (l.getD k (0, ⟨#[]⟩)).2)

theorem RdW.at_ {w : World} {A : Option Addr} {l : List Wd} (h : RdW w A l) {k : Nat} (hk : k < l.length) : ∃ (b off x : Nat) (s : ByteArray), A = some ⟨b, off, none⟩ ∧ b < w.heap.size ∧
    w.cell? ⟨b, off + k * 2, none⟩ = some (.int .i64 x) ∧ w.cell? ⟨b, off + k * 2 + 1, none⟩ = some (.string s) ∧ Hid (l.getD k (0, ⟨#[]⟩) = (x, s)) := by
  obtain ⟨b, off, hA, hb, hc⟩ := h (nonnil hk)
  exact ⟨b, off, _, _, hA, hb, (hc k hk).1, (hc k hk).2, Lib.hid rfl⟩

theorem RdW.below {w w' : World} {A : Option Addr} {l : List Wd} (h : RdW w A l) (hb : Below w.heap.size w w') : RdW w' A l := fun hl => by
  obtain ⟨b, off, hA, hbb, hk⟩ := h hl
  exact ⟨b, off, hA, Nat.lt_of_lt_of_le hbb hb.size, fun k hk' => ⟨by rw [hb.cell (p := ⟨b, off + k * 2, none⟩) hbb]; exact (hk k hk').1, by rw [hb.cell (p := ⟨b, off + k * 2 + 1, none⟩) hbb]; exact (hk k hk').2⟩⟩

/-- The slice is the call's own and holds the words l; e is their type. -/
def OwnW (e : TypeId) (base : Nat) (w : World) (v : Value) (l : List Wd) : Prop := w.ownsRow base e 2 v l.length (flatW l)

theorem OwnW.nil (e : TypeId) (base : Nat) (w : World) : OwnW e base w (.slice none 0 0) [] := World.ownsRow_nil w base _ 2

theorem OwnW.read {e : TypeId} {base : Nat} {w : World} {v : Value} {l : List Wd} (h : OwnW e base w v l) : ∃ A c, v = .slice A l.length c ∧ RdW w A l := by
  have h0 := h
  rcases h.2 with ⟨rfl, hn⟩ | ⟨g, cap, cur, rfl, hb, hg, h1, h2, h3, h4⟩
  · obtain rfl : l = [] := List.eq_nil_of_length_eq_zero hn
    exact ⟨none, 0, rfl, fun h => absurd rfl h⟩
  · refine ⟨some ⟨g, 0, none⟩, cap, rfl, fun _ => ⟨g, 0, rfl, (World.ownsRow.lt h0 g rfl).2, fun k hk => ?_⟩⟩
    have hf := flatW_get l k hk
    rw [Nat.zero_add, World.ownsRow.cellAt h0 (k * 2) (by omega), World.ownsRow.cellAt h0 (k * 2 + 1) (by omega)]
    exact hf

theorem OwnW.snoc {e : TypeId} {base : Nat} {w : World} {v : Value} {l : List Wd} {x : Nat} {s : ByteArray} (h : w.ownsRow base e 2 v (l.length + 1) (flatW l ++ [.int .i64 x, .string s])) : OwnW e base w v (l ++ [(x, s)]) := by
  unfold OwnW
  rw [flatW_append, List.length_append]
  exact h

theorem OwnW.stored {e : TypeId} {base : Nat} {w : World} {b n c j : Nat} {l l' : List Wd} {z : ByteArray} (h : OwnW e base w (.slice (some ⟨b, 0, none⟩) n c) l) (hn : l.length = n) (hl : l'.length = l.length) (hf : flatW l' = (flatW l).set (j * 2 + 1) (.string z)) :
    OwnW e base (w.setCell ⟨b, j * 2 + 1, none⟩ (.string z)) (.slice (some ⟨b, 0, none⟩) n c) l' := by
  unfold OwnW at *
  rw [hn] at h
  have h2 := (World.ownsRow.stored h (j * 2 + 1) (.string z)).1
  rw [hl, hn, hf]
  exact h2

theorem info_word : (Tryd.prog.info? 49).map (fun i => (i.zero, i.size, i.bytes)) = some (some (.agg #[.int .i64 0, .string ⟨#[]⟩]), 2, 24) := by kernel_rfl
theorem info_refword : (Tryd.prog.info? 55).map (fun i => (i.zero, i.size, i.bytes)) = some (some (.agg #[.int .i64 0, .string ⟨#[]⟩]), 2, 24) := by kernel_rfl

/-- The cells of one word in a block of their own. -/
theorem word_news {w : World} {n : Nat} (hn : n = w.heap.size) {x : Int} {s : ByteArray} {t : TypeId} : ∀ j u, ([.int .i64 x, .string s] : List Value)[j]? = some u → (w.alloc (.cells #[.int .i64 x, .string s] t)).cell? ((⟨n, 0, none⟩ : Addr).add j) = some u := by
  intro j u hj
  subst hn
  match j, hj with
  | 0, hj => simp at hj; subst hj; simp [Addr.add]
  | 1, hj => simp at hj; subst hj; simp [Addr.add]
  | j + 2, hj => simp at hj

theorem word_cells {x : Int} {s : ByteArray} : ∀ u ∈ ([.int .i64 x, .string s] : List Value), u.oneCell' = true := by
  intro u hu
  simp at hu
  rcases hu with rfl | rfl <;> rfl

theorem text_news {w : World} {n : Nat} (hn : n = w.heap.size) {s : ByteArray} {t : TypeId} : ∀ j u, ([.string s] : List Value)[j]? = some u → (w.alloc (.cells #[.string s] t)).cell? ((⟨n, 0, none⟩ : Addr).add j) = some u := by
  intro j u hj
  subst hn
  match j, hj with
  | 0, hj => simp at hj; subst hj; simp [Addr.add]
  | j + 1, hj => simp at hj

theorem text_cells {s : ByteArray} : ∀ u ∈ ([.string s] : List Value), u.oneCell' = true := by
  intro u hu
  simp at hu
  subst hu
  rfl

end Go.Proofs.YtogcpoaclkomjaaDoor

/- Plain facts on numbers as texts: which texts are a number's, which number that is, how a number is told; spans' texts. Conditions: none beyond each lemma's own premises. -/
namespace Go.Proofs.YtogcpoaclkomjaaDoor
open Go.RowKit

/-- The number that digits come to, behind another. -/
def valF (n : Nat) (l : List UInt8) : Nat := l.foldl (fun n b => 10 * n + (b.toNat - 48)) n

theorem valF_cons (n : Nat) (b : UInt8) (l : List UInt8) : valF n (b :: l) = valF (10 * n + (b.toNat - 48)) l := by unfold valF; rw [List.foldl_cons]
theorem valF_snoc (n : Nat) (b : UInt8) (l : List UInt8) : valF n (l ++ [b]) = 10 * valF n l + (b.toNat - 48) := by simp [valF]

theorem valF_ge : ∀ (l : List UInt8) (n : Nat), n ≤ valF n l
  | [], n => Nat.le_refl _
  | b :: l, n => by
    have := valF_ge l (10 * n + (b.toNat - 48))
    rw [valF_cons]
    omega

def digL (l : List UInt8) : Prop := ∀ b ∈ l, 48 ≤ b.toNat ∧ b.toNat ≤ 57

/-- Is it a number's text? -/
def numOk (s : ByteArray) : Prop := s.size ≠ 0 ∧ digL s.data.toList ∧ (s.size = 1 ∨ bt s 0 ≠ 48)

/-- The number whose text it is. -/
def numV (s : ByteArray) : Nat := valF 0 s.data.toList

theorem dig_at {s : ByteArray} (h : digL s.data.toList) {i : Nat} (hi : i < s.size) : 48 ≤ bt s i ∧ bt s i ≤ 57 := by
  obtain ⟨b, hb, hbt⟩ := byte_list s i hi
  have := h b (List.mem_of_getElem? hb)
  omega

theorem dig_of {s : ByteArray} (h : ∀ i, i < s.size → 48 ≤ bt s i ∧ bt s i ≤ 57) : digL s.data.toList := by
  intro b hb
  obtain ⟨i, hi, rfl⟩ := List.getElem_of_mem hb
  have hi' : i < s.size := by rw [← size_list]; exact hi
  obtain ⟨b, hb, hbt⟩ := byte_list s i hi'
  have := h i hi'
  rw [List.getElem?_eq_getElem hi] at hb
  injection hb with hb
  rw [hb]
  omega

theorem parse_val : ∀ (l : List UInt8) (acc : Nat), digL l → acc < 18446744073709551616 → Lib.parseUint10 acc l = if valF acc l < 18446744073709551616 then .ok (valF acc l) else .range
  | [], acc, _, ha => by simp [Lib.parseUint10, valF, ha]
  | b :: l, acc, hd, ha => by
    have hb := hd b (List.mem_cons_self ..)
    have hl : digL l := fun x hx => hd x (List.mem_cons_of_mem _ hx)
    have hg := valF_ge l (10 * acc + (b.toNat - 48))
    rw [Lib.parseUint10, if_pos hb, valF_cons]
    have e : acc * 10 + (b.toNat - 48) = 10 * acc + (b.toNat - 48) := by omega
    by_cases h1 : 1844674407370955162 ≤ acc
    · rw [if_pos h1, if_neg (by omega)]
    · rw [if_neg h1, e]
      by_cases h2 : 18446744073709551616 ≤ 10 * acc + (b.toNat - 48)
      · rw [if_pos h2, if_neg (by omega)]
      · rw [if_neg h2]
        exact parse_val l _ hl (by omega)

/-- What the library's Atoi makes of a number's text. -/
theorem atoi_val {s : ByteArray} (h : numOk s) : Lib.atoiAll s.data.toList = if numV s < 9223372036854775808 then .ok (numV s : Int) else .range := by
  obtain ⟨h0, hd, _⟩ := h
  unfold numV
  cases hl : s.data.toList with
  | nil => have := size_list s; rw [hl] at this; exact absurd this.symm h0
  | cons b r =>
    rw [hl] at hd
    have hb := hd b (List.mem_cons_self ..)
    rw [Lib.atoiAll_plain b r (by omega) (by omega)]
    have hm : Lib.parseMag (b :: r) = Lib.parseUint10 0 (b :: r) := by unfold Lib.parseMag; rw [if_neg (by simp)]
    rw [hm, parse_val _ 0 hd (by omega)]
    generalize valF 0 (b :: r) = v
    by_cases h1 : v < 18446744073709551616
    · rw [if_pos h1]
      simp only [Lib.signless]
      by_cases h2 : v < 9223372036854775808
      · rw [if_pos h2, if_neg (by omega)]
      · rw [if_neg h2, if_pos (by omega)]
    · rw [if_neg h1, if_neg (by omega)]
      rfl

open Classical in
/-- The number whose text it is, from 0 to most, or the error. -/
noncomputable def numberV (s : ByteArray) (most : Int) : Int × Int := if numOk s then (if most < (numV s : Int) then (0, 4) else ((numV s : Int), 0)) else (0, 7)

theorem number_form {s : ByteArray} {most : Int} (h : ¬ numOk s) : numberV s most = (0, 7) := by unfold numberV; rw [if_neg h]
theorem number_far {s : ByteArray} {most : Int} (h : numOk s) (h2 : most < (numV s : Int)) : numberV s most = (0, 4) := by unfold numberV; rw [if_pos h, if_pos h2]
theorem number_good {s : ByteArray} {most : Int} (h : numOk s) (h2 : (numV s : Int) ≤ most) : numberV s most = ((numV s : Int), 0) := by unfold numberV; rw [if_pos h, if_neg (by omega)]

/-! ### How a number is told -/

theorem ofNat_nat {n : Nat} (h : n < 256) : (UInt8.ofNat n).toNat = n := UInt8.toNat_ofNat_of_lt' h

theorem dec_small {u : Nat} (h : u < 10) : Lib.decDigits u = [UInt8.ofNat (48 + u)] := by rw [Lib.decDigits, dif_pos h]
theorem dec_big {u : Nat} (h : ¬ u < 10) : Lib.decDigits u = Lib.decDigits (u / 10) ++ [UInt8.ofNat (48 + u % 10)] := by rw [Lib.decDigits, dif_neg h]

theorem dec_dig (u : Nat) : digL (Lib.decDigits u) ∧ Lib.decDigits u ≠ [] ∧ valF 0 (Lib.decDigits u) = u := by
  induction u using Nat.strongRecOn with
  | _ u ih =>
    by_cases h : u < 10
    · rw [dec_small h]
      refine ⟨fun b hb => ?_, by simp, ?_⟩
      · simp only [List.mem_singleton] at hb
        subst hb
        rw [ofNat_nat (by omega)]
        omega
      · unfold valF
        rw [List.foldl_cons, List.foldl_nil, ofNat_nat (by omega)]
        omega
    · obtain ⟨h1, h2, h3⟩ := ih (u / 10) (by omega)
      rw [dec_big h]
      refine ⟨fun b hb => ?_, by simp, ?_⟩
      · rcases List.mem_append.1 hb with hb | hb
        · exact h1 b hb
        · simp only [List.mem_singleton] at hb
          subst hb
          rw [ofNat_nat (by omega)]
          omega
      · rw [valF_snoc, h3, ofNat_nat (by omega)]
        omega

theorem dec_head (u : Nat) (h0 : u ≠ 0) : ∃ b r, Lib.decDigits u = b :: r ∧ b.toNat ≠ 48 := by
  induction u using Nat.strongRecOn with
  | _ u ih =>
    by_cases h : u < 10
    · rw [dec_small h]
      exact ⟨_, _, rfl, by rw [ofNat_nat (by omega)]; omega⟩
    · obtain ⟨b, r, he, hb⟩ := ih (u / 10) (by omega) (by omega)
      rw [dec_big h, he]
      exact ⟨b, r ++ [UInt8.ofNat (48 + u % 10)], rfl, hb⟩

/-- A number's text as bytes. -/
def itoaB (n : Int) : ByteArray := ⟨(Lib.itoa n).toArray⟩

theorem itoaB_list (n : Int) : (itoaB n).data.toList = Lib.itoa n := by simp [itoaB]

theorem itoa_pos {n : Int} (h : 0 ≤ n) : Lib.itoa n = Lib.decDigits n.toNat := by unfold Lib.itoa; rw [if_neg (by omega)]
theorem itoa_neg {n : Int} (h : n < 0) : Lib.itoa n = 45 :: Lib.decDigits n.natAbs := by unfold Lib.itoa; rw [if_pos h]

theorem bt_head {s : ByteArray} {b : UInt8} {r : List UInt8} (h : s.data.toList = b :: r) : bt s 0 = (b.toNat : Int) := by
  have hs : 0 < s.size := by rw [← size_list, h]; simp
  obtain ⟨c, hc, hct⟩ := byte_list s 0 hs
  rw [h] at hc
  simp only [List.getElem?_cons_zero, Option.some.injEq] at hc
  rw [hc, hct]

/-- A text that begins with a minus is no number's. -/
theorem num_minus {s : ByteArray} {r : List UInt8} (h : s.data.toList = 45 :: r) : ¬ numOk s := by
  intro hs
  have := hs.2.1 45 (by rw [h]; exact List.mem_cons_self ..)
  have e : (45 : UInt8).toNat = 45 := rfl
  omega

theorem num_itoa {s : ByteArray} {n : Int} (h : 0 ≤ n) (hs : s.data.toList = Lib.itoa n) : numOk s ∧ (numV s : Int) = n := by
  rw [itoa_pos h] at hs
  obtain ⟨h1, h2, h3⟩ := dec_dig n.toNat
  have hz := size_list s
  rw [hs] at hz
  refine ⟨⟨fun e => ?_, by rw [hs]; exact h1, ?_⟩, ?_⟩
  · rw [e] at hz
    exact h2 (List.eq_nil_of_length_eq_zero hz)
  · by_cases h0 : n.toNat = 0
    · left
      rw [h0, dec_small (by omega)] at hz
      exact hz.symm
    · right
      obtain ⟨b, r, he, hb⟩ := dec_head n.toNat h0
      rw [he] at hs
      rw [bt_head hs]
      omega
  · unfold numV
    rw [hs, h3]
    omega

/-! ### Spans -/

open Classical in
/-- The span of two texts. -/
noncomputable def pairV (a b : ByteArray) : Int × Int × Int :=
  if ¬ numOk a ∨ ¬ numOk b then (0, 0, 7) else if 40320 < numV a ∨ 40320 < numV b then (0, 0, 4) else if numV b ≤ numV a then (0, 0, 3) else ((numV a : Int), (numV b : Int), 0)

theorem pair_form {a b : ByteArray} (h : ¬ numOk a ∨ ¬ numOk b) : pairV a b = (0, 0, 7) := by unfold pairV; rw [if_pos h]
theorem pair_far {a b : ByteArray} (ha : numOk a) (hb : numOk b) (h : 40320 < numV a ∨ 40320 < numV b) : pairV a b = (0, 0, 4) := by
  unfold pairV; rw [if_neg (by rintro (h | h) <;> exact h (by assumption)), if_pos h]
theorem pair_span {a b : ByteArray} (ha : numOk a) (hb : numOk b) (h1 : numV a ≤ 40320) (h2 : numV b ≤ 40320) (h : numV b ≤ numV a) : pairV a b = (0, 0, 3) := by
  unfold pairV; rw [if_neg (by rintro (h | h) <;> exact h (by assumption)), if_neg (by omega), if_pos h]
theorem pair_good {a b : ByteArray} (ha : numOk a) (hb : numOk b) (h1 : numV a ≤ 40320) (h2 : numV b ≤ 40320) (h : numV a < numV b) : pairV a b = ((numV a : Int), (numV b : Int), 0) := by
  unfold pairV; rw [if_neg (by rintro (h | h) <;> exact h (by assumption)), if_neg (by omega), if_neg (by omega)]

/-- What is ahead of the first minus, and behind it. -/
def ahead (s : ByteArray) : ByteArray := ⟨(Lib.cut s.data.toList [45]).1.toArray⟩
def behind (s : ByteArray) : ByteArray := ⟨(Lib.cut s.data.toList [45]).2.1.toArray⟩

noncomputable def spanV (s : ByteArray) : Int × Int × Int := pairV (ahead s) (behind s)

theorem occ_one (l : List UInt8) (i : Nat) : Lib.occAt l [45] i = true ↔ l[i]? = some 45 := by
  unfold Lib.occAt
  constructor
  · intro h
    obtain ⟨r, hr⟩ := List.isPrefixOf_iff_prefix.1 h
    have : (l.drop i)[0]? = some 45 := by rw [← hr]; rfl
    simpa using this
  · intro h
    obtain ⟨hi, he⟩ := List.getElem?_eq_some_iff.1 h
    rw [List.drop_eq_getElem_cons hi, he]
    simp

theorem bt_is {s : ByteArray} {i : Nat} (hi : i < s.size) {c : UInt8} : s.data.toList[i]? = some c ↔ bt s i = (c.toNat : Int) := by
  obtain ⟨b, hb, hbt⟩ := byte_list s i hi
  rw [hb, Option.some.injEq]
  constructor
  · rintro rfl; omega
  · intro h; exact UInt8.toNat_inj.1 (by omega)

theorem cut_none {s : ByteArray} (h : ∀ j, j < s.size → bt s j ≠ 45) : ahead s = s ∧ behind s = ⟨#[]⟩ := by
  have hi : Lib.indexB s ⟨#[45]⟩ = -1 := by
    refine Lib.index_none (fun j _ => ?_)
    cases hj : Lib.occAt s.data.toList [45] j with
    | false => rfl
    | true =>
      have he := (occ_one _ _).1 hj
      have hjs : j < s.size := by rw [← size_list]; exact (List.getElem?_eq_some_iff.1 he).1
      exact absurd ((bt_is hjs).1 he) (h j hjs)
  have := Lib.cutB_miss s ⟨#[45]⟩ hi
  exact ⟨this.1, this.2.1⟩

theorem cut_at {s : ByteArray} {p : Nat} (hp : p < s.size) (h : bt s p = 45) (hn : ∀ j, j < p → bt s j ≠ 45) : ahead s = s.extract 0 p ∧ behind s = s.extract (p + 1) s.size := by
  have hi : Lib.indexB s ⟨#[45]⟩ = p := by
    refine Lib.index_first (by rw [size_list]; omega) ((occ_one _ _).2 ((bt_is hp).2 h)) (fun j hj => ?_)
    cases hj' : Lib.occAt s.data.toList [45] j with
    | false => rfl
    | true => exact absurd ((bt_is (by omega)).1 ((occ_one _ _).1 hj')) (hn j hj)
  have := Lib.cutB_hit s ⟨#[45]⟩ p hi
  exact ⟨this.1, this.2.1⟩

theorem num_empty : ¬ numOk ⟨#[]⟩ := fun h => h.1 rfl

theorem bt_ext {s : ByteArray} {i j k : Nat} (h : i + k < j) (hj : j ≤ s.size) : bt (s.extract i j) k = bt s (i + k) := by
  have h1 : k < (s.extract i j).size := by rw [ByteArray.size_extract]; omega
  obtain ⟨b, hb, hbt⟩ := byte_list (s.extract i j) k h1
  obtain ⟨c, hc, hct⟩ := byte_list s (i + k) (by omega)
  rw [ext_list, List.getElem?_drop, List.getElem?_take_of_lt (by omega), hc] at hb
  injection hb with hb
  rw [← hbt, ← hct, hb]

/-- With a second minus behind the first one the span's text is none. -/
theorem span_two {s : ByteArray} {p q : Nat} (hq : q < s.size) (hpq : p < q) (h : bt s p = 45) (hn : ∀ j, j < p → bt s j ≠ 45) (h2 : bt s q = 45) : spanV s = (0, 0, 7) := by
  unfold spanV
  obtain ⟨_, e⟩ := cut_at (by omega) h hn
  rw [e]
  refine pair_form (.inr fun hb => ?_)
  have hz : (s.extract (p + 1) s.size).size = s.size - (p + 1) := by rw [ByteArray.size_extract]; omega
  have := dig_at hb.2.1 (i := q - (p + 1)) (by omega)
  rw [bt_ext (by omega) (Nat.le_refl _)] at this
  have e2 : p + 1 + (q - (p + 1)) = q := by omega
  rw [e2] at this
  omega

theorem span_none {s : ByteArray} (h : ∀ j, j < s.size → bt s j ≠ 45) : spanV s = (0, 0, 7) := by
  unfold spanV
  rw [(cut_none h).2]
  exact pair_form (.inr num_empty)

theorem span_at {s : ByteArray} {p : Nat} (hp : p < s.size) (h : bt s p = 45) (hn : ∀ j, j < p → bt s j ≠ 45) : spanV s = pairV (s.extract 0 p) (s.extract (p + 1) s.size) := by
  unfold spanV
  obtain ⟨e1, e2⟩ := cut_at hp h hn
  rw [e1, e2]

/-- A span's text. -/
def toldB (x y : Int) : ByteArray := (itoaB x ++ ⟨#[45]⟩) ++ itoaB y

end Go.Proofs.YtogcpoaclkomjaaDoor
