/- A map by spots in memory: its entries in the order in which they came; looked up, put into, gone over. Conditions: as the theorems say. -/
import Derived.Test.YtglgifhpacmhiaaRows
import Derived.Test.YtglgifhpacmhiaaBase
import Derived.Test.YtglgifhpacmhiaaRow
import Derived.Test.YtglgifhpacmhiaaRecMath
import Derived.Test.YtglgifhpacmhiaaFrontEq
import Derived.WalkKit
import Derived.Below
import Derived.Carry
import Derived.Maps.RangeRun
import Derived.Maps.Own
import Derived.Maps.RangeWalk
import Derived.OwnWalk
import Derived.Lib.Hide
import Derived.KernelRfl
namespace Go.Proofs.Ytglgifhpacmhiaa
open Go.RowKit
open Go.ChangeMaps (setBlock heap_setBlock_same heap_setBlock_other)

/-- Block b is a map with the entries of L, in the order in which they came, each spot once. -/
structure Mp (w : World) (b : Nat) (L : List (Rc × Value)) : Prop where
  ex : ∃ es clock, w.heap[b]? = some (.map es clock) ∧ es.toList.map (fun e => (e.key, e.val)) = L.map (fun p => (Value.agg (sp p.1), p.2)) ∧
    (es.toList.map (·.born)).Nodup ∧ ∀ e ∈ es.toList, e.born < clock
  keys : (L.map (·.1)).Nodup

/-- What lies at a spot. -/
def atK (L : List (Rc × Value)) (s : Rc) : Option Value := (L.find? fun p => decide (p.1 = s)).map (·.2)
/-- With the value at the spot: in its place, or at the end. -/
def setK (L : List (Rc × Value)) (s : Rc) (v : Value) : List (Rc × Value) :=
  if (atK L s).isSome then L.map fun p => if p.1 = s then (s, v) else p else L ++ [(s, v)]

theorem sp_inj {s t : Rc} (h : Value.agg (sp s) = .agg (sp t)) : s = t := by
  obtain ⟨a, b, c⟩ := s
  obtain ⟨d, e, f⟩ := t
  simp [sp] at h
  obtain ⟨rfl, rfl, rfl⟩ := h
  rfl

theorem Mp.lt {w : World} {b : Nat} {L : List (Rc × Value)} (h : Mp w b L) : b < w.heap.size := by
  obtain ⟨es, clock, hb, _⟩ := h.ex
  exact (Array.getElem?_eq_some_iff.1 hb).1
theorem Mp.kept {w w' : World} {b : Nat} {L : List (Rc × Value)} (h : Mp w b L) (e : w'.heap[b]? = w.heap[b]?) : Mp w' b L := by
  obtain ⟨es, clock, hb, r⟩ := h.ex
  exact ⟨⟨es, clock, e.trans hb, r⟩, h.keys⟩
theorem Mp.below {w w' : World} {b : Nat} {L : List (Rc × Value)} (h : Mp w b L) (hb : Below w.heap.size w w') : Mp w' b L := h.kept (hb.block b h.lt)
theorem Mp.drew {w : World} {b : Nat} {L : List (Rc × Value)} (h : Mp w b L) : Mp w.drew b L := h.kept rfl
theorem Mp.new (w : World) : Mp (w.alloc (.map #[] 0)) w.heap.size [] := ⟨⟨#[], 0, heap_alloc_new w _, by simp, by simp, by simp⟩, by simp⟩

/-- What a store into the map's block leaves. -/
structure UpdM (w : World) (b : Nat) (w' : World) : Prop where
  size : w'.heap.size = w.heap.size
  other : ∀ q, q ≠ b → w'.heap[q]? = w.heap[q]?
  bel : ∀ n, n ≤ b → Below n w w'

theorem UpdM.of {w : World} {b : Nat} {es : Array MapEntry} {clock : Nat} {o' : Obj} (hb : w.heap[b]? = some (.map es clock)) : UpdM w b (setBlock w b o') := by
  have hs : (setBlock w b o').heap.size = w.heap.size := by simp [setBlock]
  have ho : ∀ q, q ≠ b → (setBlock w b o').heap[q]? = w.heap[q]? := fun q hq => heap_setBlock_other hb _ hq
  exact ⟨hs, ho, fun n hn => ⟨rfl, rfl, rfl, by rw [hs]; exact Nat.le_refl _, fun q hq => ho q (by omega)⟩⟩

theorem UpdM.row {w w' : World} {b q : Nat} (u : UpdM w b w') (hq : q ≠ b) : w'.heap[q]? = w.heap[q]? := u.other q hq

/-! ### A key looked for -/

theorem run_find {P : Program} {w : World} {kt : TypeId} {s : Rc} (he : ∀ t : Rc, (Op.equal kt (.agg (sp s)) (.agg (sp t))).run P w = .ok (decide (s = t)) w) : ∀ (es : List MapEntry) (L : List (Rc × Value)) (i : Nat),
    es.map (fun e => (e.key, e.val)) = L.map (fun p => (Value.agg (sp p.1), p.2)) →
    (Instr.findAsking kt (.agg (sp s)) es i).run P w = .ok ((L.findIdx? fun p => decide (p.1 = s)).bind fun j => (L[j]?).map fun p => (i + j, p.2)) w
  | [], L, i, h => by
    have : L = [] := by
      cases L with
      | nil => rfl
      | cons a L => simp at h
    subst this
    rfl
  | e :: es, [], i, h => by simp at h
  | e :: es, p :: L, i, h => by
    simp only [List.map_cons, List.cons.injEq, Prod.mk.injEq] at h
    obtain ⟨⟨h1, h2⟩, h3⟩ := h
    unfold Instr.findAsking
    rw [Sem.run_bind, h1, he p.1]
    rw [List.findIdx?_cons]
    by_cases hp : p.1 = s
    · have hs : s = p.1 := hp.symm
      simp [hs, h2]
    · have hs : ¬ s = p.1 := fun e => hp e.symm
      have ih := run_find he es L (i + 1) h3
      simp only [hs, hp, decide_false, Result.andThen_ok, Bool.false_eq_true, if_false, ih]
      congr 1
      cases hf : L.findIdx? fun p => decide (p.1 = s) with
      | none => rfl
      | some j => simp [Nat.add_comm, Nat.add_left_comm]

theorem equal_at (s t : Rc) (w : World) : (Op.equal 26 (.agg (sp s)) (.agg (sp t))).run Try.prog w = .ok (decide (s = t)) w := equal_sp s t w

theorem run_findKey_sp {w : World} {s : Rc} {es : List MapEntry} {L : List (Rc × Value)} (h : es.map (fun e => (e.key, e.val)) = L.map (fun p => (Value.agg (sp p.1), p.2))) :
    (Instr.findKey 26 (.agg (sp s)) es).run Try.prog w = .ok ((L.findIdx? fun p => decide (p.1 = s)).bind fun j => (L[j]?).map fun p => (j, p.2)) w := by
  cases es with
  | nil =>
    have : L = [] := by
      cases L with
      | nil => rfl
      | cons a L => simp at h
    subst this
    simp [Instr.findKey, run_underlying Try.underlying26, Instr.findNow]
  | cons e es =>
    have hf := run_find (P := Try.prog) (w := w) (kt := 26) (s := s) (fun t => equal_at s t w) (e :: es) L 0 h
    have hk : ∃ t : Rc, e.key = .agg (sp t) := by
      cases L with
      | nil => simp at h
      | cons p L => simp at h; exact ⟨p.1, h.1.1⟩
    obtain ⟨t, hk⟩ := hk
    simp only [Nat.zero_add] at hf
    simp [Instr.findKey, run_underlying Try.underlying26, Instr.findNow, Instr.sameNow, hk, hf]

theorem run_check_sp (em : Bool) (s : Rc) (w : World) : (Instr.checkKey em 10000 26 (.agg (sp s))).run Try.prog w = .ok () w := by
  cases em <;> kernel_rfl

theorem find_at (L : List (Rc × Value)) (s : Rc) : ((L.findIdx? fun p => decide (p.1 = s)).bind fun j => (L[j]?).map fun p => (j, p.2)).map (·.2) = atK L s := by
  unfold atK
  induction L with
  | nil => rfl
  | cons p L ih =>
    rw [List.findIdx?_cons, List.find?_cons]
    by_cases h : p.1 = s
    · simp [h]
    · simp only [h, decide_false]
      rw [← ih]
      cases L.findIdx? fun p => decide (p.1 = s) with
      | none => rfl
      | some j => simp; rfl

theorem run_lookup_sp {w : World} {b : Nat} {L : List (Rc × Value)} (h : Mp w b L) (s : Rc) :
    (Instr.lookup 53 (.map (some b)) (.agg (sp s)) false).run Try.prog w = .ok ((atK L s).getD (.slice none 0 0)) w := by
  obtain ⟨es, clock, hb, hL, _⟩ := h.ex
  have hf := run_findKey_sp (w := w) (s := s) hL
  have hz : (zeroValue 37).run Try.prog w = .ok (.slice none 0 0) w := by kernel_rfl
  simp only [Instr.lookup, Sem.run_bind, run_underlying Try.underlying53, MapKept.run_getObj_map hb, run_check_sp, hf, Result.andThen_ok, Sem.run_pure]
  rw [← find_at L s]
  cases (L.findIdx? fun p => decide (p.1 = s)).bind fun j => (L[j]?).map fun p => (j, p.2) with
  | none => simp [hz]
  | some r => simp

/-! ### A store -/

theorem findIdx_some {L : List (Rc × Value)} {s : Rc} {j : Nat} (h : (L.findIdx? fun p => decide (p.1 = s)) = some j) : ∃ p, L[j]? = some p ∧ p.1 = s := by
  obtain ⟨hj, h2, _⟩ := List.findIdx?_eq_some_iff_getElem.1 h
  exact ⟨L[j], List.getElem?_eq_getElem hj, by simpa using h2⟩
theorem findIdx_none {L : List (Rc × Value)} {s : Rc} (h : (L.findIdx? fun p => decide (p.1 = s)) = none) : ∀ p ∈ L, p.1 ≠ s := by
  intro p hp e
  have := List.findIdx?_eq_none_iff.1 h p hp
  simp [e] at this

theorem atK_none {L : List (Rc × Value)} {s : Rc} (h : ∀ p ∈ L, p.1 ≠ s) : atK L s = none := by
  unfold atK
  rw [List.find?_eq_none.2 (fun p hp => by simpa using h p hp)]
  rfl
theorem atK_mem {L : List (Rc × Value)} {s : Rc} {v : Value} (hn : (L.map (·.1)).Nodup) (h : (s, v) ∈ L) : atK L s = some v := by
  unfold atK
  induction L with
  | nil => cases h
  | cons p L ih =>
    obtain ⟨h1, h2⟩ := List.nodup_cons.1 hn
    rw [List.find?_cons]
    rcases List.mem_cons.1 h with e | hm
    · subst e; simp
    · have : p.1 ≠ s := fun e => h1 (List.mem_map.2 ⟨(s, v), hm, e.symm⟩)
      simp only [this, decide_false]
      exact ih h2 hm
theorem atK_some {L : List (Rc × Value)} {s : Rc} {v : Value} (h : atK L s = some v) : (s, v) ∈ L := by
  unfold atK at h
  cases hf : L.find? fun p => decide (p.1 = s) with
  | none => rw [hf] at h; cases h
  | some p =>
    rw [hf] at h
    have h1 := List.mem_of_find?_eq_some hf
    have h2 := List.find?_some hf
    simp at h h2
    obtain ⟨a, c⟩ := p
    dsimp only at h h2
    subst h h2
    exact h1

theorem setK_keys (L : List (Rc × Value)) (s : Rc) (v : Value) : (setK L s v).map (·.1) = if (atK L s).isSome then L.map (·.1) else L.map (·.1) ++ [s] := by
  unfold setK
  split
  · rw [List.map_map]
    apply List.map_congr_left
    intro p _
    simp only [Function.comp]
    by_cases h : p.1 = s
    · rw [if_pos h]; exact h.symm
    · rw [if_neg h]
  · simp
theorem setK_nodup {L : List (Rc × Value)} {s : Rc} {v : Value} (h : (L.map (·.1)).Nodup) : ((setK L s v).map (·.1)).Nodup := by
  rw [setK_keys]
  split
  · exact h
  · rename_i hn
    rw [List.nodup_append]
    refine ⟨h, by simp, fun a ha b hb e => ?_⟩
    rw [List.mem_singleton] at hb
    subst hb
    subst e
    obtain ⟨⟨p1, p2⟩, hp, e⟩ := List.mem_map.1 ha
    dsimp only at e
    subst e
    rw [atK_mem h hp] at hn
    exact hn rfl
theorem setK_same {L : List (Rc × Value)} {s : Rc} {v : Value} (h : (L.map (·.1)).Nodup) : atK (setK L s v) s = some v := by
  refine atK_mem (setK_nodup h) ?_
  unfold setK
  split
  · rename_i hs
    obtain ⟨u, hu⟩ := Option.isSome_iff_exists.1 hs
    exact List.mem_map.2 ⟨(s, u), atK_some hu, by simp⟩
  · simp
theorem setK_mem {L : List (Rc × Value)} {s : Rc} {v : Value} {p : Rc × Value} : p ∈ setK L s v → p = (s, v) ∨ (p ∈ L ∧ p.1 ≠ s) := by
  unfold setK
  split
  · intro h
    obtain ⟨q, hq, e⟩ := List.mem_map.1 h
    by_cases hs : q.1 = s
    · rw [if_pos hs] at e; exact .inl e.symm
    · rw [if_neg hs] at e; subst e; exact .inr ⟨hq, hs⟩
  · rename_i hn
    intro h
    rcases List.mem_append.1 h with h | h
    · refine .inr ⟨h, fun e => hn ?_⟩
      unfold atK
      have : (L.find? fun p => decide (p.1 = s)).isSome := List.find?_isSome.2 ⟨p, h, by simpa using e⟩
      rw [Option.isSome_map]; exact this
    · exact .inl (List.mem_singleton.1 h)
theorem mem_setK {L : List (Rc × Value)} {s : Rc} {v : Value} {p : Rc × Value} (h : p ∈ L) (hs : p.1 ≠ s) : p ∈ setK L s v := by
  unfold setK
  split
  · exact List.mem_map.2 ⟨p, h, by rw [if_neg hs]⟩
  · exact List.mem_append.2 (.inl h)
theorem setK_other {L : List (Rc × Value)} {s t : Rc} {v : Value} (h : (L.map (·.1)).Nodup) (ht : t ≠ s) : atK (setK L s v) t = atK L t := by
  cases ha : atK L t with
  | some u => exact atK_mem (setK_nodup h) (mem_setK (atK_some ha) ht)
  | none =>
    refine atK_none fun p hp e => ?_
    rcases setK_mem hp with rfl | ⟨h1, h2⟩
    · exact ht e.symm
    · obtain ⟨p1, p2⟩ := p
      dsimp only at e
      subst e
      rw [atK_mem h h1] at ha
      cases ha

theorem bits_sp (s : Rc) : Instr.sameBits 10000 (.agg (sp s)) (.agg (sp s)) = true := by
  rw [show (10000 : Nat) = 9998 + 1 + 1 from rfl]
  simp [Instr.sameBits, sp]

theorem run_update_sp {w : World} {b : Nat} {L : List (Rc × Value)} (h : Mp w b L) (s : Rc) (v : Value) :
    ∃ w', (Instr.mapUpdate 53 (.map (some b)) (.agg (sp s)) v).run Try.prog w = .ok () w' ∧ Mp w' b (setK L s v) ∧ UpdM w b w' := by
  obtain ⟨es, clock, hb, hL, hn, hlt⟩ := h.ex
  have hlen : es.toList.length = L.length := by have := congrArg List.length hL; simpa using this
  have hf := run_findKey_sp (w := w) (s := s) hL
  cases hi : L.findIdx? fun p => decide (p.1 = s) with
  | none =>
    have hno := findIdx_none hi
    have hk : atK L s = none := atK_none hno
    rw [hi] at hf
    refine ⟨_, ?_, ⟨⟨es.push ⟨.agg (sp s), v, clock⟩, clock + 1, heap_setBlock_same hb _, ?_, ?_, ?_⟩, setK_nodup h.keys⟩, UpdM.of hb⟩
    · simp only [Instr.mapUpdate, Sem.run_bind, run_underlying Try.underlying53, MapKept.run_getObj_map hb, run_check_sp, hf, Result.andThen_ok, Option.bind_none]
      exact MapKept.run_setObj_map _ hb
    · unfold setK
      rw [hk]
      simp [hL]
    · rw [Array.toList_push, List.map_append, List.nodup_append]
      refine ⟨hn, by simp, fun a ha c hc e => ?_⟩
      simp only [List.map_cons, List.map_nil, List.mem_singleton] at hc
      obtain ⟨x, hx, rfl⟩ := List.mem_map.1 ha
      have := hlt x hx
      omega
    · intro e he
      rw [Array.toList_push] at he
      rcases List.mem_append.1 he with he | he
      · have := hlt e he; omega
      · rw [List.mem_singleton] at he; subst he; exact Nat.lt_succ_self _
  | some j =>
    obtain ⟨p, hp, hps⟩ := findIdx_some hi
    have hjL : j < L.length := (List.getElem?_eq_some_iff.1 hp).1
    have hje : j < es.toList.length := by omega
    have hjs : j < es.size := by simpa using hje
    rw [hi] at hf
    simp only [Option.bind_some, hp, Option.map_some] at hf
    obtain ⟨e0, he0⟩ : ∃ e0, es[j]? = some e0 := ⟨es[j], Array.getElem?_eq_getElem hjs⟩
    have he0' : es.toList[j]? = some e0 := by simpa using he0
    have hkv : (e0.key, e0.val) = (Value.agg (sp p.1), p.2) := by
      have := congrArg (fun l => l[j]?) hL
      simp only [List.getElem?_map, he0', hp, Option.map_some, Option.some.injEq] at this
      exact this
    have hkey : e0.key = .agg (sp s) := by rw [← hps]; exact (Prod.mk.injEq .. ▸ hkv).1
    have hsome : (atK L s).isSome = true := by
      have := atK_mem (s := s) (v := p.2) h.keys (by rw [← hps]; exact List.mem_of_getElem? hp)
      rw [this]; rfl
    have hstay : (Instr.keyThatStays (.agg (sp s)) (.agg (sp s))).run Try.prog w = .ok (.agg (sp s)) w := by
      simp [Instr.keyThatStays, bits_sp]
    have hml : (es.modify j fun e => { e with key := .agg (sp s), val := v }).toList = es.toList.set j { e0 with key := .agg (sp s), val := v } := by
      rw [Array.toList_modify, Go.ChangeMaps.modify_eq_set _ _ _ _ he0']
    refine ⟨_, ?_, ⟨⟨es.modify j fun e => { e with key := .agg (sp s), val := v }, clock, heap_setBlock_same hb _, ?_, ?_, ?_⟩, setK_nodup h.keys⟩, UpdM.of hb⟩
    · simp only [Instr.mapUpdate, Sem.run_bind, run_underlying Try.underlying53, MapKept.run_getObj_map hb, run_check_sp, hf, Result.andThen_ok, he0, Option.map_some, Option.getD_some, hkey, hstay]
      exact MapKept.run_setObj_map _ hb
    · rw [hml]
      unfold setK
      rw [if_pos hsome, List.map_set, hL]
      apply List.ext_getElem
      · simp
      · intro i h1 h2
        have hiL : i < L.length := by simpa using h2
        rw [List.getElem_set]
        simp only [List.getElem_map]
        by_cases hij : j = i
        · subst hij
          have e1 : L[j] = p := by rw [List.getElem?_eq_getElem hiL] at hp; exact Option.some.inj hp
          rw [if_pos rfl, e1, if_pos hps]
        · rw [if_neg hij]
          have hne : (L[i]).1 ≠ s := by
            intro e
            have hnd := List.pairwise_iff_getElem.1 h.keys
            have e1 : L[j] = p := by rw [List.getElem?_eq_getElem hjL] at hp; exact Option.some.inj hp
            rcases Nat.lt_or_ge i j with g | g
            · exact hnd i j (by simpa using hiL) (by simpa using hjL) g (by simp [e1, hps, e])
            · exact hnd j i (by simpa using hjL) (by simpa using hiL) (by omega) (by simp [e1, hps, e])
          rw [if_neg hne]
    · rw [hml, List.map_set]
      have : (es.toList.map (·.born)).set j e0.born = es.toList.map (·.born) := by
        apply List.ext_getElem
        · simp
        · intro i h1 h2
          rw [List.getElem_set]
          split
          · rename_i hij
            subst hij
            simp only [List.getElem_map]
            rw [List.getElem?_eq_getElem hje] at he0'
            rw [Option.some.inj he0']
          · rfl
      rw [this]; exact hn
    · intro e he
      rw [hml] at he
      rcases List.mem_or_eq_of_mem_set he with he | rfl
      · exact hlt e he
      · exact hlt e0 (List.mem_of_getElem? he0')

/-! ### Gone over -/

/-- What an entry is. -/
def spOf : Value → Rc
  | .agg #[.int _ a, .int _ b, .int _ c] => (a, b, c)
  | _ => rz
def dec (e : MapEntry) : Rc × Value := (spOf e.key, e.val)
theorem spOf_sp (s : Rc) : spOf (.agg (sp s)) = s := rfl

theorem dec_of {es : List MapEntry} {L : List (Rc × Value)} (h : es.map (fun e => (e.key, e.val)) = L.map (fun p => (Value.agg (sp p.1), p.2))) : L = es.map dec ∧ ∀ e ∈ es, e.key = .agg (sp (dec e).1) := by
  induction es generalizing L with
  | nil =>
    cases L with
    | nil => exact ⟨rfl, fun _ h => by cases h⟩
    | cons p L => simp at h
  | cons e es ih =>
    cases L with
    | nil => simp at h
    | cons p L =>
      simp only [List.map_cons, List.cons.injEq, Prod.mk.injEq] at h
      obtain ⟨⟨h1, h2⟩, h3⟩ := h
      obtain ⟨i1, i2⟩ := ih h3
      have hd : dec e = p := by unfold dec; rw [h1, h2, spOf_sp]
      refine ⟨by rw [List.map_cons, hd, ← i1], fun x hx => ?_⟩
      rcases List.mem_cons.1 hx with rfl | hx
      · rw [hd]; exact h1
      · exact i2 x hx

/-- The iterator in block r goes over the map in block b; left is still to come. -/
def Rg (w : World) (r b : Nat) (left : List (Rc × Value)) : Prop :=
  ∃ es clock since seen c0, w.heap[b]? = some (.map es clock) ∧ (∀ e ∈ es.toList, e.key = .agg (sp (dec e).1)) ∧ (es.toList.map (·.born)).Nodup ∧
    w.heap[r]? = some (.mapIter (some b) since seen c0) ∧ (∀ x ∈ es.toList, x.born < since) ∧ since ≤ c0 ∧ since ≤ clock ∧ left = (leftOf es seen).toList.map dec

theorem Rg.kept {w w' : World} {r b : Nat} {left : List (Rc × Value)} (h : Rg w r b left) (e1 : w'.heap[b]? = w.heap[b]?) (e2 : w'.heap[r]? = w.heap[r]?) : Rg w' r b left := by
  obtain ⟨es, clock, since, seen, c0, hb, hk, hn, hr, rest⟩ := h
  exact ⟨es, clock, since, seen, c0, e1.trans hb, hk, hn, e2.trans hr, rest⟩
theorem Rg.lt {w : World} {r b : Nat} {left : List (Rc × Value)} (h : Rg w r b left) : b < w.heap.size ∧ r < w.heap.size := by
  obtain ⟨es, clock, since, seen, c0, hb, hk, hn, hr, rest⟩ := h
  exact ⟨(Array.getElem?_eq_some_iff.1 hb).1, (Array.getElem?_eq_some_iff.1 hr).1⟩
theorem Rg.below {w w' : World} {r b : Nat} {left : List (Rc × Value)} (h : Rg w r b left) (hb : Below w.heap.size w w') : Rg w' r b left := h.kept (hb.block b h.lt.1) (hb.block r h.lt.2)

theorem run_range_sp {w : World} {b : Nat} {L : List (Rc × Value)} (h : Mp w b L) :
    ∃ w', (Instr.range 53 (.map (some b))).run Try.prog w = .ok (.pointer (some ⟨w.heap.size, 0, none⟩)) w' ∧ Rg w' w.heap.size b L ∧ w'.heap.size = w.heap.size + 1 ∧ Below w.heap.size w w' := by
  obtain ⟨es, clock, hb, hL, hn, hlt⟩ := h.ex
  obtain ⟨h1, h2⟩ := dec_of hL
  refine ⟨_, run_range_map w _ _ _ b es clock Try.underlying53 hb, ⟨es, clock, clock, #[], clock, (heap_alloc_old w _ h.lt).trans hb, h2, hn, heap_alloc_new w _, hlt, Nat.le_refl _, Nat.le_refl _, ?_⟩, by simp, (Below.refl _ _).alloc (Nat.le_refl _) _⟩
  rw [h1]
  unfold leftOf
  rw [Array.toList_filter, List.filter_eq_self.2 (fun _ _ => by simp)]

theorem left_perm {es : Array MapEntry} {seen : Array Nat} {e : MapEntry} (hn : (es.toList.map (·.born)).Nodup) (he : e ∈ (leftOf es seen).toList) :
    ((leftOf es seen).toList.map dec).Perm (dec e :: (leftOf es (seen.push e.born)).toList.map dec) := by
  have hsub : (leftOf es seen).toList.Sublist es.toList := by
    unfold leftOf
    rw [Array.toList_filter]
    exact List.filter_sublist
  have hf : (leftOf es (seen.push e.born)).toList = (leftOf es seen).toList.filter fun x => !(x.born == e.born) := by
    unfold leftOf
    rw [Array.toList_filter, Array.toList_filter, List.filter_filter]
    apply List.filter_congr
    intro x _
    rw [contains_push]
    cases seen.contains x.born <;> cases (x.born == e.born) <;> rfl
  rw [hf]
  have hn2 := (hsub.map (·.born)).nodup hn
  generalize (leftOf es seen).toList = M at he hn2
  clear hf hsub hn
  show (M.map dec).Perm ((e :: M.filter fun x => !(x.born == e.born)).map dec)
  refine List.Perm.map dec ?_
  induction M with
  | nil => cases he
  | cons x M ih =>
    obtain ⟨h1, h2⟩ := List.nodup_cons.1 hn2
    rcases List.mem_cons.1 he with rfl | hm
    · rw [List.filter_cons_of_neg (by simp)]
      refine List.Perm.cons _ ?_
      rw [List.filter_eq_self.2 fun y hy => ?_]
      have : y.born ≠ e.born := fun e2 => h1 (List.mem_map.2 ⟨y, hy, e2⟩)
      simpa using this
    · have hx : x.born ≠ e.born := fun e2 => h1 (List.mem_map.2 ⟨e, hm, e2.symm⟩)
      rw [List.filter_cons_of_pos (by simpa using hx)]
      exact ((ih hm h2).cons x).trans (List.Perm.swap _ _ _)

theorem run_next_sp {w : World} {r b : Nat} {left : List (Rc × Value)} (ty : TypeId) (h : Rg w r b left) :
    (left = [] ∧ (Instr.next (.pointer (some ⟨r, 0, none⟩)) false ty).run Try.prog w = .ok (.tuple #[.bool false]) w) ∨
    ∃ p left' w', left.Perm (p :: left') ∧ (Instr.next (.pointer (some ⟨r, 0, none⟩)) false ty).run Try.prog w = .ok (.tuple #[.bool true, .agg (sp p.1), p.2]) w' ∧ Rg w' r b left' ∧
      (Instr.entry (.pointer (some ⟨r, 0, none⟩))).run Try.prog w' = .ok (.tuple #[.agg (sp p.1), p.2]) w' ∧ w'.heap.size = w.heap.size ∧ (∀ q, q ≠ r → w'.heap[q]? = w.heap[q]?) ∧ ∀ n, n ≤ r → Below n w w' := by
  obtain ⟨es, clock, since, seen, c0, hb, hk, hn, hr, hold, hsc, hck, rfl⟩ := h
  have hne : b ≠ r := by
    intro e
    rw [e, hr] at hb
    cases hb
  rcases run_next_at (P := Try.prog) w ty r b since c0 seen es clock hr hb hold hsc with ⟨h0, hrun⟩ | ⟨e, he, w1, hal, hrun⟩
  · refine .inl ⟨?_, hrun⟩
    rw [List.map_eq_nil_iff, Array.toList_eq_nil_iff]
    exact Array.eq_empty_of_size_eq_zero h0
  · have hem := (mem_left he).1
    have hr1 : w1.heap[r]? = some (.mapIter (some b) since seen c0) := by rcases hal with rfl | rfl <;> exact hr
    have hb1 : w1.heap[b]? = some (.map es clock) := by rcases hal with rfl | rfl <;> exact hb
    have hset := MapKept.heap_set (o' := .mapIter (some b) since (seen.push e.born) clock) hr1
    have hb' : (setBlock w1 r (.mapIter (some b) since (seen.push e.born) clock)).heap[b]? = some (.map es clock) := (hset.2 b hne).trans hb1
    have hkey : e.key = .agg (sp (dec e).1) := hk e hem
    have hrun2 : (Instr.next (.pointer (some ⟨r, 0, none⟩)) false ty).run Try.prog w = .ok (.tuple #[.bool true, .agg (sp (dec e).1), (dec e).2]) (setBlock w1 r (.mapIter (some b) since (seen.push e.born) clock)) := by
      rw [← hkey]; exact hrun
    refine .inr ⟨dec e, _, _, left_perm hn he, hrun2, ⟨es, clock, since, seen.push e.born, clock, hb', hk, hn, hset.1, hold, hck, hck, rfl⟩, ?_, ?_, ?_, ?_⟩
    · rw [← hkey]
      exact run_entry_at _ r b since seen es clock e hset.1 hb' hem hn
    · rcases hal with rfl | rfl <;> simp [setBlock]
    · intro q hq
      rcases hal with rfl | rfl <;> exact hset.2 q hq
    · intro n hnr
      rcases hal with rfl | rfl
      · exact ⟨rfl, rfl, rfl, by simp [setBlock], fun i hi => hset.2 i (by omega)⟩
      · exact ⟨rfl, rfl, rfl, by simp [setBlock], fun i hi => hset.2 i (by omega)⟩

end Go.Proofs.Ytglgifhpacmhiaa
