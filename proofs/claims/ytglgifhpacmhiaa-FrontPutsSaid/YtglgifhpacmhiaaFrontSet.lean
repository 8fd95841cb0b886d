/- What a front has behind a put; what lies at a spot; operations on the map as laws for a walk. Conditions: as the theorems say. -/
import Derived.Test.YtglgifhpacmhiaaRows
import Derived.Test.YtglgifhpacmhiaaBase
import Derived.Test.YtglgifhpacmhiaaRow
import Derived.Test.YtglgifhpacmhiaaBookRow
import Derived.Test.YtglgifhpacmhiaaRecMath
import Derived.Test.YtglgifhpacmhiaaBox
import Derived.Test.YtglgifhpacmhiaaChg
import Derived.Test.YtglgifhpacmhiaaWide
import Derived.Test.YtglgifhpacmhiaaMeterMath
import Derived.Test.YtglgifhpacmhiaaFrontMath
import Derived.Test.YtglgifhpacmhiaaFrontEq
import Derived.Test.YtglgifhpacmhiaaFrontMap
import Derived.Test.YtglgifhpacmhiaaFrontHeap
import Derived.WalkKit
import Derived.WalkSpells
import Derived.WalkSmall
import Derived.OrdersHeld
import Derived.Maps.RangeWalk
namespace Go.Proofs.Ytglgifhpacmhiaa
open Go.RowKit

/-! ### A spot's entry put -/

/-- With the entry in the place of the spot's own, or at the end. -/
def setE (E : List En) (q : En) : List En := if q.key ∈ E.map (·.key) then E.map fun r => if r.key = q.key then q else r else E ++ [q]

theorem atK_isSome {E : List En} {s : Rc} : (atK (E.map En.kv) s).isSome = true ↔ s ∈ E.map (·.key) := by
  unfold atK
  rw [Option.isSome_map, List.find?_isSome]
  constructor
  · rintro ⟨p, hp, e⟩
    obtain ⟨q, hq, rfl⟩ := List.mem_map.1 hp
    exact List.mem_map.2 ⟨q, hq, of_decide_eq_true e⟩
  · intro h
    obtain ⟨q, hq, e⟩ := List.mem_map.1 h
    exact ⟨q.kv, List.mem_map.2 ⟨q, hq, rfl⟩, decide_eq_true e⟩

theorem setE_kv (E : List En) (q : En) : (setE E q).map En.kv = setK (E.map En.kv) q.key q.v := by
  unfold setE setK
  by_cases h : q.key ∈ E.map (·.key)
  · rw [if_pos h, if_pos (atK_isSome.2 h), List.map_map, List.map_map]
    apply List.map_congr_left
    intro r _
    simp only [Function.comp]
    by_cases e : r.key = q.key
    · rw [if_pos e, if_pos (show (r.kv).1 = q.key from e)]; rfl
    · rw [if_neg e, if_neg (show ¬ (r.kv).1 = q.key from e)]
  · rw [if_neg h, if_neg (fun e => h (atK_isSome.1 e)), List.map_append]
    rfl
theorem mem_setE {E : List En} {q r : En} (h : r ∈ setE E q) : r = q ∨ (r ∈ E ∧ r.key ≠ q.key) := by
  unfold setE at h
  split at h
  · obtain ⟨t, ht, e⟩ := List.mem_map.1 h
    by_cases hk : t.key = q.key
    · rw [if_pos hk] at e; exact .inl e.symm
    · rw [if_neg hk] at e; subst e; exact .inr ⟨ht, hk⟩
  · rename_i hn
    rcases List.mem_append.1 h with h | h
    · exact .inr ⟨h, fun e => hn (List.mem_map.2 ⟨r, h, e⟩)⟩
    · exact .inl (List.mem_singleton.1 h)
theorem setE_mem {E : List En} {q r : En} (h : r ∈ E) (hk : r.key ≠ q.key) : r ∈ setE E q := by
  unfold setE
  split
  · exact List.mem_map.2 ⟨r, h, if_neg hk⟩
  · exact List.mem_append.2 (.inl h)
theorem setE_self (E : List En) (q : En) : q ∈ setE E q := by
  unfold setE
  split
  · rename_i h
    obtain ⟨r, hr, e⟩ := List.mem_map.1 h
    exact List.mem_map.2 ⟨r, hr, if_pos e⟩
  · simp
theorem setE_apart {E : List En} {q : En} (hk : (E.map (·.key)).Nodup) (hb : (E.map (·.blk)).Nodup) (h : ∀ r ∈ E, r.key ≠ q.key → r.blk ≠ q.blk) : ((setE E q).map (·.blk)).Nodup := by
  have h1 : E.Pairwise fun a b => a.key ≠ b.key := List.pairwise_map.1 hk
  have h2 : E.Pairwise fun a b => a.blk ≠ b.blk := List.pairwise_map.1 hb
  have h3 := h1.and h2
  unfold setE
  split
  · refine List.pairwise_map.2 (List.pairwise_map.2 (h3.imp_of_mem fun {a b} ha hb2 hab => ?_))
    obtain ⟨e1, e2⟩ := hab
    by_cases ea : a.key = q.key
    · rw [if_pos ea]
      by_cases eb : b.key = q.key
      · exact absurd (ea.trans eb.symm) e1
      · rw [if_neg eb]; exact fun e => h b hb2 eb e.symm
    · rw [if_neg ea]
      by_cases eb : b.key = q.key
      · rw [if_pos eb]; exact h a ha ea
      · rw [if_neg eb]; exact e2
  · rename_i hn
    rw [List.map_append]
    refine List.nodup_append.2 ⟨hb, by simp, fun a ha c hc e => ?_⟩
    simp only [List.map_cons, List.map_nil, List.mem_singleton] at hc
    obtain ⟨r, hr, rfl⟩ := List.mem_map.1 ha
    exact h r hr (fun e2 => hn (List.mem_map.2 ⟨r, hr, e2⟩)) (e.trans hc)
theorem setE_keys {E : List En} {q : En} {s : Rc} (h : s ∈ E.map (·.key) ∨ s = q.key) : s ∈ (setE E q).map (·.key) := by
  by_cases e : s = q.key
  · subst e; exact List.mem_map.2 ⟨q, setE_self E q, rfl⟩
  · obtain ⟨r, hr, e2⟩ := List.mem_map.1 (h.resolve_right e)
    exact List.mem_map.2 ⟨r, setE_mem hr (fun e3 => e (e2.symm.trans e3)), e2⟩

/-- A meter is put where none that is there is under it, or is it. -/
theorem FrM.put {w w' : World} {b : Nat} {E : List En} {y : List Ad} {x : Nat → Int} {s : Rc} {m : Mt} {q : En} (h : FrM w b E y) (hk : q.key = s) (hh : hitF x (allF y s) m = false)
    (hmp : Mp w' b (setK (E.map En.kv) s q.v)) (ho : OwnG mtW q.blk w' q.v q.l) (hl : q.l = restF x (allF y s) m ++ [m])
    (hkeep : ∀ r ∈ E, r.key ≠ s → w'.heap[r.blk]? = w.heap[r.blk]?) (hap : ∀ r ∈ E, r.key ≠ s → r.blk ≠ q.blk) : FrM w' b (setE E q) (putF x y s m) := by
  subst hk
  refine ⟨by rw [setE_kv]; exact hmp, fun r hr => ?_, fun r hr => ?_, setE_apart h.key_nodup h.apart hap, fun r hr => ?_, fun a ha => ?_⟩
  · rcases mem_setE hr with rfl | ⟨h1, h2⟩
    · exact ho
    · exact (h.own r h1).kept fun k hk => by injection hk with hk; have hk : r.blk = k := hk; rw [← hk]; exact hkeep r h1 h2
  · rcases mem_setE hr with rfl | ⟨h1, h2⟩
    · rw [hl]; simp
    · exact h.some_ r h1
  · rcases mem_setE hr with rfl | ⟨h1, h2⟩
    · rw [allF_put_same hh]; exact hl
    · rw [allF_put_other h2]; exact h.all r h1
  · rw [putF_no hh] at ha
    rcases List.mem_append.1 ha with h1 | h1
    · exact setE_keys (.inl (h.keys a (List.mem_filter.1 h1).1))
    · rw [List.mem_singleton] at h1
      subst h1
      exact setE_keys (.inr rfl)

theorem FrM.blk_ne {w : World} {b : Nat} {E : List En} {y : List Ad} (h : FrM w b E y) {r q : En} (hr : r ∈ E) (hq : q ∈ E) (hk : r.key ≠ q.key) : r.blk ≠ q.blk := by
  intro e
  obtain ⟨i, hi, rfl⟩ := List.getElem_of_mem hr
  obtain ⟨j, hj, rfl⟩ := List.getElem_of_mem hq
  have hp := List.pairwise_iff_getElem.1 (List.pairwise_map.1 h.apart)
  rcases Nat.lt_trichotomy i j with g | rfl | g
  · exact hp i j hi hj g e
  · exact hk rfl
  · exact hp j i hj hi g e.symm

/-- What a front is behind a put, where the row of the spot and the map have turned. -/
theorem Fr.put_end {w wc w8 : World} {B : List Nat} {g b : Nat} {x : Nat → Int} {y : List Ad} {E : List En} {s : Rc} {m : Mt} {q7 c7 n7 : Nat}
    (hs : Ms w B wc (g :: b :: E.map (·.blk))) (hm : FrM wc b E y) (hh : hitF x (allF y s) m = false) (hn : (restF x (allF y s) m ++ [m]).length = n7)
    (hg : Bx w8 g 55 (fc x (some b))) (hmp : Mp w8 b (setK (E.map En.kv) s (.slice (some ⟨q7, 0, none⟩) n7 c7))) (ho : OwnG mtW q7 w8 (.slice (some ⟨q7, 0, none⟩) n7 c7) (restF x (allF y s) m ++ [m]))
    (hsz : wc.heap.size ≤ w8.heap.size) (hq : (∃ q ∈ E, q.key = s ∧ q.blk = q7) ∨ wc.heap.size ≤ q7)
    (hother : ∀ k, k ≠ b → (∀ q ∈ E, q.key = s → k ≠ q.blk) → k < wc.heap.size → w8.heap[k]? = wc.heap[k]?)
    (hbel : ∀ n, n ≤ b → (∀ q ∈ E, q.key = s → n ≤ q.blk) → n ≤ wc.heap.size → Below n wc w8) : ∃ B', Fr w8 g x (putF x y s m) B' ∧ Ms w B w8 B' := by
  subst hn
  have lt : ∀ r ∈ E, r.blk < wc.heap.size := fun r hr => by
    obtain ⟨cur, h⟩ := hm.row hr
    exact h.lt
  have hap : ∀ r ∈ E, r.key ≠ s → r.blk ≠ q7 := fun r hr hk => by
    rcases hq with ⟨q, h1, h2, rfl⟩ | h1
    · subst h2; exact hm.blk_ne hr h1 hk
    · have := lt r hr; omega
  have hf : FrM w8 b (setE E ⟨s, q7, c7, restF x (allF y s) m ++ [m]⟩) (putF x y s m) :=
    hm.put (q := ⟨s, q7, c7, restF x (allF y s) m ++ [m]⟩) rfl hh hmp ho rfl (fun r hr hk => hother r.blk (hm.blk_b hr) (fun q h1 h2 => by subst h2; exact hm.blk_ne hr h1 hk) (lt r hr)) hap
  refine ⟨_, .inr ⟨b, _, hg, hf, rfl⟩, hs.trans ⟨hsz, fun k hk hl => ?_, fun n hn hl => ?_, fun k hk => ?_⟩⟩
  · simp only [List.mem_cons, List.mem_map, not_or] at hk
    exact hother k hk.2.1 (fun q h1 _ e => hk.2.2 ⟨q, h1, e.symm⟩) hl
  · exact hbel n (hn b (by simp)) (fun q h1 _ => hn q.blk (by simp; exact .inr (.inr ⟨q, h1, rfl⟩))) hl
  · rcases List.mem_cons.1 hk with rfl | hk
    · exact .inl (by simp)
    rcases List.mem_cons.1 hk with rfl | hk
    · exact .inl (by simp)
    obtain ⟨r, hr, rfl⟩ := List.mem_map.1 hk
    rcases mem_setE hr with rfl | ⟨h1, _⟩
    · rcases hq with ⟨q, h1, _, h2⟩ | h1
      · exact .inl (by rw [← h2]; simp; exact .inr (.inr ⟨q, h1, rfl⟩))
      · exact .inr h1
    · exact .inl (by simp; exact .inr (.inr ⟨r, h1, rfl⟩))

/-! ### What lies at a spot -/

theorem run_lookup_none (s : Rc) (w : World) : (Instr.lookup 53 (.map none) (.agg (sp s)) false).run Try.prog w = .ok (.slice none 0 0) w := by
  have hz : (zeroValue 37).run Try.prog w = .ok (.slice none 0 0) w := by kernel_rfl
  have hf := run_findKey_sp (w := w) (s := s) (es := []) (L := []) rfl
  have hc := run_check_sp true s w
  simp [Instr.lookup, run_underlying Try.underlying53, hc, hf, hz]

/-- What a lookup at the spot finds: nothing, or the row of the meters there. -/
theorem Fr.look {w : World} {g : Nat} {x : Nat → Int} {y : List Ad} {B : List Nat} (h : Fr w g x y B) (s : Rc) :
    ∃ mp v, Bx w g 55 (fc x mp) ∧ (∀ W, Below w.heap.size w W → (Instr.lookup 53 (.map mp) (.agg (sp s)) false).run Try.prog W = .ok v W) ∧
      ((v = .slice none 0 0 ∧ allF y s = []) ∨ ∃ q c, v = .slice (some ⟨q, 0, none⟩) (allF y s).length c ∧ q ∈ B ∧ OwnG mtW q w v (allF y s)) := by
  rcases h with ⟨h1, rfl, rfl⟩ | ⟨b, E, h1, h2, rfl⟩
  · exact ⟨none, _, h1, fun W _ => run_lookup_none s W, .inl ⟨rfl, rfl⟩⟩
  · refine ⟨some b, _, h1, fun W hb => run_lookup_sp (h2.mp.below hb) s, ?_⟩
    rcases h2.find s with ⟨q, hq, rfl⟩ | ⟨e1, e2⟩
    · rw [h2.at_mem hq]
      have ho := h2.own q hq
      rw [h2.all q hq] at ho
      refine .inr ⟨q.blk, q.cap, ?_, by simp; exact .inr (.inr ⟨q, hq, rfl⟩), ho⟩
      rw [← h2.all q hq]
      rfl
    · rw [e1]
      exact .inl ⟨rfl, e2⟩

/-! ### Laws for a walk -/

section
variable {ops : Array Oper} {rest : List Oper} {o : Oper} {a : Act} {w : World} {Q : Exit → Act → World → Prop}

theorem exec_lookup {r : Operand → Value} {t : TypeId} {m k : Operand} {v : Value} (w : World) (ho : o.op = .lookup t m k false) {mv kv : Value} (hm : r m = mv) (hk : r k = kv) (hrun : (Instr.lookup t mv kv false).run Try.prog w = .ok v w) : (execOp r o).run Try.prog w = .ok (.value v) w := by
  unfold execOp
  simp only [ho, hm, hk, hrun, Sem.run_bind, Result.andThen_ok]
  rfl

theorem exec_makeFunc {r : Operand → Value} {fn : Fn} {first cap : Array Operand} {vs us : Array Value} (w : World) (ho : o.op = .makeFunc fn first cap) (hv : first.map r = vs) (hu : cap.map r = us) : (execOp r o).run Try.prog w = .ok (.value (.func fn vs us)) w := by
  unfold execOp
  simp only [ho, hv, hu, Instr.makeFunc, Sem.run_bind, Sem.run_pure, Result.andThen_ok]

theorem wp_update_sp {K : Act → World → Prop} (m k v : Operand) (hop : o.op = Op.mapUpdate 53 m k v) (b : Nat) (L : List (Rc × Value)) (s : Rc) (u : Value)
    (hm : a.eval m = .map (some b)) (hk : a.eval k = .agg (sp s)) (hv : a.eval v = u) (h : Mp w b L) (hK : ∀ w', Mp w' b (setK L s u) → UpdM w b w' → K (a.put o.dst undef) w') : o.wp Try.prog a w K Q := by
  obtain ⟨w', h1, h2, h3⟩ := run_update_sp h s u
  unfold Oper.wp execOp
  simp only [hop, hm, hk, hv, h1, Sem.run_bind, Result.andThen_ok]
  exact hK w' h2 h3

theorem wpList_range_sp (hg : o.guard = none) (m : Operand) (hop : o.op = Op.range 53 m) (b : Nat) (L : List (Rc × Value)) (hm : a.eval m = .map (some b)) (h : Mp w b L)
    (hK : ∀ w', Rg w' w.heap.size b L → w'.heap.size = w.heap.size + 1 → Below w.heap.size w w' → wpList Try.prog ops Q rest (a.put o.dst (.pointer (some ⟨w.heap.size, 0, none⟩))) w') : wpList Try.prog ops Q (o :: rest) a w := by
  refine wpList_plain hg fun K' hK' => ?_
  obtain ⟨w', hrun, r1, r2, r3⟩ := run_range_sp h
  unfold Oper.wp
  simp [execOp, hop, hm, hrun, Result.andThen]
  exact hK' _ _ (hK w' r1 r2 r3)

theorem wpList_next_sp (hg : o.guard = none) (it : Operand) (hop : o.op = Op.next it false) (r b : Nat) (left : List (Rc × Value)) (hit : a.eval it = .pointer (some ⟨r, 0, none⟩)) (h : Rg w r b left)
    (hDone : left = [] → wpList Try.prog ops Q rest (a.put o.dst (.tuple #[.bool false])) w)
    (hMore : ∀ p left' w', left.Perm (p :: left') → Rg w' r b left' → (Instr.entry (.pointer (some ⟨r, 0, none⟩))).run Try.prog w' = .ok (.tuple #[.agg (sp p.1), p.2]) w' → w'.heap.size = w.heap.size → (∀ q, q ≠ r → w'.heap[q]? = w.heap[q]?) → (∀ n, n ≤ r → Below n w w') →
      wpList Try.prog ops Q rest (a.put o.dst (.tuple #[.bool true, .agg (sp p.1), p.2])) w') : wpList Try.prog ops Q (o :: rest) a w := by
  refine wpList_plain hg fun K' hK' => ?_
  unfold Oper.wp
  rcases run_next_sp (ty := o.type) h with ⟨h0, hrun⟩ | ⟨p, left', w', h1, hrun, h2, h3, h4, h5, h6⟩
  · simp [execOp, hop, hit, hrun, Result.andThen]
    exact hK' _ _ (hDone h0)
  · simp [execOp, hop, hit, hrun, Result.andThen]
    exact hK' _ _ (hMore p left' w' h1 h2 h3 h4 h5 h6)

/-- A map that is nil: gone over, there is nothing. -/
theorem wpList_range_none (hg : o.guard = none) (m : Operand) (hop : o.op = Op.range 53 m) (hm : a.eval m = .map none)
    (hK : wpList Try.prog ops Q rest (a.put o.dst (.pointer (some ⟨w.heap.size, 0, none⟩))) (w.alloc (.mapIter none 0 #[] 0))) : wpList Try.prog ops Q (o :: rest) a w := by
  refine wpList_plain hg fun K' hK' => ?_
  have hrun := run_range_nilMap (P := Try.prog) w _ _ _ Try.underlying53
  unfold Oper.wp
  simp [execOp, hop, hm, hrun, Result.andThen]
  exact hK' _ _ hK
theorem wpList_next_none (hg : o.guard = none) (it : Operand) (hop : o.op = Op.next it false) (W : World) (hw : w = W.alloc (.mapIter none 0 #[] 0)) (hit : a.eval it = .pointer (some ⟨W.heap.size, 0, none⟩))
    (hK : wpList Try.prog ops Q rest (a.put o.dst (.tuple #[.bool false])) w) : wpList Try.prog ops Q (o :: rest) a w := by
  subst hw
  refine wpList_plain hg fun K' hK' => ?_
  have hrun := run_next_nilMap (P := Try.prog) W o.type 0 0 #[]
  unfold Oper.wp
  simp [execOp, hop, hit, hrun, Result.andThen]
  exact hK' _ _ hK

end

end Go.Proofs.Ytglgifhpacmhiaa
