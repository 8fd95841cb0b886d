/- Plain facts, several texts in one: LinesM, LinesIt, LinesRange. Conditions: none beyond each lemma's own premises. -/
import Derived.Test.YtogcpoaclkomjaaDoorZ1
import Derived.Test.YtogcpoaclkomjaaDoorWordPrint
import Derived.Lib.Strings
import Derived.RangeFuncBox
import Derived.RangeFuncNested
import Derived.RangeFuncBound
import Derived.RangeFuncCalls
import Derived.RangeFuncLeaves
import Derived.Shelf.Abstract
import Derived.Shelf.RegionOpen
import Derived.WalkKit
import Derived.OwnWalkIn
import Derived.TacticsInMore
import Derived.LoopNIn
import Derived.LoopIn

/- Plain facts on the lines of a text. Conditions: none beyond each lemma's own premises. -/
namespace Go.Proofs.YtogcpoaclkomjaaDoor
open Go.RowKit

/-- The lines of a text, or its length where the last one is not ended. -/
def linesV (t : ByteArray) : List ByteArray × Nat × Int := if pbeg 10 t t.size = t.size then ((pdone 10 t t.size).map (·.2), 0, 0) else ([], t.size, 8)

theorem lines_good {t : ByteArray} (h : pbeg 10 t t.size = t.size) : linesV t = ((pdone 10 t t.size).map (·.2), 0, 0) := by unfold linesV; rw [if_pos h]
theorem lines_bad {t : ByteArray} (h : pbeg 10 t t.size ≠ t.size) : linesV t = ([], t.size, 8) := by unfold linesV; rw [if_neg h]

theorem lines_len (t : ByteArray) : (linesV t).1.length ≤ t.size := by
  have := pdone_len 10 t t.size
  unfold linesV
  split
  · simpa using this
  · simp

/-- A line with the byte that ends it. -/
def ended (t : ByteArray) (s : Wd) : ByteArray := t.extract s.1 (s.1 + s.2.size + 1)

/-- Behind the next line. -/
theorem line_next {t : ByteArray} {p q : Nat} (hq : q < t.size) (hpq : p ≤ q) (hp : pbeg 10 t p = p) (h10 : bt t q = 10) (hn : ∀ j, p ≤ j → j < q → bt t j ≠ 10) :
    pbeg 10 t (q + 1) = q + 1 ∧ pdone 10 t (q + 1) = pdone 10 t p ++ [(p, t.extract p q)] ∧ ended t (p, t.extract p q) = t.extract p (q + 1) := by
  have hs := piece_skip (c := 10) (t := t) (i := p) (d := q - p) (fun j h1 h2 => hn j h1 (by omega))
  have e : p + (q - p) = q := by omega
  rw [e, hp] at hs
  refine ⟨pbeg_hit h10, ?_, ?_⟩
  · rw [pdone_hit h10, hs.1, hs.2]
  · have hz : (t.extract p q).size = q - p := by rw [ByteArray.size_extract]; omega
    unfold ended
    simp only [hz]
    congr 1
    omega

/-- Where the next byte 10 is: there is one, if the text's last line is ended. -/
theorem next_end {t : ByteArray} {p : Nat} (hp : p < t.size) (hb : pbeg 10 t p = p) (he : pbeg 10 t t.size = t.size) : ∃ q, q < t.size ∧ p ≤ q ∧ bt t q = 10 ∧ ∀ j, p ≤ j → j < q → bt t j ≠ 10 := by
  have hl : bt t (t.size - 1) = 10 := by
    rcases (pbeg_here 10 t t.size).1 he with h | h
    · omega
    · exact h
  have key : ∀ d q, q = p + d → q < t.size → bt t q = 10 → ∃ q, q < t.size ∧ p ≤ q ∧ bt t q = 10 ∧ ∀ j, p ≤ j → j < q → bt t j ≠ 10 := by
    intro d
    induction d using Nat.strongRecOn with
    | _ d ih =>
      intro q hq h1 h2
      by_cases hx : ∃ j, p ≤ j ∧ j < q ∧ bt t j = 10
      · obtain ⟨j, j1, j2, j3⟩ := hx
        exact ih (j - p) (by omega) j (by omega) (by omega) j3
      · exact ⟨q, h1, by omega, h2, fun j j1 j2 j3 => hx ⟨j, j1, j2, j3⟩⟩
  exact key (t.size - 1 - p) (t.size - 1) (by omega) (by omega) hl

theorem ext_all (t : ByteArray) (p : Nat) {j : Nat} (hj : j < t.size - p) : (t.extract p t.size).data.toList[j]? = t.data.toList[p + j]? := by
  rw [ext_list, List.getElem?_drop, List.getElem?_take_of_lt (by omega)]

/-- The place of the first byte 10 of what is left. -/
theorem index_next {t : ByteArray} {p q : Nat} (hq : q < t.size) (hpq : p ≤ q) (h10 : bt t q = 10) (hn : ∀ j, p ≤ j → j < q → bt t j ≠ 10) : Lib.indexByte (t.extract p t.size).data.toList 10 = ((q - p : Nat) : Int) := by
  have hge := Lib.indexByte_ge (t.extract p t.size).data.toList 10
  have hat : (t.extract p t.size).data.toList[q - p]? = some 10 := by
    rw [ext_all t p (by omega), show p + (q - p) = q by omega]
    exact (bt_is hq).2 h10
  by_cases h1 : Lib.indexByte (t.extract p t.size).data.toList 10 = -1
  · exact absurd hat (Lib.indexByte_none h1 (q - p))
  · obtain ⟨o, ho⟩ : ∃ o : Nat, Lib.indexByte (t.extract p t.size).data.toList 10 = o := ⟨(Lib.indexByte (t.extract p t.size).data.toList 10).toNat, by omega⟩
    obtain ⟨h2, h3⟩ := Lib.indexByte_some ho
    rw [ho]
    rcases Nat.lt_trichotomy o (q - p) with h | h | h
    · exfalso
      rw [ext_all t p (by omega)] at h2
      exact hn (p + o) (by omega) (by omega) ((bt_is (by omega)).1 h2)
    · rw [h]
    · exact absurd hat (h3 (q - p) h)

theorem ext_head {t : ByteArray} {p q : Nat} (hpq : p ≤ q) : (t.extract p t.size).extract 0 (q - p + 1) = t.extract p (q + 1) := by
  apply ba_ext
  have e : List.take t.size t.data.toList = t.data.toList := List.take_of_length_le (Nat.le_of_eq (size_list t))
  rw [ext_list, ext_list, ext_list, List.drop_zero, e, List.take_drop]
  congr 2
  omega

theorem ext_tail {t : ByteArray} {p q : Nat} (hpq : p ≤ q) : (t.extract p t.size).extract (q - p + 1) (t.extract p t.size).size = t.extract (q + 1) t.size := by
  apply ba_ext
  rw [ext_list, List.take_of_length_le (Nat.le_of_eq (size_list _)), ext_list, ext_list, List.drop_drop]
  congr 1
  omega

/-- Whether the text ends with a byte 10. -/
theorem suffix_is {t : ByteArray} (h : t.size ≠ 0) : Lib.hasSuffix t.data.toList [10] = decide (pbeg 10 t t.size = t.size) := by
  have hl : t.data.toList ≠ [] := fun e => h (by rw [← size_list, e]; rfl)
  have key : Lib.hasSuffix t.data.toList [10] = true ↔ pbeg 10 t t.size = t.size := by
    rw [pbeg_here]
    unfold Lib.hasSuffix
    rw [List.isSuffixOf_iff_suffix]
    have hlt : t.size - 1 < t.size := by omega
    rw [show bt t (t.size - 1) = 10 ↔ t.data.toList[t.size - 1]? = some 10 from (bt_is hlt (c := 10)).symm]
    constructor
    · rintro ⟨r, hr⟩
      right
      have hz : r.length + 1 = t.size := by rw [← size_list, ← hr]; simp
      rw [← hr, show t.size - 1 = r.length by omega]
      simp
    · rintro (h0 | h0)
      · exact absurd h0 h
      · have hz : t.data.toList.length = t.size := size_list t
        refine ⟨t.data.toList.dropLast, ?_⟩
        have := List.dropLast_concat_getLast hl
        rw [List.getLast_eq_getElem] at this
        have e : t.data.toList[t.data.toList.length - 1]'(by omega) = 10 := by
          have h1 := h0
          rw [List.getElem?_eq_getElem (by omega)] at h1
          exact Option.some.inj (by simpa only [hz] using h1)
        rw [e] at this
        exact this
  by_cases hc : pbeg 10 t t.size = t.size
  · rw [key.2 hc, decide_eq_true hc]
  · rw [decide_eq_false hc]
    exact Bool.eq_false_iff.2 (fun h => hc (key.1 h))

end Go.Proofs.YtogcpoaclkomjaaDoor

/- What the library's iterator over lines does at this program: it hands each line on, with the byte that ends it. Conditions: the text has at most a million bytes, and its last line is ended. -/
namespace Go.Proofs.YtogcpoaclkomjaaDoor
open Go.RowKit Go.Shelf

/-- How many bytes are left in the iterator's variable. -/
def leftIn (B : Nat) (W : World) : Nat := match W.cell? ⟨B, 0, none⟩ with
  | some (.string r) => r.size
  | _ => 0

theorem leftIn_eq {B : Nat} {W : World} {r : ByteArray} (h : W.cell? ⟨B, 0, none⟩ = some (.string r)) : leftIn B W = r.size := by
  unfold leftIn
  rw [h]

set_option maxRecDepth 100000 in
set_option maxHeartbeats 2000000 in
theorem iter_in (n : Nat) (hn : 1 ≤ n) (l B : Nat) (s : ByteArray) (hs : s.size ≤ 1000000) (he : pbeg 10 s s.size = s.size) (J : List ByteArray → World → Prop)
    (hY : ∀ pre x W, J pre W → 1 ≤ x.size → x.size ≤ 1000000 → pre.length < 1000000 → YieldAt Fence.wide (n - 1) Tryd.prog l #[.string x] W fun e W' => e = .returned (.bool true) ∧ J (pre ++ [x]) W' ∧ W'.heap[B]? = W.heap[B]?)
    (hset : ∀ pre W u, J pre W → J pre (W.setCell ⟨B, 0, none⟩ u)) (hdrew : ∀ pre W, J pre W → J pre W.drew)
    (W : World) (hB : Boxed W B 9 (.string s)) (h0 : J [] W) :
    CallsIn Fence.wide n Tryd.prog 62 #[.func (.yield l) #[] #[], .pointer (some ⟨B, 0, none⟩)] W fun e W' => (∃ v, e = .returned v) ∧ J ((pdone 10 s s.size).map (ended s)) W' := by
  have HE := Lib.hid he
  clear he
  have hx0 : s.extract 0 s.size = s := ba_ext (by rw [ext_list, List.take_of_length_le (Nat.le_of_eq (size_list s))]; rfl)
  have HX0 := Lib.hid hx0
  clear hx0
  refine callsIn_of_wp Tryd.func62 rfl trivial ?_ rfl
  simp only [Tryd.ntmps62, List.size_toArray, List.length_cons, List.length_nil, Nat.reduceAdd, Nat.reduceSub, Array.replicate_succ, Array.replicate_zero, List.push_toArray, List.append_toArray, List.nil_append, List.cons_append]
  gi_wp2
  gi_loopw [3] (fun _ wr => ∃ p : Nat, p ≤ s.size ∧ Hid (pbeg 10 s p = p) ∧ Hid (Boxed wr B 9 (.string (s.extract p s.size))) ∧ Hid (J ((pdone 10 s p).map (ended s)) wr))
    (fun _ wr => leftIn B wr)
  case atStart => exact ⟨0, Nat.zero_le _, Lib.hid rfl, Lib.hid (by rw [HX0.out]; exact hB), Lib.hid h0⟩
  case round =>
    obtain ⟨p, hp, HP, HB, HJ⟩ := hrel
    have hc := HB.out.cell
    have hf := HB.out.frozen
    have hsz : (s.extract p s.size).size = s.size - p := by rw [ByteArray.size_extract]; omega
    by_cases hlt : p < s.size
    · obtain ⟨q, hq, hpq, h10, hno⟩ := next_end hlt HP.out HE.out
      have HI := Lib.hid (index_next hq hpq h10 hno)
      have HN := Lib.hid (line_next hq hpq HP.out h10 hno)
      have hl0 := pdone_len 10 s p
      have e1 := ext_head (t := s) hpq
      have e2 := ext_tail (t := s) hpq
      have HXS : Hid (1 ≤ (s.extract p (q + 1)).size ∧ (s.extract p (q + 1)).size ≤ 1000000) := Lib.hid (by rw [ByteArray.size_extract]; omega)
      obtain ⟨r, hr⟩ : ∃ r, s.extract p s.size = r := ⟨_, rfl⟩
      obtain ⟨j, hj⟩ : ∃ j, q - p = j := ⟨_, rfl⟩
      rw [hr, hj] at e1 e2
      rw [hr] at hsz hc
      have K := fun W => index_any r 10 W
      rw [← hr, show ((10 : Int).toNat.toUInt8) = 10 from rfl, HI.out, hr, hj] at K
      have hjr : j < r.size := by omega
      have j0 : (0 : Int) < (r.size : Int) := by omega
      have j1 : (j : Int) + 1 ≤ (r.size : Int) := by omega
      have j2 : (0 : Int) ≤ (j : Int) := by omega
      have j3 : ((j : Int) + 1).toNat = j + 1 := by omega
      have j4 : j + 1 ≤ r.size := by omega
      have hrs : r.size ≤ 1000000 := by omega
      have HR := Lib.hid hr
      have HJQ := Lib.hid hj
      generalize hx : s.extract p (q + 1) = x at e1 HXS
      generalize hrest : s.extract (q + 1) s.size = rest at e2
      have HX := Lib.hid hx
      have HREST := Lib.hid hrest
      clear hr hj hx hrest h10 hno
      have r1 : ∀ W : World, (Instr.slice 9 (.string r) none (some (.int .i64 ((j : Int) + 1))) none).run Tryd.prog W = .ok (.string x) W := fun W => by
        have h := run_slice_string_h W _ r Tryd.underlying9 .i64 ((j : Int) + 1) (by omega) j1
        rw [j3, e1] at h
        exact h
      have r2 : ∀ W : World, (Instr.slice 9 (.string r) (some (.int .i64 ((j : Int) + 1))) none none).run Tryd.prog W = .ok (.string rest) W := fun W => by
        have h := run_slice_string_l W 9 r Tryd.underlying9 .i64 ((j : Int) + 1) (by omega) j1
        rw [j3, e2] at h
        exact h
      clear e1 e2
      have hpl : ((pdone 10 s p).map (ended s)).length < 1000000 := by rw [List.length_map]; omega
      obtain ⟨fn, tmps, assign, body, hy, hR⟩ := hY _ x ((wr.setCell ⟨B, 0, none⟩ (.string rest)).drew) (hdrew _ _ (hset _ _ (.string rest) HJ.out)) HXS.out.1 HXS.out.2 hpl
      have HYR := Lib.hid hR
      clear hR hpl
      gi_wp2_with (refine ⟨trivial, ?_⟩; gi_at_call 56; refine (callsIn_wide.2 (K _)).mono ?_; rintro e w2 ⟨rfl, hw2⟩; obtain rfl := hw2.symm)
      gi_region
      gi_wp2
      refine HYR.out.mono ?_
      rintro e W3 ⟨rfl, hJ3, hB3⟩
      have HB3 : Hid (Boxed W3 B 9 (.string rest)) := Lib.hid (by
        have h := HB.out.set (.string rest)
        exact hB3.trans h)
      have hm3 := leftIn_eq HB3.out.cell
      have HJ3 := Lib.hid hJ3
      clear hJ3 hB3 hy
      gi_wp2
      go_roundw
      case rel => exact ⟨q + 1, by omega, Lib.hid HN.out.1, Lib.hid (by rw [HREST.out]; exact HB3.out), Lib.hid (by
        have h := HJ3.out
        rw [HN.out.2.1, List.map_append, List.map_singleton, HN.out.2.2, HX.out]
        exact h)⟩
      case measure =>
        rw [leftIn_eq hc, hm3, ← HREST.out, ByteArray.size_extract]
        omega
    · obtain rfl : p = s.size := by omega
      have hz0 : ((s.extract s.size s.size).size : Int) = 0 := by rw [hsz]; simp
      gi_wp2
      go_end0
      exact ⟨⟨_, rfl⟩, HJ.out⟩

end Go.Proofs.YtogcpoaclkomjaaDoor

/- A law for a range over a function whose iterator keeps what is left in a variable of its own, ahead of the loop, and whose body always goes on; for texts. Conditions: as the theorem says. -/
namespace Go.Proofs.YtogcpoaclkomjaaDoor
open Go.RowKit Go.Shelf

/-- How a round's body is left: it goes on. -/
def goesOn (D B : Nat) (I : List ByteArray → World → Prop) (xs : List ByteArray) (W : World) : Exit → Act → World → Prop
  | .normal, _, W' => KeepsFrom D W W' ∧ W'.heap[B]? = W.heap[B]? ∧ I xs W'
  | _, _, _ => False

theorem range_text {n : Nat} {P : Program} {g : Operand} {ps : Array Tmp} {assign body : Code} {Q : Exit → Act → World → Prop} {a : Act} {w : World} (h1 : 1 ≤ n) {gf : Nat} {lb : Array Value} (hg : a.eval g = .func (.func gf) #[] lb)
    (eg : ∀ args w, (callFunc gf args).run P w = .ok (.enter gf args) w) (B : Nat) (hBw : B < w.heap.size) (T : TypeId) (s : ByteArray) (hps : ps.size = 1) (S : List ByteArray)
    (hseq : ∀ (l : Nat) (J : List ByteArray → World → Prop)
      (_ : ∀ pre x W, J pre W → 1 ≤ x.size → x.size ≤ 1000000 → pre.length < 1000000 → YieldAt Fence.wide (n - 1 - 1) P l #[.string x] W fun e W' => e = .returned (.bool true) ∧ J (pre ++ [x]) W' ∧ W'.heap[B]? = W.heap[B]?)
      (_ : ∀ pre W u, J pre W → J pre (W.setCell ⟨B, 0, none⟩ u)) (_ : ∀ pre W, J pre W → J pre W.drew)
      (W : World) (_ : Boxed W B T (.string s)) (_ : J [] W), CallsIn Fence.wide (n - 1) P gf (#[.func (.yield l) #[] #[]] ++ lb) W fun e W' => (∃ v, e = .returned v) ∧ J S W')
    (hB : Boxed w B T (.string s)) (I : List ByteArray → World → Prop) (hI : OwnFrom w.heap.size I) (hset : ∀ pre W u, I pre W → I pre (W.setCell ⟨B, 0, none⟩ u)) (hdrew : ∀ pre W, I pre W → I pre W.drew) (h0 : I [] w) (a₁ : ByteArray → Act)
    (hassign : ∀ (l : Nat) (x : ByteArray) (W : World) (K : Act → World → Prop), K (a₁ x) W →
      assign.wpIn (Fence.wide.inRound l) (n - 1 - 1) P (Exit.then K (fun _ _ _ => False)) { tmps := (ps.zip #[.string x]).foldl (fun t (p, v) => t.setIfInBounds p v) a.tmps, defers := [] } W)
    (hbody : ∀ (l : Nat) (pre : List ByteArray) (x : ByteArray) (W : World), I pre W → 1 ≤ x.size → x.size ≤ 1000000 → pre.length < 1000000 → body.wpIn (Fence.wide.inRound l) (n - 1 - 1) P (goesOn w.heap.size B I (pre ++ [x]) W) (a₁ x) W)
    (hdone : ∀ (D : Nat) (W : World), w.heap.size ≤ D → I S W → W.heap[D]? = some (.deferred (some [])) → Q .normal { a with defers := { target := .collected D, args := #[] } :: a.defers } W) :
    (Code.rangeFunc g ps assign body).wpIn Fence.wide n P Q a w := by
  refine wpIn_rangeFunc fun fn _ => ?_
  obtain ⟨rec, hrec⟩ : ∃ rec : LoopState → Loop, rec = fun st => { state := st, pending := none, fn, tmps := a.tmps, params := ps, assign, body, defers := w.heap.size } := ⟨_, rfl⟩
  obtain ⟨W1, hW1⟩ : ∃ W1, (w.alloc (.deferred (some []))).alloc (.loop (rec .ready)) = W1 := ⟨_, rfl⟩
  have hsz : W1.heap.size = w.heap.size + 2 := by rw [← hW1]; simp
  have hL1 : W1.heap[w.heap.size + 1]? = some (.loop (rec .ready)) := by
    rw [← hW1]
    have := World.alloc_heap_new (w.alloc (.deferred (some []))) (.loop (rec .ready))
    rwa [World.size_alloc] at this
  have hK1 : W1.heap[w.heap.size]? = some (.deferred (some [])) := by
    rw [← hW1]
    exact (Below.heap_alloc _ _ _ (by simp)).trans (World.alloc_heap_new w _)
  have hI1 : I [] W1 := by rw [← hW1]; exact hI.alloc _ (hI.alloc _ h0)
  have hB1 : Boxed W1 B T (.string s) := by rw [← hW1]; exact (hB.alloc _).alloc _
  refine ⟨w.heap.size + 1, [{ target := .collected w.heap.size, args := #[] }], W1, { target := .fn (.func gf) lb, args := #[.func (.yield (w.heap.size + 1)) #[] #[]] }, W1, gf,
    #[.func (.yield (w.heap.size + 1)) #[] #[]] ++ lb, W1, ?_, ?_, fun _ _ => trivial, ?_, fun _ => h1, ?_⟩
  · rw [← hW1, hrec]
    exact run_enterLoop_outer _ _ _ _ _
  · simp only [resolve, hg]
    simp [go_sem]
  · simp [invoke, go_sem, eg]
  · refine (hseq (w.heap.size + 1) (fun pre W => I pre W ∧ W.heap[w.heap.size + 1]? = some (.loop (rec .ready)) ∧ W.heap[w.heap.size]? = some (.deferred (some []))) ?_ ?_ ?_ W1 hB1 ⟨hI1, hL1, hK1⟩).mono ?_
    · rintro pre x W ⟨hi, hl, hk⟩ x1 x2 x3
      have hlt : w.heap.size + 1 < W.heap.size := (Array.getElem?_eq_some_iff.1 hl).1
      have hy := run_yield (P := P) (args := #[.string x]) hl (by rw [hrec]; exact hps.symm)
      rw [hrec] at hy
      refine ⟨fn, _, assign, body, hy, roundIn_of_wpIn trivial (hassign _ x W _ ⟨_, run_beginRound hl (by rw [hrec]), ?_⟩)⟩
      have hl2 : (W.putObj (w.heap.size + 1) (.loop { rec .ready with state := .busy })).heap[w.heap.size + 1]? = some (.loop { rec .ready with state := .busy }) := World.putObj_heap_same hlt
      have hk2 : (W.putObj (w.heap.size + 1) (.loop { rec .ready with state := .busy })).heap[w.heap.size]? = some (.deferred (some [])) := (World.putObj_heap_other (by omega)).trans hk
      have hb2 : (W.putObj (w.heap.size + 1) (.loop { rec .ready with state := .busy })).heap[B]? = W.heap[B]? := World.putObj_heap_other (by omega)
      refine wpIn_mono (hbody _ pre x _ (hI.putObj _ hi (by omega) hl rfl) x1 x2 x3) ?_
      rintro e a3 W3 hp
      cases e with
      | normal =>
        obtain ⟨hk3, hb3, hi3⟩ := hp
        have hl3 := hk3.same _ _ (by omega) hl2 rfl
        have hr := run_endRound (P := P) none hl3
        have hlt3 := (Array.getElem?_eq_some_iff.1 hl3).1
        rw [hrec] at hr
        refine ⟨_, _, hr, rfl, ⟨hI.putObj _ hi3 (by omega) hl3 rfl, ?_, ?_⟩, ?_⟩
        · rw [hrec]
          exact World.putObj_heap_same hlt3
        · exact (World.putObj_heap_other (by omega)).trans (hk3.same _ _ (Nat.le_refl _) hk2 rfl)
        · exact (World.putObj_heap_other (by omega)).trans (hb3.trans hb2)
      | ret => exact hp.elim
      | exit id => exact hp.elim
      | goto t => exact hp.elim
      | panic ch => exact hp.elim
      | outgrown => exact hp.elim
    · rintro pre W u ⟨hi, hl, hk⟩
      exact ⟨hset _ _ _ hi, by rw [Below.heap_setCell _ _ _ _ (by show w.heap.size + 1 ≠ B; omega)]; exact hl, by rw [Below.heap_setCell _ _ _ _ (by show w.heap.size ≠ B; omega)]; exact hk⟩
    · rintro pre W ⟨hi, hl, hk⟩
      exact ⟨hdrew _ _ hi, hl, hk⟩
    · rintro e W2 ⟨⟨v, rfl⟩, hi, hl, hk⟩
      have hr := run_endLoop (P := P) hl (by rw [hrec]; simp)
      rw [hrec] at hr
      exact ⟨none, _, hr, hdone _ _ (Nat.le_refl _) (hI.putObj _ hi (by omega) hl rfl) ((World.putObj_heap_other (by omega)).trans hk)⟩

end Go.Proofs.YtogcpoaclkomjaaDoor
