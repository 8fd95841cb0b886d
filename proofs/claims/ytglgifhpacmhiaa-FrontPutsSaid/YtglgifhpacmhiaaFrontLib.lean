/- The library ContainsFunc, IndexFunc, DeleteFunc and Clone of meters. Conditions: as the theorems say. -/
import Derived.Test.YtglgifhpacmhiaaRows
import Derived.Test.YtglgifhpacmhiaaBase
import Derived.Test.YtglgifhpacmhiaaRow
import Derived.Test.YtglgifhpacmhiaaBookRow
import Derived.Test.YtglgifhpacmhiaaRecMath
import Derived.Test.YtglgifhpacmhiaaBox
import Derived.Test.YtglgifhpacmhiaaBoxRes
import Derived.Test.YtglgifhpacmhiaaChg
import Derived.Test.YtglgifhpacmhiaaMeterMath
import Derived.Test.YtglgifhpacmhiaaWide
import Derived.Test.YtglgifhpacmhiaaFrontHeap
import Derived.Test.YtglgifhpacmhiaaShelf
import Derived.Shelf.SlicesQ.IndexFunc
import Derived.Great.BuildSlice
import Derived.WalkKit
import Derived.WalkSpells
import Derived.WalkSmall
import Derived.Below
import Derived.Lib.Hide
import Derived.OwnWalk
import Derived.Outline
import Derived.Deep.LoopGhost
namespace Go.Proofs.Ytglgifhpacmhiaa
open Go.RowKit

theorem info_mtr : (Try.prog.info? 36).map (fun i => (i.zero, i.size, i.bytes)) = some (some (.agg (mt .zero)), 14, 112) := by kernel_rfl
theorem size_mtr : (Try.prog.info? mtW.T).map (·.size) = some mtW.n := by kernel_rfl
theorem zero_mtr (w : World) : (zeroValue mtW.T).run Try.prog w = .ok (.agg (mt .zero)) w := by kernel_rfl
theorem info_adr : (Try.prog.info? 42).map (fun i => (i.zero, i.size, i.bytes)) = some (some (.agg (ad (rz, .zero))), 17, 136) := by kernel_rfl
theorem size_adr : (Try.prog.info? adW.T).map (·.size) = some adW.n := by kernel_rfl

/-! ### A slice literal of one -/

theorem run_one {α : Type} {k : Wd α} {z : Value} {by_ : Nat} {Ts : TypeId} (w : World) (hu : Try.prog.underlying Ts = some (.slice k.T)) (hi : (Try.prog.info? k.T).map (fun i => (i.zero, i.size, i.bytes)) = some (some z, k.n, by_)) (hn : k.n ≤ 100) (x : α)
    (hf : Instr.fill (fun i => some (i * k.n, k.n)) ((Array.range (1 * k.n)).map (z.cells[· % z.cells.size]!)) [(0, .agg (k.enc x).toArray)] = some (k.enc x).toArray) :
    (Instr.buildSlice Ts 1 #[(0, .agg (k.enc x).toArray)]).run Try.prog w = .ok (.slice (some ⟨w.heap.size, 0, none⟩) 1 1) (w.alloc (.cells (k.enc x).toArray k.T)) := by
  obtain ⟨i1, hj, hy0, hy1, hy2⟩ := info_parts hi
  have hp := k.pos
  exact run_buildSlice w Ts k.T 1 _ _ i1 z hu hj hy0 (by rw [hy1]; omega) (by rw [hy1]; omega) (by rw [hy1]; exact hf)

theorem fill_mt (m : Mt) : Instr.fill (fun i => some (i * mtW.n, mtW.n)) ((Array.range (1 * mtW.n)).map ((Value.agg (mt .zero)).cells[· % (Value.agg (mt .zero)).cells.size]!)) [(0, .agg (mtW.enc m).toArray)] = some (mtW.enc m).toArray := by kernel_rfl
theorem fill_ad (a : Ad) : Instr.fill (fun i => some (i * adW.n, adW.n)) ((Array.range (1 * adW.n)).map ((Value.agg (ad (rz, .zero))).cells[· % (Value.agg (ad (rz, .zero))).cells.size]!)) [(0, .agg (adW.enc a).toArray)] = some (adW.enc a).toArray := by kernel_rfl

theorem wp_one {α : Type} {k : Wd α} {z : Value} {by_ : Nat} {o : Oper} {a : Act} {w : World} {K : Act → World → Prop} {Q : Exit → Act → World → Prop} (Ts : TypeId) (hu : Try.prog.underlying Ts = some (.slice k.T)) (hi : (Try.prog.info? k.T).map (fun i => (i.zero, i.size, i.bytes)) = some (some z, k.n, by_)) (hn : k.n ≤ 100) (x : α)
    (hf : Instr.fill (fun i => some (i * k.n, k.n)) ((Array.range (1 * k.n)).map (z.cells[· % z.cells.size]!)) [(0, .agg (k.enc x).toArray)] = some (k.enc x).toArray) (p : Operand) (ho : o.op = .buildSlice Ts 1 #[(0, p)]) (hp : a.eval p = .agg (k.enc x).toArray)
    (h : K (a.put o.dst (.slice (some ⟨w.heap.size, 0, none⟩) 1 1)) (w.alloc (.cells (k.enc x).toArray k.T))) : o.wp Try.prog a w K Q := by
  unfold Oper.wp execOp
  simp only [ho, List.map_toArray, List.map_cons, List.map_nil, hp, Sem.run_bind, run_one w hu hi hn x hf, Result.andThen_ok]
  exact h
theorem wpList_one {α : Type} {k : Wd α} {z : Value} {by_ : Nat} {ops : Array Oper} {rest : List Oper} {o : Oper} {a : Act} {w : World} {Q : Exit → Act → World → Prop} (hgd : Region.wanted o (yielded ops a.tmps) = true) (Ts : TypeId) (hu : Try.prog.underlying Ts = some (.slice k.T)) (hi : (Try.prog.info? k.T).map (fun i => (i.zero, i.size, i.bytes)) = some (some z, k.n, by_)) (hn : k.n ≤ 100) (x : α)
    (hf : Instr.fill (fun i => some (i * k.n, k.n)) ((Array.range (1 * k.n)).map (z.cells[· % z.cells.size]!)) [(0, .agg (k.enc x).toArray)] = some (k.enc x).toArray) (p : Operand) (ho : o.op = .buildSlice Ts 1 #[(0, p)]) (hp : a.eval p = .agg (k.enc x).toArray)
    (h : wpList Try.prog ops Q rest (a.put o.dst (.slice (some ⟨w.heap.size, 0, none⟩) 1 1)) (w.alloc (.cells (k.enc x).toArray k.T))) : wpList Try.prog ops Q (o :: rest) a w :=
  wpList_step fun K hK => by
    rw [if_pos hgd]
    exact wp_one Ts hu hi hn x hf p ho hp (hK _ _ h)

/-! ### ContainsFunc, IndexFunc -/

theorem indexm_nil (c : Nat) (fv : Value) (w : World) :
    Calls Try.prog 38 #[.slice none 0 c, fv] w fun e w' => e = .returned (.int .i64 (-1)) ∧ w' = w := by
  go_enter Try.func38, Try.ntmps38
  go_wp2
  refine wp_loop_rounds 1 ?_
  rw [rounds_succ]
  go_wp2
  go_ret
  exact ⟨rfl, rfl⟩

theorem containsm_nil (c : Nat) (fv : Value) (w : World) :
    Calls Try.prog 36 #[.slice none 0 c, fv] w fun e w' => e = .returned (.bool false) ∧ Below w.heap.size w w' := by
  go_enter Try.func36, Try.ntmps36
  go_wp2_with (go_at_call 38; refine (indexm_nil _ _ _).mono ?_; rintro e w' ⟨rfl, rfl⟩)
  go_ret
  exact ⟨rfl, Below.refl _ _⟩

theorem rd_cells {w : World} {b off : Nat} {l : List Mt} (hr : RdG mtW w (some ⟨b, off, none⟩) l) : ∀ j, j < l.length → ∀ i v, (mtW.enc l[j]!)[i]? = some v → w.cell? ⟨b, off + j * 14 + i, none⟩ = some v := by
  intro j hj i v hi
  obtain ⟨b', off', hA, _, hc⟩ := hr (nonnil hj)
  simp only [Option.some.injEq, Addr.mk.injEq, and_true] at hA
  obtain ⟨rfl, rfl⟩ := hA
  exact hc j l[j]! (by rw [getElem!_pos l j hj]; exact List.getElem?_eq_getElem hj) i v hi

theorem containsm_of (g : Nat) (lb : Array Value) (p : Mt → Bool) (eg : ∀ args w, (callFunc g args).run Try.prog w = .ok (.enter g args) w) (b n c : Nat) (l : List Mt) (w : World) (hn : l.length = n) (hl : n ≤ 4611686018427387904) (hb : b < w.heap.size)
    (hr : RdG mtW w (some ⟨b, 0, none⟩) l) (hp : PredBelow Try.prog g lb (fun m => .agg (mtW.enc m).toArray) p w) :
    Calls Try.prog 36 #[.slice (some ⟨b, 0, none⟩) n c, .func (.func g) #[] lb] w fun e w' => e = .returned (.bool (l.any p)) ∧ Below w.heap.size w w' := by
  subst hn
  have hcon := AnyQ.slices_ContainsFunc hasFL 14 Try.isAgg36 Try.sizeOf36 mtW.enc (fun _ => rfl) p g lb eg b 0 l.length c l w hp (Nat.le_refl _) (by omega) hb (rd_cells hr)
  rw [List.take_of_length_le (Nat.le_refl _)] at hcon
  exact hcon

theorem idx_is (p : Mt → Bool) : ∀ (l : List Mt) (i : Nat), (Lib.idxByFrom (fun _ y => p y) default l i = -1 ∧ ∀ u ∈ l, p u = false) ∨ ∃ k, k < l.length ∧ Lib.idxByFrom (fun _ y => p y) default l i = ((i + k : Nat) : Int) ∧ (∃ u, l[k]? = some u ∧ p u = true) ∧ ∀ u ∈ l.take k, p u = false
  | [], i => .inl ⟨rfl, fun _ h => by cases h⟩
  | y :: l, i => by
    cases h : p y with
    | true => exact .inr ⟨0, by simp, by simp [Lib.idxByFrom, h], ⟨y, rfl, h⟩, fun _ h => by simp at h⟩
    | false =>
      rcases idx_is p l (i + 1) with ⟨e, ha⟩ | ⟨k, hk, e, ⟨u, hu, hp⟩, ha⟩
      · refine .inl ⟨by simp [Lib.idxByFrom, h, e], fun u hu => ?_⟩
        rcases List.mem_cons.1 hu with rfl | hu
        · exact h
        · exact ha u hu
      · refine .inr ⟨k + 1, by simpa using hk, ?_, ⟨u, by simpa using hu, hp⟩, fun u hu => ?_⟩
        · simp only [Lib.idxByFrom, h, Bool.false_eq_true, if_false, e]
          congr 1
          omega
        · rw [List.take_succ_cons] at hu
          rcases List.mem_cons.1 hu with rfl | hu
          · exact h
          · exact ha u hu

theorem indexm_of (g : Nat) (lb : Array Value) (p : Mt → Bool) (eg : ∀ args w, (callFunc g args).run Try.prog w = .ok (.enter g args) w) (b n c : Nat) (l : List Mt) (w : World) (hn : l.length = n) (hl : n ≤ 4611686018427387904) (hb : b < w.heap.size)
    (hr : RdG mtW w (some ⟨b, 0, none⟩) l) (hp : PredBelow Try.prog g lb (fun m => .agg (mtW.enc m).toArray) p w) :
    Calls Try.prog 38 #[.slice (some ⟨b, 0, none⟩) n c, .func (.func g) #[] lb] w fun e w' => e = .returned (.int .i64 (Lib.idxByFrom (fun _ y => p y) default l 0)) ∧ Below w.heap.size w w' := by
  subst hn
  have hcon := AnyQ.slices_IndexFunc { hasFL with } 14 Try.isAgg36 Try.sizeOf36 mtW.enc (fun _ => rfl) p g lb eg b 0 l.length c l w hp (Nat.le_refl _) (by omega) hb (rd_cells hr)
  rw [List.take_of_length_le (Nat.le_refl _)] at hcon
  exact hcon

/-! ### DeleteFunc -/

/-- Behind j elements of l, of which i stay, the row is d. -/
structure DelI (p : Mt → Bool) (l : List Mt) (j i : Nat) (d : List Mt) : Prop where
  len : d.length = l.length
  cnt : i = ((l.take j).filter fun u => !p u).length
  head : d.take i = (l.take j).filter fun u => !p u
  tail : d.drop j = l.drop j
  le : i < j
  lej : j ≤ l.length

theorem DelI.start {p : Mt → Bool} {l : List Mt} {k : Nat} (hk : k < l.length) (hu : ∃ u, l[k]? = some u ∧ p u = true) (ha : ∀ u ∈ l.take k, p u = false) : DelI p l (k + 1) k l := by
  obtain ⟨u, hu, hp⟩ := hu
  have e : ((l.take (k + 1)).filter fun u => !p u) = l.take k := by
    rw [List.take_add_one, hu, List.filter_append, List.filter_eq_self.2 (fun u hu => by rw [ha u hu]; rfl)]
    simp [hp]
  refine ⟨rfl, ?_, e.symm, rfl, by omega, hk⟩
  rw [e, List.length_take]
  omega
theorem DelI.get {p : Mt → Bool} {l : List Mt} {j i : Nat} {d : List Mt} (h : DelI p l j i d) : d[j]? = l[j]? := by
  have := congrArg (fun l => l[0]?) h.tail
  simpa using this
theorem DelI.skip {p : Mt → Bool} {l : List Mt} {j i : Nat} {d : List Mt} {u : Mt} (h : DelI p l j i d) (hu : l[j]? = some u) (hp : p u = true) : DelI p l (j + 1) i d := by
  have hj := (List.getElem?_eq_some_iff.1 hu).1
  have e : ((l.take (j + 1)).filter fun u => !p u) = (l.take j).filter fun u => !p u := by
    rw [List.take_add_one, hu, List.filter_append]
    simp [hp]
  refine ⟨h.len, by rw [e]; exact h.cnt, by rw [e]; exact h.head, ?_, by have := h.le; omega, hj⟩
  have := congrArg (fun l => l.drop 1) h.tail
  simpa [List.drop_drop] using this
theorem DelI.put {p : Mt → Bool} {l : List Mt} {j i : Nat} {d : List Mt} {u : Mt} (h : DelI p l j i d) (hu : l[j]? = some u) (hp : p u = false) : DelI p l (j + 1) (i + 1) (d.set i u) := by
  have hj := (List.getElem?_eq_some_iff.1 hu).1
  have hle := h.le
  have hlen := h.len
  have e : ((l.take (j + 1)).filter fun u => !p u) = ((l.take j).filter fun u => !p u) ++ [u] := by
    rw [List.take_add_one, hu, List.filter_append]
    simp [hp]
  refine ⟨by simpa using h.len, by rw [e, List.length_append, ← h.cnt]; rfl, ?_, ?_, by omega, hj⟩
  · rw [e, ← h.head, List.take_add_one, List.take_set_of_le (Nat.le_refl _), List.getElem?_set_self (by omega)]
    rfl
  · rw [List.drop_set_of_lt (by omega)]
    have := congrArg (fun l => l.drop 1) h.tail
    simpa [List.drop_drop] using this
theorem DelI.done {p : Mt → Bool} {l : List Mt} {i : Nat} {d : List Mt} (h : DelI p l l.length i d) : d.take i = (l.filter fun u => !p u) ∧ i = (l.filter fun u => !p u).length ∧ i < l.length := by
  have h1 := h.head
  have h2 := h.cnt
  rw [List.take_of_length_le (Nat.le_refl _)] at h1 h2
  exact ⟨h1, h2, h.le⟩

theorem deletem_nil (fv : Value) (w : World) :
    Calls Try.prog 21 #[.slice none 0 0, fv] w fun e w' => e = .returned (.slice none 0 0) ∧ w' = w := by
  go_enter Try.func21, Try.ntmps21
  go_wp2_with (go_at_call 38; refine (indexm_nil _ _ _).mono ?_; rintro e w' ⟨rfl, rfl⟩)
  go_ret
  exact ⟨rfl, rfl⟩

set_option maxRecDepth 100000 in
set_option maxHeartbeats 4000000 in
theorem deletem_of (g : Nat) (lb : Array Value) (p : Mt → Bool) (eg : ∀ args w, (callFunc g args).run Try.prog w = .ok (.enter g args) w) (base b n c : Nat) (l : List Mt) (w : World) (hn : l.length = n) (hl : n ≤ 4611686018427387904)
    (ho : OwnG mtW base w (.slice (some ⟨b, 0, none⟩) n c) l)
    (hp : ∀ W u, (∀ q, q ≠ b → q < w.heap.size → W.heap[q]? = w.heap[q]?) → w.heap.size ≤ W.heap.size → Calls Try.prog g (#[.agg (mt u)] ++ lb) W fun e w' => e = .returned (.bool (p u)) ∧ Below W.heap.size W w') :
    Calls Try.prog 21 #[.slice (some ⟨b, 0, none⟩) n c, .func (.func g) #[] lb] w fun e w' =>
      ∃ i, e = .returned (.slice (some ⟨b, 0, none⟩) i c) ∧ OwnG mtW base w' (.slice (some ⟨b, 0, none⟩) i c) (l.filter fun u => !p u) ∧ ∃ cs, Chg w b 36 cs w' := by
  obtain ⟨cur, hbase, hbx, _⟩ := ho.cur
  have hbl := hbx.lt
  have CI := indexm_of g lb p eg b n c l w hn hl hbl ho.rd (fun W u hb => (hp W u (fun q _ hq => hb.block q hq) hb.size).mono fun e w' ⟨he, hb2⟩ => ⟨he, hb.trans (hb2.mono hb.size)⟩)
  have hu : Try.prog.underlying 37 = some (.slice mtW.T) := Try.underlying37
  rcases idx_is p l 0 with ⟨e1, ha⟩ | ⟨k, hk, e1, hu1, ha⟩
  · rw [e1] at CI
    have HO := Lib.hid ho
    have HB := Lib.hid hbx
    have HF := Lib.hid (show (l.filter fun u => !p u) = l from List.filter_eq_self.2 (fun u hu => by rw [ha u hu]; rfl))
    clear ho hbx ha hp e1 hbl
    go_enter Try.func21, Try.ntmps21
    go_wp2_with (go_at_call 38; (with_reducible refine CI.mono ?_); rintro e w1 ⟨rfl, hb1⟩)
    go_ret
    refine ⟨n, rfl, ?_, cur, (Chg.refl HB.out).below hb1⟩
    rw [HF.out]
    exact HO.out.below hb1
  · rw [e1, Nat.zero_add] at CI
    have HP : Hid (∀ W u, (∀ q, q ≠ b → q < w.heap.size → W.heap[q]? = w.heap[q]?) → w.heap.size ≤ W.heap.size → Calls Try.prog g (#[.agg (mt u)] ++ lb) W fun e w' => e = .returned (.bool (p u)) ∧ Below W.heap.size W w') := Lib.hid hp
    have HO := Lib.hid ho
    have HB := Lib.hid hbx
    have HN := Lib.hid hn
    have HU := Lib.hid hu
    have HI := Lib.hid (DelI.start hk hu1 ha)
    have hkn : k < n := by omega
    have ek : ((k : Int) == -1) = false := beq_eq_false_iff_ne.2 (by omega)
    clear ho hbx ha hp e1 hu1 hk hu hn
    go_enter Try.func21, Try.ntmps21
    go_wp2_with (go_at_call 38; (with_reducible refine CI.mono ?_); rintro e w1 ⟨rfl, hb1⟩)
    have HB1 := Lib.hid hb1
    clear hb1 CI
    go_loopg [5, 6, 7] n (fun gg s5 s6 _ wr => ∃ (i j : Nat) (d : List Mt) (cs : Array Value), s5 = .int .i64 i ∧ s6 = .int .i64 j ∧ j ≤ n ∧ i ≤ j ∧ n - j ≤ gg ∧ Hid (DelI p l j i d) ∧ Hid (OwnG mtW base wr (.slice (some ⟨b, 0, none⟩) n c) d) ∧ Hid (Chg w b 36 cs wr))
    case atStart => exact ⟨k, k + 1, l, cur, rfl, by go_num, by omega, by omega, by omega, HI, Lib.hid (HO.out.below HB1.out), Lib.hid ((Chg.refl HB.out).below HB1.out)⟩
    case round =>
      obtain ⟨i, j, d, cs, rfl, rfl, hjn, hij, hgg, HD, HR, HC⟩ := hrel
      by_cases hlt : j < n
      · have hltz : (j : Int) < (n : Int) := by omega
        have hin : (i : Int) < (n : Int) := by omega
        have hjl : j < l.length := by rw [HN.out]; exact hlt
        obtain ⟨u, hu⟩ : ∃ u, l[j]? = some u := ⟨l[j], List.getElem?_eq_getElem hjl⟩
        have hdj : d[j]? = some u := by rw [HD.out.get]; exact hu
        have hrg : wr.rangeAt b (j * 14) (mt u).toList := HR.out.range hdj
        have hcall := fun W h1 h2 => HP.out W u h1 h2
        have hU := Lib.hid hu
        have hbw : b < wr.heap.size := HC.out.box.lt
        have hsz := HC.out.size
        clear hu hdj hjl
        obtain ⟨v, hv⟩ : ∃ v, p u = v := ⟨_, rfl⟩
        rw [hv] at hcall
        have HV := Lib.hid hv
        clear hv
        cases v with
        | true =>
          go_wp2_with (first
            | refine wpList_loadG (by rfl) 36 _ rfl b (j * 14) rfl (mt u) _ hrg Try.underlying36 rfl (by kernel_rfl) ?_
            | (refine wpList_store_box rfl 36 _ _ rfl wr.heap.size (mt u) rfl rfl 36 (mt .zero) (Bx.new (W := wr) 36 (mt .zero) rfl) (by kernel_rfl) rfl (mt_one _) (fun w5 u5 => ?_); have XU5 := u5.box; have XB5 := Lib.hid ((b_al (Below.refl wr.heap.size wr) (Nat.le_refl _) _).trans (u5.bel _ (Nat.le_refl _))); have XC5 := Lib.hid (HC.out.below XB5.out))
            | refine wpList_load_box (by rfl) 36 _ rfl (wr.heap.size) rfl 36 (mt u) _ XU5 Try.underlying36 rfl (by kernel_rfl) ?_
            | (go_at_fn g; refine (hcall _ (fun q h1 h2 => XC5.out.other q h1 h2) XC5.out.size).mono ?_; rintro e w6 ⟨rfl, hb6⟩))
          go_roundg (n - (j + 1))
          case measure => omega
          case rel => exact ⟨i, j + 1, d, cs, rfl, by go_num, by omega, by omega, Nat.le_refl _, Lib.hid (HD.out.skip hU.out HV.out), Lib.hid ((HR.out.below XB5.out).below hb6), Lib.hid (XC5.out.below hb6)⟩
        | false =>
          go_wp2_with (first
            | refine wpList_loadG (by rfl) 36 _ rfl b (j * 14) rfl (mt u) _ hrg Try.underlying36 rfl (by kernel_rfl) ?_
            | (refine wpList_store_box rfl 36 _ _ rfl wr.heap.size (mt u) rfl rfl 36 (mt .zero) (Bx.new (W := wr) 36 (mt .zero) rfl) (by kernel_rfl) rfl (mt_one _) (fun w5 u5 => ?_); have XU5 := u5.box; have XB5 := Lib.hid ((b_al (Below.refl wr.heap.size wr) (Nat.le_refl _) _).trans (u5.bel _ (Nat.le_refl _))); have XC5 := Lib.hid (HC.out.below XB5.out))
            | refine wpList_load_box (by rfl) 36 _ rfl (wr.heap.size) rfl 36 (mt u) _ (by assumption) Try.underlying36 rfl (by kernel_rfl) ?_
            | (go_at_fn g; refine (hcall _ (fun q h1 h2 => XC5.out.other q h1 h2) XC5.out.size).mono ?_; rintro e w6 ⟨rfl, hb6⟩; have XU6 := XU5.below hb6; have XR6 := Lib.hid ((HR.out.below XB5.out).below hb6); have XC6 := Lib.hid (XC5.out.below hb6))
            | (refine wpList_storeG (k := mtW) (by rfl) size_mtr _ _ rfl base b n c i u d rfl rfl XR6.out (by omega) (fun cs7 w7 o7 u7 => ?_)))
          go_roundg (n - (j + 1))
          case measure => omega
          case rel => exact ⟨i + 1, j + 1, d.set i u, cs7, by go_num, by go_num, by omega, by omega, Nat.le_refl _, Lib.hid (HD.out.put hU.out HV.out), Lib.hid o7, Lib.hid (XC6.out.upd u7)⟩
      · obtain ⟨f1, f2, f3⟩ := (show DelI p l l.length i d from by rw [HN.out, show n = j by omega]; exact HD.out).done
        rw [HN.out] at f3
        obtain ⟨cur9, _, _, hnc, _⟩ := HR.out.cur
        obtain ⟨cs9, W9, hcl, u9, o9⟩ := HR.out.clear (d := c - i) f3 HU.out zero_mtr rfl (by have := mt_one .zero; rw [Array.all_eq_true'] at this; exact fun v hv => this v (by have h2 : v ∈ (mt Mt.zero).toList := hv; simpa using h2))
        rw [show (mtW.n : Nat) = 14 from rfl] at hcl
        have HO9 := Lib.hid o9
        have HC9 := Lib.hid (HC.out.upd u9)
        have HF := Lib.hid f1
        have hltz : ¬ (j : Int) < (n : Int) := by omega
        have kc : ¬ c = i := by omega
        clear f1 f2 o9 u9
        go_wp2
        go_ret
        refine ⟨i, rfl, ?_, cs9, HC9.out⟩
        rw [← HF.out]
        exact HO9.out

/-! ### Clone -/

theorem clonem_any (A : Option Addr) (c n : Nat) (l : List Mt) (w : World) (hn : l.length = n) (hr : RdG mtW w A l) (hA : A = none ∨ ∃ b off, A = some ⟨b, off, none⟩) (hz : A = none → n = 0 ∧ c = 0) (hl : n ≤ 10000000000) :
    Calls Try.prog 23 #[.slice A n c] w fun e w' => ∃ v, e = .returned v ∧ OwnG mtW w.heap.size w' v l ∧ Below w.heap.size w w' := by
  cases A with
  | none =>
    obtain ⟨rfl, rfl⟩ := hz rfl
    obtain rfl := List.eq_nil_of_length_eq_zero hn
    have eN : ∀ W : World, (binOp .eql 37 (.slice none 0 0) (.slice none 0 0)).run Try.prog W = .ok (.bool true) W := fun W => Lib.run_eql_slice_nil W _ _ none 0 0 0 0 Try.underlying37
    clear hr hz hn
    go_enter Try.func23, Try.ntmps23
    go_wp2
    go_ret
    exact ⟨_, rfl, OwnG.nil _ _ _, Below.refl _ _⟩
  | some ad =>
    obtain ⟨b, off, rfl⟩ : ∃ b off, ad = ⟨b, off, none⟩ := by
      rcases hA with e | ⟨b, off, e⟩
      · cases e
      · injection e with e; exact ⟨b, off, e⟩
    have HR := Lib.hid (hr.below ((Below.refl _ w).alloc (Nat.le_refl _) (.cells #[] 36)))
    have HN := Lib.hid hn
    have HM : Hid (OwnG mtW w.heap.size (w.alloc (.cells #[] 36)) (.slice (some ⟨w.heap.size, 0, none⟩) 0 0) []) := Lib.hid (World.ownsRow_made (base := w.heap.size) (e := 36) (size := 14) w #[] 0 (Nat.le_refl _) (by unfold maxLen; omega) rfl)
    have eN : ∀ W : World, (binOp .eql 37 (.slice (some ⟨b, off, none⟩) n c) (.slice none 0 0)).run Try.prog W = .ok (.bool false) W := fun W => Lib.run_eql_slice_nil W _ _ (some ⟨b, off, none⟩) n c 0 0 Try.underlying37
    clear hr hz hn
    go_enter Try.func23, Try.ntmps23
    go_wp2_with (at_builtin; refine wpList_appG (k := mtW) rfl 37 Try.underlying37 info_mtr rfl (by decide) _ _ rfl w.heap.size _ [] rfl HM.out (some ⟨b, off, none⟩) n c l rfl HN.out HR.out (fun _ => .inr ⟨_, _, rfl⟩) (fun e => by cases e) (by simp; omega) (by simp) ?_; intro v5 w5 hown5 hgrow5 _ _; have HS := Lib.hid hown5; have HB5 := Lib.hid (((Below.refl w.heap.size w).alloc (Nat.le_refl _) (.cells #[] 36)).grown hgrow5 (by simp) (fun q hq => (OwnG.lt HM.out hq).1)); clear hown5 hgrow5)
    go_ret
    exact ⟨_, rfl, HS.out, HB5.out⟩

end Go.Proofs.Ytglgifhpacmhiaa
