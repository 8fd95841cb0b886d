/- What the closure of layer 16 does, by which findings are noted. Conditions: as each theorem says. -/
import Derived.Test.YtlbafgdbemhanaaRows
import Derived.Test.YtlbafgdbemhanaaBase
import Derived.Test.YtlbafgdbemhanaaZ2
import Derived.Test.YtlbafgdbemhanaaZ3
import Derived.Test.YtlbafgdbemhanaaMeterChk
import Derived.Test.YtlbafgdbemhanaaZ4
import Derived.Test.YtlbafgdbemhanaaDutyFrom
import Derived.Test.YtlbafgdbemhanaaDutySet
import Derived.Test.YtlbafgdbemhanaaZ1
import Derived.Test.YtlbafgdbemhanaaClauseSet
import Derived.Test.YtlbafgdbemhanaaBookLim
import Derived.WalkKit
import Derived.WalkSpells
import Derived.WalkSmall
import Derived.Below
import Derived.Lib.Hide
import Derived.Shelf.Abstract
import Derived.BigQuiet
import Derived.OwnWalk
import Derived.Outline
import Derived.Deep.DeepCutAuto
import Derived.StillTailTactics
import Derived.Maps.RangeWalk
import Derived.OrdersHeld
import Derived.Laws.AppendOwn
import Derived.OneCell
import Derived.Deep.RegionHeld3
namespace Go.Proofs.Ytlbafgdbemhanaa
open Go.RowKit

/-- All that lay lies as it lay, but for two blocks, and for rows of findings above base; nothing else is turned. -/
structure Kp2 (base E L : Nat) (W W' : World) : Prop where
  size : W.heap.size ≤ W'.heap.size
  os : W'.os = W.os
  tape : W'.tape = W.tape
  output : W'.output = W.output
  block : ∀ q, q < W.heap.size → q ≠ E → q ≠ L → (q < base ∨ ∀ cs z, W.heap[q]? ≠ some (.cells cs 40 z)) → W'.heap[q]? = W.heap[q]?

theorem Kp2.refl (base E L : Nat) (W : World) : Kp2 base E L W W := ⟨Nat.le_refl _, rfl, rfl, rfl, fun _ _ _ _ _ => rfl⟩
theorem Kp2.trans {base E L : Nat} {A B C : World} (h : Kp2 base E L A B) (k : Kp2 base E L B C) : Kp2 base E L A C :=
  ⟨Nat.le_trans h.size k.size, k.os.trans h.os, k.tape.trans h.tape, k.output.trans h.output, fun q a b c d => by
    have e := h.block q a b c d
    rw [← e]
    exact k.block q (Nat.lt_of_lt_of_le a h.size) b c (d.imp id fun d cs z => by rw [e]; exact d cs z)⟩
theorem Kp2.of_below {base E L n : Nat} {A B : World} (h : Below n A B) (hn : n = A.heap.size) : Kp2 base E L A B :=
  ⟨h.size, h.os, h.tape, h.output, fun q a _ _ _ => h.block q (by omega)⟩
theorem Kp2.wide {base E L : Nat} {A B : World} (h : Kp2 base L L A B) : Kp2 base E L A B := ⟨h.size, h.os, h.tape, h.output, fun q a _ c d => h.block q a c c d⟩
theorem Kp2.below {base E L n : Nat} {A B : World} (h : Kp2 base E L A B) (hn : n ≤ base) (hE : n ≤ E) (hL : n ≤ L) (hs : n ≤ A.heap.size) : Below n A B :=
  ⟨h.os, h.tape, h.output, h.size, fun q a => h.block q (by omega) (by omega) (by omega) (.inl (by omega))⟩
theorem Kp2.upd {base E L g : Nat} {t : TypeId} {cs : Array Value} {A B C : World} (h : Kp2 base E L A B) (u : Upd B g t cs C) (hg : g = E ∨ g = L ∨ A.heap.size ≤ g) : Kp2 base E L A C :=
  ⟨by rw [u.size]; exact h.size, (u.bel 0 (Nat.zero_le _)).os.trans h.os, (u.bel 0 (Nat.zero_le _)).tape.trans h.tape, (u.bel 0 (Nat.zero_le _)).output.trans h.output, fun q a b c d => (u.other q (by omega)).trans (h.block q a b c d)⟩
theorem Kp2.chg {base L g : Nat} {t : TypeId} {cs : Array Value} {B C : World} (u : Chg B g t cs C) : Kp2 base g L B C :=
  ⟨u.size, (u.bel 0 (Nat.zero_le _) (Nat.zero_le _)).os, (u.bel 0 (Nat.zero_le _) (Nat.zero_le _)).tape, (u.bel 0 (Nat.zero_le _) (Nat.zero_le _)).output, fun q a b _ _ => u.other q b a⟩
theorem Kp2.bx {base E L g : Nat} {t : TypeId} {cs : Array Value} {A B : World} (h : Kp2 base E L A B) (hb : Bx A g t cs) (hE : g ≠ E) (hL : g ≠ L) (ht : t ≠ 40) : Bx B g t cs :=
  (h.block g hb.lt hE hL (.inr fun cs' z e => by unfold Bx at hb; rw [hb] at e; injection e with e; injection e with _ e _; exact ht e)).trans hb
theorem row_type {base sz n : Nat} {e : TypeId} {w : World} {v : Value} {xs : List Value} (h : w.ownsRow base e sz v n xs) {q : Nat} (hq : v.ownBlock = some q) : ∃ cs z, w.heap[q]? = some (.cells cs e z) := by
  rcases h.2 with ⟨h2, _⟩ | ⟨g, cap, cur, hv, hg, hh, r⟩
  · rw [h2] at hq; cases hq
  · rw [hv] at hq
    injection hq with hq
    have hq' : g = q := hq
    subst hq'
    exact ⟨_, _, hh⟩
theorem row_block {base sz n : Nat} {e : TypeId} {w w' : World} {v : Value} {xs : List Value} (h : w.ownsRow base e sz v n xs) (hq : ∀ k, v.ownBlock = some k → w'.heap[k]? = w.heap[k]?) : w'.ownsRow base e sz v n xs := by
  refine ⟨h.1, ?_⟩
  rcases h.2 with h2 | ⟨g, cap, cur, hv, hg, hh, r⟩
  · exact Or.inl h2
  · refine Or.inr ⟨g, cap, cur, hv, hg, ?_, r⟩
    rw [hq g (by rw [hv]; rfl)]
    exact hh
/-- A row of another type. -/
theorem Kp2.row {base E L b sz n : Nat} {e : TypeId} {A B : World} {v : Value} {xs : List Value} (k : Kp2 base E L A B) (h : A.ownsRow b e sz v n xs) (hE : E < b) (hL : L < b) (ht : e ≠ 40) : B.ownsRow b e sz v n xs :=
  row_block h fun q hq => by
    have hl := World.ownsRow.lt h q hq
    refine k.block q hl.2 (by omega) (by omega) (.inr fun cs z hh => ?_)
    obtain ⟨cs', z', e'⟩ := row_type h hq
    rw [e'] at hh
    injection hh with hh
    injection hh with _ hh _
    exact ht hh

/-- How the sweep and what it found stand. -/
structure DutS (base g L : Nat) (x : Nat → Int) (m : Mt) (p : Int) (F : Fd) (W : World) : Prop where
  sw : Sw W g x m p
  cell : ∃ v l, Bx W L 27 #[v] ∧ OwnF base W v l ∧ Rep l F
  gb : g < base
  lb : L < base
  ne : g ≠ L
  sz : base ≤ W.heap.size

theorem DutS.below {base g L n : Nat} {x : Nat → Int} {m : Mt} {p : Int} {F : Fd} {W W' : World} (h : DutS base g L x m p F W) (hb : Below n W W') (hn : n = W.heap.size) : DutS base g L x m p F W' := by
  subst hn
  obtain ⟨v, l, h1, h2, h3⟩ := h.cell
  exact ⟨h.sw.below hb, ⟨v, l, h1.below hb, h2.below hb, h3⟩, h.gb, h.lb, h.ne, Nat.le_trans h.sz hb.size⟩
/-- A store into another block below base. -/
theorem OwnF.upd {base g : Nat} {t : TypeId} {cs : Array Value} {w w' : World} {v : Value} {l : List Rc} (h : OwnF base w v l) (u : Upd w g t cs w') (hg : g < base) : OwnF base w' v l :=
  row_block h fun k hk => u.other k (by have := (World.ownsRow.lt h k hk).1; omega)
theorem OwnF.chg {base g : Nat} {t : TypeId} {cs : Array Value} {w w' : World} {v : Value} {l : List Rc} (h : OwnF base w v l) (u : Chg w g t cs w') (hg : g < base) : OwnF base w' v l :=
  row_block h fun k hk => u.other k (by have := (World.ownsRow.lt h k hk).1; omega) (World.ownsRow.lt h k hk).2
theorem DutS.turned {base g L : Nat} {x : Nat → Int} {m m' : Mt} {p p' : Int} {F : Fd} {W W' : World} (h : DutS base g L x m p F W) (u : SwTo W g x m' p' W') : DutS base g L x m' p' F W' := by
  obtain ⟨v, l, h1, h2, h3⟩ := h.cell
  exact ⟨u.box, ⟨v, l, u.bx h1 (fun e => h.ne e.symm), h2.chg u h.gb, h3⟩, h.gb, h.lb, h.ne, Nat.le_trans h.sz u.size⟩

theorem wp_store_fld {P : Program} {o : Oper} {a : Act} {w : World} {K : Act → World → Prop} {Q : Exit → Act → World → Prop} (ty : TypeId) (x y : Operand) (ho : o.op = .store ty x y)
    (g k : Nat) (v : Value) (hx : a.eval x = .pointer (some ⟨g, k, none⟩)) (hy : a.eval y = v) (h1 : v.oneCell' = true) (t : TypeId) (cs : Array Value) (hb : Bx w g t cs) (hk : k < cs.size) (hi : (P.info? ty).map (·.size) = some 1)
    (h : ∀ W', Upd w g t (cs.setIfInBounds k v) W' → K (a.put o.dst undef) W') : o.wp P a w K Q := by
  unfold Oper.wp execOp
  simp only [ho, hx, hy, Instr.storeAt, Instr.sureAddr, Sem.run_bind, Sem.run_pure, Result.andThen_ok, run_storeVar_fld w g k t ty cs v hb hk hi h1]
  exact h _ (Upd.of_setRow _ hb)

set_option maxRecDepth 20000 in
set_option maxHeartbeats 2000000 in
theorem note_any (base g L : Nat) (x : Nat → Int) (m : Mt) (p : Int) (F : Fd) (c : Nat) (t : Int) (W : World) (h : DutS base g L x m p F W) (hx : May x) (hL : 1 ≤ x 18) (hc : c < 10) (h0 : 0 ≤ t) (h1 : t ≤ 40320) :
    Calls Try.prog 23 #[.int .i64 (c : Nat), .int .i64 t, .pointer (some ⟨L, 0, none⟩), .pointer (some ⟨g, 0, none⟩)] W fun e W' => e = .returned (.tuple #[]) ∧ DutS base g L x m p (putF F c (sinceV x m p c t, t + 1)) W' ∧ Kp2 base L L W W' := by
  obtain ⟨v, l, HL, HO, HR⟩ := h.cell
  have hLE := HR.le
  obtain ⟨A, cp, rfl, hrd, hz⟩ := HO.read
  obtain ⟨n, hn⟩ : ∃ n, l.length = n := ⟨_, rfl⟩
  rw [hn] at HL HO hLE
  have SE := fun W h => set16_any A cp n l W hn h (by omega)
  have IN := fun W => in_any (setL l : Nat) (c : Nat) W
  rw [HR.inS hc] at IN
  have fL : W.cell? ⟨L, 0, none⟩ = some (.slice A n cp) := HL.cell rfl
  cases hF : F c with
  | some u =>
    rw [hF] at IN
    have IN2 : ∀ W, Calls Try.prog 24 #[.int .i64 (setL l : Nat), .int .i64 (c : Nat)] W fun e w' => e = .returned (.bool true) ∧ W = w' := IN
    have e : putF F c (sinceV x m p c t, t + 1) = F := by
      funext i
      unfold putF
      rw [if_neg]
      rintro ⟨rfl, hh⟩
      rw [hF] at hh; cases hh
    rw [e]
    clear hF e IN HR hz HO HL
    go_enter Try.func23, Try.ntmps23
    go_wp2_with (first
      | (go_at_call 14; (with_reducible refine (SE _ hrd).mono ?_); rintro e w1 ⟨rfl, hb1⟩)
      | (go_at_call 24; (with_reducible refine (IN2 _).mono ?_); rintro e w2 ⟨rfl, rfl⟩))
    refine bodyPost_end (results_none Try.results23 _ _ _) rfl ⟨rfl, ?_, ?_⟩
    · exact h.below hb1 rfl
    · exact Kp2.of_below hb1 rfl
  | none =>
    rw [hF] at IN
    have IN2 : ∀ W, Calls Try.prog 24 #[.int .i64 (setL l : Nat), .int .i64 (c : Nat)] W fun e w' => e = .returned (.bool false) ∧ W = w' := IN
    have FR := fun W h => from16_any g x m p c t W h hx hL hc h0 h1
    have HRP := HR.put (c := c) (f := sinceV x m p c t) (t := t + 1) hc hF
    obtain ⟨fr, hfr⟩ : ∃ fr, sinceV x m p c t = fr := ⟨_, rfl⟩
    rw [hfr] at FR HRP ⊢
    have hsw := h.sw
    have hne := h.ne
    have hlb := h.lb
    have hgb := h.gb
    have hsz := h.sz
    obtain ⟨i0, hi, hz0, hz1, hz2⟩ := info_parts info_find
    clear hfr hF IN HR hz hc hx h hL
    go_enter Try.func23, Try.ntmps23
    go_upto_region 1 with (first
      | (go_at_call 14; (with_reducible refine (SE _ hrd).mono ?_); rintro e w1 ⟨rfl, hb1⟩)
      | (go_at_call 24; (with_reducible refine (IN2 _).mono ?_); rintro e w2 ⟨rfl, rfl⟩))
    have hrt : ∀ q, (Value.slice A n cp).ownBlock = some q → ∃ cs z, w1.heap[q]? = some (.cells cs 40 z) := fun q hq => row_type (show w1.ownsRow base 40 3 _ _ _ from HO.below hb1) hq
    replace hsw := (hsw.below hb1).drew
    replace HL := (HL.below hb1).drew
    replace HO := HO.below hb1
    have hk1 := Kp2.of_below (base := base) (E := L) (L := L) hb1 rfl
    replace hsz := Nat.le_trans hsz hb1.size
    have HO2 : OwnF base (w1.drew.alloc (.cells #[.int .i64 (c : Nat), .int .i64 fr, .int .i64 (t + 1)] 40)) (.slice A n cp) l := by
      have HO' := HO
      unfold OwnF at HO' ⊢
      exact World.ownsRow.alloc (show w1.drew.ownsRow base 40 3 _ l.length (flatF l) from HO') _
    have HLA := HL.alloc (.cells #[.int .i64 (c : Nat), .int .i64 fr, .int .i64 (t + 1)] 40)
    have hswA := hsw.alloc (.cells #[.int .i64 (c : Nat), .int .i64 fr, .int .i64 (t + 1)] 40)
    have fL2 : w1.drew.cell? ⟨L, 0, none⟩ = some (.slice A n cp) := HL.cell rfl
    have fL3 : (w1.drew.alloc (.cells #[.int .i64 (c : Nat), .int .i64 fr, .int .i64 (t + 1)] 40)).cell? ⟨L, 0, none⟩ = some (.slice A n cp) := HLA.cell rfl
    have fL4 : ((w1.alloc (.cells #[.int .i64 (c : Nat), .int .i64 fr, .int .i64 (t + 1)] 40)).drew).cell? ⟨L, 0, none⟩ = some (.slice A n cp) := fL3
    have hw1 : IntKind.i64.wrap (t + 1) = t + 1 := wrap14 (t + 1) (by omega) (by omega)
    clear SE IN2 fL HO hb1 hrd
    refine wp_region_noPanic ?_
    refine wp_region_held_drew (S := fun _ => True) (by kernel_rfl) trivial (fun hHeld => ?_)
    refine wpAnyH_take (i := 1) (oi := ⟨some 12, _, _, _, _, _⟩) (v := ?_) rfl (by kernel_rfl) (by kernel_rfl) (by kernel_rfl) (fun _ _ _ h => h) (Or.inl ⟨by rfl, ?_⟩) (by assumption) ?_
    rotate_left
    · (intro w' hSw; clear hSw; go_simp; try (with_reducible rfl))
    (try simp only [Act.put, List.setIfInBounds_toArray, List.set_cons_zero, List.set_cons_succ])
    refine wpAnyH_take (i := 2) (oi := ⟨some 13, _, _, _, _, _⟩) (v := ?_) rfl (by kernel_rfl) (by kernel_rfl) (by kernel_rfl) (fun _ _ _ h => h) (Or.inl ⟨by rfl, ?_⟩) (by assumption) ?_
    rotate_left
    · (intro w' hSw; clear hSw; go_simp; try (with_reducible rfl))
    (try simp only [Act.put, List.setIfInBounds_toArray, List.set_cons_zero, List.set_cons_succ])
    refine wpAnyH_take (i := 3) (oi := ⟨some 14, _, _, _, _, _⟩) (v := ?_) rfl (by kernel_rfl) (by kernel_rfl) (by kernel_rfl) (fun _ _ _ h => h) (Or.inl ⟨by rfl, ?_⟩) (by assumption) ?_
    rotate_left
    · (intro w' hSw; clear hSw; go_simp; try (with_reducible rfl))
    (try simp only [Act.put, List.setIfInBounds_toArray, List.set_cons_zero, List.set_cons_succ])
    refine wpAnyH_take (i := 5) (oi := ⟨some 16, _, _, _, _, _⟩) (v := ?_) rfl (by kernel_rfl) (by kernel_rfl) (by kernel_rfl) (fun _ _ _ h => h) (Or.inl ⟨by rfl, ?_⟩) (by assumption) ?_
    rotate_left
    · (intro w' hSw; clear hSw; go_simp; try (with_reducible rfl))
    (try simp only [Act.put, List.setIfInBounds_toArray, List.set_cons_zero, List.set_cons_succ])
    refine wpAnyH_take (i := 6) (oi := ⟨some 17, _, _, _, _, _⟩) (v := ?_) rfl (by kernel_rfl) (by kernel_rfl) (by kernel_rfl) (fun _ _ _ h => h) (Or.inl ⟨by rfl, ?_⟩) (by assumption) ?_
    rotate_left
    · (intro w' hSw; clear hSw; go_simp; try (with_reducible rfl))
    (try simp only [Act.put, List.setIfInBounds_toArray, List.set_cons_zero, List.set_cons_succ])
    refine wpAnyH_ready (rs := [0, 4]) (by kernel_rfl) (by simp) ?_
    refine AllReadyH.cons (o := ⟨some 11, _, _, _, _, _⟩) rfl (fun K hK => ?_) (AllReadyH.cons (o := ⟨some 15, _, _, _, _, _⟩) rfl (fun K hK => ?_) AllReadyH.nil)
    ·
      go_simp
      try go_wp2_with fail
      refine hK.out _ _ trivial (fun hHeld => ?_)
      clear hK K
      (try simp only [Act.put, List.setIfInBounds_toArray, List.set_cons_zero, List.set_cons_succ])
      refine wpAnyH_ready (rs := [4]) (by kernel_rfl) (by simp) ?_
      refine AllReadyH.cons (o := ⟨some 15, _, _, _, _, _⟩) rfl (fun K hK => ?_) AllReadyH.nil
      go_simp
      (go_at_call 25; (with_reducible refine (FR _ hsw).mono ?_); rintro e w3 ⟨rfl, rfl⟩)
      go_wp2_with fail
      refine hK.out _ _ trivial (fun hHeld => ?_)
      clear hK K
      (try simp only [Act.put, List.setIfInBounds_toArray, List.set_cons_zero, List.set_cons_succ])
      refine wpAnyH_take (i := 7) (oi := ⟨some 18, _, _, _, _, _⟩) (v := .agg #[.int .i64 (c : Nat), .int .i64 fr, .int .i64 (t + 1)]) rfl (by kernel_rfl) (by kernel_rfl) (by kernel_rfl) (fun _ _ _ h => h) (Or.inl ⟨by rfl, fun w' hSw => exec_build _ _ rfl (by kernel_rfl)⟩) (by assumption) ?_
      (try simp only [Act.put, List.setIfInBounds_toArray, List.set_cons_zero, List.set_cons_succ])
      refine wpAnyH_ready (rs := [8]) (by kernel_rfl) (by simp) ?_
      refine AllReadyH.cons (o := ⟨some 19, _, _, _, _, _⟩) rfl (fun K hK => ?_) AllReadyH.nil
      go_simp
      try go_wp2_with fail
      refine hK.out _ _ trivial (fun hHeld => ?_)
      clear hK K
      (try simp only [Act.put, List.setIfInBounds_toArray, List.set_cons_zero, List.set_cons_succ])
      refine wpAnyH_ready (rs := [9]) (by kernel_rfl) (by simp) ?_
      refine AllReadyH.cons (o := ⟨some 20, _, _, _, _, _⟩) rfl (fun K hK => ?_) AllReadyH.nil
      refine wp_append_own _ _ _ 27 rfl base 40 i0 (.agg #[.int .i64 0, .int .i64 0, .int .i64 0]) 3 24 Try.underlying27 hi hz0 hz1 hz2 rfl (by decide) _ n _ rfl (by have := HO2; unfold OwnF at this; rw [hn] at this; exact this) ⟨w1.heap.size, 0, none⟩ 1 1 [.int .i64 (c : Nat), .int .i64 fr, .int .i64 (t + 1)] rfl rfl (find_news rfl) find_cells (by unfold maxLen; omega) (by omega) (by simp; omega) (fun v5 w5 hown5 hgrow5 _ => ?_)
      refine hK.out _ _ trivial (fun hHeld => ?_)
      clear hK K
      (try simp only [Act.put, List.setIfInBounds_toArray, List.set_cons_zero, List.set_cons_succ])
      have hlr : ∀ q, (Value.slice A n cp).ownBlock = some q → base ≤ q := fun q hq => (World.ownsRow.lt HO2 q hq).1
      have hz6 := hgrow5.size
      (try simp only [World.size_alloc] at hz6)
      replace hz6 : w1.heap.size + 1 ≤ w5.heap.size := (by first | exact hz6 | simpa using hz6)
      have HL5 : Bx w5 L 27 #[.slice A n cp] := (hgrow5.block L (by simp; have : L < w1.drew.heap.size := HL.lt; exact Nat.lt_succ_of_lt this) (fun e => by have := hlr L e.symm; omega)).trans HLA
      have hsw5 : Sw w5 g x m p := (hgrow5.block g (by simp; have : g < w1.drew.heap.size := hsw.lt; exact Nat.lt_succ_of_lt this) (fun e => by have := hlr g e.symm; omega)).trans hswA
      refine wpAnyH_ready (rs := [10]) (by kernel_rfl) (by simp) ?_
      refine AllReadyH.cons (o := ⟨none, _, _, _, _, _⟩) rfl (fun K hK => ?_) AllReadyH.nil
      refine wp_store_fld 27 _ _ rfl L 0 v5 rfl rfl ?_ 27 _ HL5 (by simp) (by kernel_rfl) (fun w6 u => ?_)
      · obtain ⟨A5, c5, rfl, _⟩ := (OwnF.snoc (l := l) (by rw [hn]; exact hown5)).read
        rfl
      refine hK.out _ _ trivial (fun hHeld => ?_)
      clear hK K
      (try simp only [Act.put])
      refine wpAnyH_done (by kernel_rfl) ?_ _
      refine NoPanic.normal ?_
      go_wp2_with fail
      refine bodyPost_end (results_none Try.results23 _ _ _) rfl ⟨rfl, ?_, ?_⟩
      · refine ⟨u.bx hsw5 hne, ⟨v5, l ++ [((c : Int), fr, t + 1)], u.box, OwnF.upd (OwnF.snoc (l := l) (by rw [hn]; exact hown5)) u hlb, HRP⟩, hgb, hlb, hne, by rw [u.size]; omega⟩
      · refine (hk1.trans ⟨by omega, hgrow5.os, hgrow5.tape, hgrow5.output, fun q hq0 _ hq3 hq4 => ?_⟩).upd u (Or.inl rfl)
        rw [hgrow5.block q (by simp; omega) (fun e => ?_)]
        · exact Below.heap_alloc w1.drew _ q hq0
        · rcases hq4 with h4 | h4
          · have := hlr q e.symm; omega
          · obtain ⟨cs, z, hh⟩ := hrt q e.symm
            exact h4 cs z hh
    ·
      go_simp
      (go_at_call 25; (with_reducible refine (FR _ hsw).mono ?_); rintro e w3 ⟨rfl, rfl⟩)
      go_wp2_with fail
      refine hK.out _ _ trivial (fun hHeld => ?_)
      clear hK K
      (try simp only [Act.put, List.setIfInBounds_toArray, List.set_cons_zero, List.set_cons_succ])
      refine wpAnyH_take (i := 7) (oi := ⟨some 18, _, _, _, _, _⟩) (v := .agg #[.int .i64 (c : Nat), .int .i64 fr, .int .i64 (t + 1)]) rfl (by kernel_rfl) (by kernel_rfl) (by kernel_rfl) (fun _ _ _ h => h) (Or.inl ⟨by rfl, fun w' hSw => exec_build _ _ rfl (by kernel_rfl)⟩) (by assumption) ?_
      (try simp only [Act.put, List.setIfInBounds_toArray, List.set_cons_zero, List.set_cons_succ])
      refine wpAnyH_ready (rs := [0, 8]) (by kernel_rfl) (by simp) ?_
      refine AllReadyH.cons (o := ⟨some 11, _, _, _, _, _⟩) rfl (fun K hK => ?_) (AllReadyH.cons (o := ⟨some 19, _, _, _, _, _⟩) rfl (fun K hK => ?_) AllReadyH.nil)
      ·
        go_simp
        try go_wp2_with fail
        refine hK.out _ _ trivial (fun hHeld => ?_)
        clear hK K
        (try simp only [Act.put, List.setIfInBounds_toArray, List.set_cons_zero, List.set_cons_succ])
        refine wpAnyH_ready (rs := [8]) (by kernel_rfl) (by simp) ?_
        refine AllReadyH.cons (o := ⟨some 19, _, _, _, _, _⟩) rfl (fun K hK => ?_) AllReadyH.nil
        go_simp
        try go_wp2_with fail
        refine hK.out _ _ trivial (fun hHeld => ?_)
        clear hK K
        (try simp only [Act.put, List.setIfInBounds_toArray, List.set_cons_zero, List.set_cons_succ])
        refine wpAnyH_ready (rs := [9]) (by kernel_rfl) (by simp) ?_
        refine AllReadyH.cons (o := ⟨some 20, _, _, _, _, _⟩) rfl (fun K hK => ?_) AllReadyH.nil
        refine wp_append_own _ _ _ 27 rfl base 40 i0 (.agg #[.int .i64 0, .int .i64 0, .int .i64 0]) 3 24 Try.underlying27 hi hz0 hz1 hz2 rfl (by decide) _ n _ rfl (by have := HO2; unfold OwnF at this; rw [hn] at this; exact this) ⟨w1.heap.size, 0, none⟩ 1 1 [.int .i64 (c : Nat), .int .i64 fr, .int .i64 (t + 1)] rfl rfl (find_news rfl) find_cells (by unfold maxLen; omega) (by omega) (by simp; omega) (fun v5 w5 hown5 hgrow5 _ => ?_)
        refine hK.out _ _ trivial (fun hHeld => ?_)
        clear hK K
        (try simp only [Act.put, List.setIfInBounds_toArray, List.set_cons_zero, List.set_cons_succ])
        have hlr : ∀ q, (Value.slice A n cp).ownBlock = some q → base ≤ q := fun q hq => (World.ownsRow.lt HO2 q hq).1
        have hz6 := hgrow5.size
        (try simp only [World.size_alloc] at hz6)
        replace hz6 : w1.heap.size + 1 ≤ w5.heap.size := (by first | exact hz6 | simpa using hz6)
        have HL5 : Bx w5 L 27 #[.slice A n cp] := (hgrow5.block L (by simp; have : L < w1.drew.heap.size := HL.lt; exact Nat.lt_succ_of_lt this) (fun e => by have := hlr L e.symm; omega)).trans HLA
        have hsw5 : Sw w5 g x m p := (hgrow5.block g (by simp; have : g < w1.drew.heap.size := hsw.lt; exact Nat.lt_succ_of_lt this) (fun e => by have := hlr g e.symm; omega)).trans hswA
        refine wpAnyH_ready (rs := [10]) (by kernel_rfl) (by simp) ?_
        refine AllReadyH.cons (o := ⟨none, _, _, _, _, _⟩) rfl (fun K hK => ?_) AllReadyH.nil
        refine wp_store_fld 27 _ _ rfl L 0 v5 rfl rfl ?_ 27 _ HL5 (by simp) (by kernel_rfl) (fun w6 u => ?_)
        · obtain ⟨A5, c5, rfl, _⟩ := (OwnF.snoc (l := l) (by rw [hn]; exact hown5)).read
          rfl
        refine hK.out _ _ trivial (fun hHeld => ?_)
        clear hK K
        (try simp only [Act.put])
        refine wpAnyH_done (by kernel_rfl) ?_ _
        refine NoPanic.normal ?_
        go_wp2_with fail
        refine bodyPost_end (results_none Try.results23 _ _ _) rfl ⟨rfl, ?_, ?_⟩
        · refine ⟨u.bx hsw5 hne, ⟨v5, l ++ [((c : Int), fr, t + 1)], u.box, OwnF.upd (OwnF.snoc (l := l) (by rw [hn]; exact hown5)) u hlb, HRP⟩, hgb, hlb, hne, by rw [u.size]; omega⟩
        · refine (hk1.trans ⟨by omega, hgrow5.os, hgrow5.tape, hgrow5.output, fun q hq0 _ hq3 hq4 => ?_⟩).upd u (Or.inl rfl)
          rw [hgrow5.block q (by simp; omega) (fun e => ?_)]
          · exact Below.heap_alloc w1.drew _ q hq0
          · rcases hq4 with h4 | h4
            · have := hlr q e.symm; omega
            · obtain ⟨cs, z, hh⟩ := hrt q e.symm
              exact h4 cs z hh
      ·
        go_simp
        try go_wp2_with fail
        refine hK.out _ _ trivial (fun hHeld => ?_)
        clear hK K
        (try simp only [Act.put, List.setIfInBounds_toArray, List.set_cons_zero, List.set_cons_succ])
        refine wpAnyH_ready (rs := [0]) (by kernel_rfl) (by simp) ?_
        refine AllReadyH.cons (o := ⟨some 11, _, _, _, _, _⟩) rfl (fun K hK => ?_) AllReadyH.nil
        go_simp
        try go_wp2_with fail
        refine hK.out _ _ trivial (fun hHeld => ?_)
        clear hK K
        (try simp only [Act.put, List.setIfInBounds_toArray, List.set_cons_zero, List.set_cons_succ])
        refine wpAnyH_ready (rs := [9]) (by kernel_rfl) (by simp) ?_
        refine AllReadyH.cons (o := ⟨some 20, _, _, _, _, _⟩) rfl (fun K hK => ?_) AllReadyH.nil
        refine wp_append_own _ _ _ 27 rfl base 40 i0 (.agg #[.int .i64 0, .int .i64 0, .int .i64 0]) 3 24 Try.underlying27 hi hz0 hz1 hz2 rfl (by decide) _ n _ rfl (by have := HO2; unfold OwnF at this; rw [hn] at this; exact this) ⟨w1.heap.size, 0, none⟩ 1 1 [.int .i64 (c : Nat), .int .i64 fr, .int .i64 (t + 1)] rfl rfl (find_news rfl) find_cells (by unfold maxLen; omega) (by omega) (by simp; omega) (fun v5 w5 hown5 hgrow5 _ => ?_)
        refine hK.out _ _ trivial (fun hHeld => ?_)
        clear hK K
        (try simp only [Act.put, List.setIfInBounds_toArray, List.set_cons_zero, List.set_cons_succ])
        have hlr : ∀ q, (Value.slice A n cp).ownBlock = some q → base ≤ q := fun q hq => (World.ownsRow.lt HO2 q hq).1
        have hz6 := hgrow5.size
        (try simp only [World.size_alloc] at hz6)
        replace hz6 : w1.heap.size + 1 ≤ w5.heap.size := (by first | exact hz6 | simpa using hz6)
        have HL5 : Bx w5 L 27 #[.slice A n cp] := (hgrow5.block L (by simp; have : L < w1.drew.heap.size := HL.lt; exact Nat.lt_succ_of_lt this) (fun e => by have := hlr L e.symm; omega)).trans HLA
        have hsw5 : Sw w5 g x m p := (hgrow5.block g (by simp; have : g < w1.drew.heap.size := hsw.lt; exact Nat.lt_succ_of_lt this) (fun e => by have := hlr g e.symm; omega)).trans hswA
        refine wpAnyH_ready (rs := [10]) (by kernel_rfl) (by simp) ?_
        refine AllReadyH.cons (o := ⟨none, _, _, _, _, _⟩) rfl (fun K hK => ?_) AllReadyH.nil
        refine wp_store_fld 27 _ _ rfl L 0 v5 rfl rfl ?_ 27 _ HL5 (by simp) (by kernel_rfl) (fun w6 u => ?_)
        · obtain ⟨A5, c5, rfl, _⟩ := (OwnF.snoc (l := l) (by rw [hn]; exact hown5)).read
          rfl
        refine hK.out _ _ trivial (fun hHeld => ?_)
        clear hK K
        (try simp only [Act.put])
        refine wpAnyH_done (by kernel_rfl) ?_ _
        refine NoPanic.normal ?_
        go_wp2_with fail
        refine bodyPost_end (results_none Try.results23 _ _ _) rfl ⟨rfl, ?_, ?_⟩
        · refine ⟨u.bx hsw5 hne, ⟨v5, l ++ [((c : Int), fr, t + 1)], u.box, OwnF.upd (OwnF.snoc (l := l) (by rw [hn]; exact hown5)) u hlb, HRP⟩, hgb, hlb, hne, by rw [u.size]; omega⟩
        · refine (hk1.trans ⟨by omega, hgrow5.os, hgrow5.tape, hgrow5.output, fun q hq0 _ hq3 hq4 => ?_⟩).upd u (Or.inl rfl)
          rw [hgrow5.block q (by simp; omega) (fun e => ?_)]
          · exact Below.heap_alloc w1.drew _ q hq0
          · rcases hq4 with h4 | h4
            · have := hlr q e.symm; omega
            · obtain ⟨cs, z, hh⟩ := hrt q e.symm
              exact h4 cs z hh

end Go.Proofs.Ytlbafgdbemhanaa
