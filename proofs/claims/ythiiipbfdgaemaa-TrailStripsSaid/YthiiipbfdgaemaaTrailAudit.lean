/- What Audit and Follows of layer 20 return. Conditions: the tasks and records can be read. -/
import Derived.Test.YthiiipbfdgaemaaRows
import Derived.Test.YthiiipbfdgaemaaZ1
import Derived.Test.YthiiipbfdgaemaaZ2
import Derived.Test.YthiiipbfdgaemaaErrandPast
import Derived.Test.YthiiipbfdgaemaaErrandFits
import Derived.Test.YthiiipbfdgaemaaErrandSpot
import Derived.Test.YthiiipbfdgaemaaErrandLeftC
import Derived.Test.YthiiipbfdgaemaaErrandOverC
import Derived.Test.YthiiipbfdgaemaaZ4
import Derived.Test.YthiiipbfdgaemaaTrailLeaf
import Derived.Test.YthiiipbfdgaemaaTrailOver
import Derived.Test.YthiiipbfdgaemaaTrailFollow
import Derived.Test.YthiiipbfdgaemaaTrailNote
import Derived.Test.YthiiipbfdgaemaaTrailHand
import Derived.Test.YthiiipbfdgaemaaZ5
import Derived.Test.YthiiipbfdgaemaaSortNew
import Derived.WalkKit
import Derived.WalkSpells
import Derived.WalkSmall
import Derived.Below
import Derived.Lib.Hide
import Derived.Outline
import Derived.Deep.DeepCutAuto
import Derived.OwnWalk
import Derived.BigQuiet
import Derived.Deep.QuietTactic
import Derived.Deep.LoopGhost
import Derived.WalkMore
import Derived.OrdersHeld
import Derived.Deep.RegionHeld3
namespace Go.Proofs.Ythiiipbfdgaemaa
open Go.RowKit

set_option maxRecDepth 20000 in
set_option maxHeartbeats 2000000 in
theorem audit20_bad (A : Option Addr) (n c : Nat) (l : List Tk) (hn : l.length = n) (i x y : Int) (A' : Option Addr) (n' c' : Nat) (r : List Rc) (hn' : r.length = n') (w : World) (h : RdK w A l) (hf : Few l) (hcn : n ≤ c) (hz : A = none → c = 0)
    (hx : -9223372036854775808 ≤ x ∧ x ≤ 9223372036854775807) (hy : -9223372036854775808 ≤ y ∧ y ≤ 9223372036854775807) (hr : RdR w A' r) (hl : n' ≤ 4611686018427387904) {er : Int} (he : checkE l (i, x, y) r = er) (hne : er ≠ 0) :
    Calls Try.prog 8 #[.slice A n c, .agg #[.int .i64 i, .int .i64 x, .int .i64 y], .slice A' n' c'] w fun e w' => ∃ A2 m2 c2, e = .returned (.tuple #[.agg (sp3 (audV l (i, x, y) r).1), .slice A2 m2 c2, .int .i64 (audV l (i, x, y) r).2.2]) ∧ (audV l (i, x, y) r).2.1.length = m2 ∧ RdF w' A2 (audV l (i, x, y) r).2.1 ∧ (A2 = none → c2 = 0) ∧ Below w.heap.size w w' := by
  rw [aud_bad he hne]
  have HS0 := Lib.hid (show Bx ((w.alloc (.cells #[.int .i64 i, .int .i64 x, .int .i64 y] 24)).alloc (.cells #[.int .i64 0, .int .i64 0, .int .i64 0] 24)) w.heap.size 24 #[.int .i64 i, .int .i64 x, .int .i64 y] from (Bx.new (W := w) _ _ rfl).alloc _)
  have HQ0 := Lib.hid (show Bx ((w.alloc (.cells #[.int .i64 i, .int .i64 x, .int .i64 y] 24)).alloc (.cells #[.int .i64 0, .int .i64 0, .int .i64 0] 24)) (w.heap.size + 1) 24 #[.int .i64 0, .int .i64 0, .int .i64 0] from Bx.new (W := w.alloc (.cells #[.int .i64 i, .int .i64 x, .int .i64 y] 24)) _ _ (by simp))
  have HB0 := Lib.hid (show Below w.heap.size w ((w.alloc (.cells #[.int .i64 i, .int .i64 x, .int .i64 y] 24)).alloc (.cells #[.int .i64 0, .int .i64 0, .int .i64 0] 24)) by (repeat (first | exact Below.refl _ _ | (refine b_st ?_ (by first | (simp; done) | (simp; omega))) | (refine b_al ?_ (Nat.le_refl _) _) | refine b_dn ?_ | refine b_dr ?_ | (refine b_cl ?_ (Nat.le_refl _) (by assumption)))))
  have CK := fun W (h : RdK W A l) (hr : RdR W A' r) => check20_any A n c l hn i x y A' n' c' r hn' W h hf hcn hz hx hy hr hl
  have HK := Lib.hid h
  have HR := Lib.hid hr
  rw [he] at CK
  have hne' : (er != 0) = true := by simp [hne]
  clear he hne h hr hn hn' hf hcn hz hx hy
  go_enter Try.func8, Try.ntmps8
  go_upto_region 1 with fail
  generalize ((w.alloc (.cells #[.int .i64 i, .int .i64 x, .int .i64 y] 24)).alloc (.cells #[.int .i64 0, .int .i64 0, .int .i64 0] 24)) = W0 at *
  go_wp2_with (first
    | (refine wpList_load_box (by rfl) 24 _ rfl (w.heap.size) rfl 24 #[.int .i64 i, .int .i64 x, .int .i64 y] _ HS0.out Try.underlying24 rfl size_spot ?_)
    | (go_at_call 22; refine (CK _ (HK.out.below HB0.out) (HR.out.below HB0.out)).mono ?_; rintro e w1 ⟨rfl, hb1⟩; have HS1 := Lib.hid (HS0.out.below hb1); have HQ1 := Lib.hid (HQ0.out.below hb1); have HB1 := Lib.hid (b_cl HB0.out (Nat.le_refl _) hb1); have lt1 := HQ1.out.lt; have ls1 : w.heap.size < w1.heap.size := (by omega); clear hb1)
    | (refine wpList_store_box rfl 24 _ _ rfl (w.heap.size + 1) #[.int .i64 0, .int .i64 0, .int .i64 0] rfl rfl 24 #[.int .i64 0, .int .i64 0, .int .i64 0] HQ1.out size_spot rfl (one3 _ _ _) (fun w2 u2 => ?_)))
  refine bodyPost_ret (results_box3 Try.results8 _ _ (w.heap.size + 1) 24 #[.int .i64 0, .int .i64 0, .int .i64 0] _ (.slice none 0 0) (.int .i64 er) rfl u2.box rfl rfl Try.underlying24 rfl size_spot) rfl ⟨none, 0, 0, rfl, rfl, RdF.nil _ _, fun _ => rfl, ?_⟩
  exact HB1.out.trans (u2.bel _ (by omega))

/-- One cell is stored into a block that was just made. -/
theorem wpList_store_one {P : Program} {ops : Array Oper} {rest : List Oper} {o : Oper} {a : Act} {W : World} {Q : Exit → Act → World → Prop} (hgd : Region.wanted o (yielded ops a.tmps) = true) (ty : TypeId) (x y : Operand) (ho : o.op = .store ty x y)
    (g : Nat) (v old : Value) (hx : a.eval x = .pointer (some ⟨g, 0, none⟩)) (hy : a.eval y = v) (h1 : v.oneCell' = true) (t : TypeId) (hgg : g = W.heap.size) (hi : (P.info? ty).map (·.size) = some 1)
    (h : wpList P ops Q rest (a.put o.dst undef) (W.alloc (.cells #[v] t))) : wpList P ops Q (o :: rest) a (W.alloc (.cells #[old] t)) :=
  wpList_step fun K hK => by
    rw [if_pos hgd]
    unfold Oper.wp execOp
    simp only [ho, hx, hy, Instr.storeAt, Instr.sureAddr, Sem.run_bind, Sem.run_pure, Result.andThen_ok, run_storeVar_fld (W.alloc (.cells #[old] t)) g 0 t ty #[old] v (Bx.new t #[old] hgg) (by simp) hi h1]
    refine hK _ _ ?_
    rw [setRow_new W g #[old] _ t hgg]
    exact h

/-- How the two spots and the findings stand, as Audit returns. -/
structure TailS (base g0 L : Nat) (SA : Array Value) (v : Value) (l : List Rc) (W : World) : Prop where
  s : Bx W g0 24 SA
  q : ∃ cs : Array Value, Bx W (g0 + 1) 24 cs ∧ cs.size = 3
  f : Bx W L 28 #[v]
  o : OwnF base W v l
  ne : L ≠ g0 + 1
theorem TailS.below {base g0 L : Nat} {SA : Array Value} {v : Value} {l : List Rc} {W W' : World} (h : TailS base g0 L SA v l W) (hb : Below W.heap.size W W') : TailS base g0 L SA v l W' := by
  obtain ⟨cs, h1, h2⟩ := h.q
  exact ⟨h.s.below hb, ⟨cs, h1.below hb, h2⟩, h.f.below hb, h.o.below hb, h.ne⟩
theorem TailS.upd {base g0 L : Nat} {SA : Array Value} {v : Value} {l : List Rc} {W W' : World} {cs : Array Value} (h : TailS base g0 L SA v l W) (u : Upd W (g0 + 1) 24 cs W') (hs : cs.size = 3) : TailS base g0 L SA v l W' := by
  obtain ⟨old, h1, h2⟩ := h.q
  exact ⟨u.bx h.s (by omega), ⟨cs, u.box, hs⟩, u.bx h.f h.ne, h.o.held h1 (by decide) u, h.ne⟩

theorem HanS.upd {base E L N q : Nat} {t : TypeId} {old cs : Array Value} {l : List Rc} {s : Nat} {W W' : World} (h : HanS base E L N l s W) (ht : Held t) (hB : Bx W q t old) (u : Upd W q t cs W') (nE : E ≠ q) (nL : L ≠ q) (nN : N ≠ q) : HanS base E L N l s W' := by
  obtain ⟨v, hv, ho⟩ := h.ns.bL
  have hne : t ≠ 62 := by rcases ht with rfl | rfl | rfl <;> decide
  exact ⟨⟨u.bx h.ns.bE nE, ⟨v, u.bx hv nL, ho.held hB hne u⟩, h.ns.eb, h.ns.lb, h.ns.ne, by rw [u.size]; exact h.ns.sz⟩, u.bx h.bN nN, h.nb, h.nE, h.nL⟩

/-- The world in which follow is called by Audit. -/
abbrev audW (w1 : World) : World := (((w1.alloc (.cells #[.slice none 0 0] 28)).alloc (.cells #[.int .i64 0] 3)).alloc (.cells #[.func (.func 23) #[] #[.pointer (some ⟨w1.heap.size + 1, 0, none⟩), .pointer (some ⟨w1.heap.size, 0, none⟩)]] 63))

theorem aud_start (w1 : World) (l : List Tk) (ks : List Int) (m0 : Int) (s0 : Pt) : AudI (w1.heap.size + 1 + 1 + 1) (w1.heap.size + 1) (w1.heap.size) (w1.heap.size + 1 + 1) l ks m0 s0 0 (audW w1) := by
  refine ⟨[], 0, ⟨⟨(Bx.new (W := w1.alloc (.cells #[.slice none 0 0] 28)) (g := w1.heap.size + 1) _ _ (by simp)).alloc _, ⟨.slice none 0 0, ((Bx.new (W := w1) _ _ rfl).alloc _).alloc _, OwnF.nil _ _⟩, by omega, by omega, by omega, by simp⟩, Bx.new (W := (w1.alloc (.cells #[.slice none 0 0] 28)).alloc (.cells #[.int .i64 0] 3)) (g := w1.heap.size + 1 + 1) _ _ (by simp), by omega, by omega, by omega⟩, ?_⟩
  have e : GF (runS l (ks.take 0) m0 (s0, none4)).2 = fun _ => none := by
    funext c
    have e1 : fget none4 c = -1 := by
      unfold fget none4
      repeat' split
      all_goals rfl
    have e2 : (runS l (ks.take 0) m0 (s0, none4)).2 = none4 := rfl
    unfold GF
    rw [e2, e1, if_neg (fun k => absurd k.2 (by decide))]
  rw [e]
  exact RepG.nil

theorem aud_bel {n : Nat} {w1 : World} (h : n ≤ w1.heap.size) : Below n w1 (audW w1) :=
  (((Below.refl n w1).alloc h _).alloc (by simp; omega) _).alloc (by simp; omega) _

set_option maxRecDepth 20000 in
set_option maxHeartbeats 2000000 in
theorem audit20_good (A : Option Addr) (n c : Nat) (l : List Tk) (hn : l.length = n) (i x y : Int) (A' : Option Addr) (n' c' : Nat) (r : List Rc) (hn' : r.length = n') (w : World) (h : RdK w A l) (hf : Few l) (hcn : n ≤ c) (hz : A = none → c = 0)
    (hx : -9223372036854775808 ≤ x ∧ x ≤ 9223372036854775807) (hy : -9223372036854775808 ≤ y ∧ y ≤ 9223372036854775807) (hr : RdR w A' r) (hl : n' ≤ 4611686018427387904) (he : checkE l (i, x, y) r = 0) :
    Calls Try.prog 8 #[.slice A n c, .agg #[.int .i64 i, .int .i64 x, .int .i64 y], .slice A' n' c'] w fun e w' => ∃ A2 m2 c2, e = .returned (.tuple #[.agg (sp3 (audV l (i, x, y) r).1), .slice A2 m2 c2, .int .i64 (audV l (i, x, y) r).2.2]) ∧ (audV l (i, x, y) r).2.1.length = m2 ∧ RdF w' A2 (audV l (i, x, y) r).2.1 ∧ (A2 = none → c2 = 0) ∧ Below w.heap.size w w' := by
  obtain ⟨ck, fit, tl⟩ := checkE_zero he
  obtain ⟨ok, _⟩ := checkt_zero ck
  have tb := tl.bd
  obtain ⟨⟨⟨a, u, v⟩, F⟩, hX⟩ : ∃ X : Pt × Fs, runS l (kindsV r) (beg r) ((i, x, y), none4) = X := ⟨_, rfl⟩
  rw [aud_ok he hX]
  have FE := runS_fits ok (kindsV r) (beg r) ((i, x, y), none4) fit
  rw [hX] at FE
  have ELT := Lib.hid (show ((a, u, v) : Pt).1 < (l.length : Int) ↔ a < (n : Int) by rw [hn])
  have HS0 := Lib.hid (show Bx ((w.alloc (.cells #[.int .i64 i, .int .i64 x, .int .i64 y] 24)).alloc (.cells #[.int .i64 0, .int .i64 0, .int .i64 0] 24)) w.heap.size 24 #[.int .i64 i, .int .i64 x, .int .i64 y] from (Bx.new (W := w) _ _ rfl).alloc _)
  have HQ0 := Lib.hid (show Bx ((w.alloc (.cells #[.int .i64 i, .int .i64 x, .int .i64 y] 24)).alloc (.cells #[.int .i64 0, .int .i64 0, .int .i64 0] 24)) (w.heap.size + 1) 24 #[.int .i64 0, .int .i64 0, .int .i64 0] from Bx.new (W := w.alloc (.cells #[.int .i64 i, .int .i64 x, .int .i64 y] 24)) _ _ (by simp))
  have HB0 := Lib.hid (show Below w.heap.size w ((w.alloc (.cells #[.int .i64 i, .int .i64 x, .int .i64 y] 24)).alloc (.cells #[.int .i64 0, .int .i64 0, .int .i64 0] 24)) by (repeat (first | exact Below.refl _ _ | (refine b_st ?_ (by first | (simp; done) | (simp; omega))) | (refine b_al ?_ (Nat.le_refl _) _) | refine b_dn ?_ | refine b_dr ?_ | (refine b_cl ?_ (Nat.le_refl _) (by assumption)))))
  have CK := fun W (h : RdK W A l) (hr : RdR W A' r) => check20_any A n c l hn i x y A' n' c' r hn' W h hf hcn hz hx hy hr hl
  have HK := Lib.hid h
  have HR := Lib.hid hr
  rw [he] at CK
  have hn0 : ∀ W1 : World, Below w.heap.size w W1 → RdKn w.heap.size W1 A l ∧ RdRn w.heap.size W1 A' r := fun W1 hb => ⟨⟨w, rfl, h, hb⟩, ⟨w, rfl, hr, hb⟩⟩
  have HN0 := Lib.hid hn0
  have HX := Lib.hid hX
  have eg : ∀ args w, (callFunc 26 args).run Try.prog w = .ok (.enter 26 args) w := enters_of Try.func26 (by kernel_rfl) rfl
  have CF := fun (w1 : World) (hK : RdKn w.heap.size (audW w1) A l) (hR : RdRn w.heap.size (audW w1) A' r) (h0 : w.heap.size ≤ w1.heap.size) =>
    follow20_any 26 #[.pointer (some ⟨w1.heap.size + 1 + 1, 0, none⟩)] eg A n c l hn i x y A' n' c' r hn' w.heap.size (AudI (w1.heap.size + 1 + 1 + 1) (w1.heap.size + 1) (w1.heap.size) (w1.heap.size + 1 + 1) l (kindsV r) (beg r) (i, x, y)) (audW w1) hK hR (by simp; omega) hf hcn hz hl ck fit tl
      (by have hs : (audW w1).heap.size = w1.heap.size + 1 + 1 + 1 := by simp
          rw [hs]
          exact aud_does tb.1 (by omega) (by omega) (by omega) (by omega)) (aud_start w1 _ _ _ _)
  rw [hX] at CF
  have fb : -9223372036854775807 ≤ fin r ∧ fin r ≤ 9223372036854775807 := by
    rcases List.eq_nil_or_concat r with rfl | ⟨r', q, rfl⟩
    · decide
    · have := tl.len (by simp); omega
  have CLt := fun W (h : RdR W A' r) => last20_any A' n' c' r hn' W h hl fb
  have LTB := Lib.hid (show 0 ≤ lastV r ∧ lastV r ≤ 40320 by
    unfold lastV
    by_cases hq : r = []
    · rw [if_pos hq]; omega
    · rw [if_neg hq]
      have h1 := tl.len hq
      have h2 := tl.bd
      have h3 : 0 < (kindsV r).length := by
        rcases r with _ | ⟨q, r⟩
        · exact absurd rfl hq
        · have := tl.1.2
          rw [kinds_cons, List.length_append, List.length_replicate]
          omega
      omega)
  obtain ⟨lv, hlv⟩ : ∃ lv, lastV r = lv := ⟨_, rfl⟩
  rw [hlv] at CLt LTB
  have HLV := Lib.hid hlv
  clear he h hr hn hn' hf hcn hz hx hy ck fit tl ok FE tb hX hn0 eg fb hlv
  go_enter Try.func8, Try.ntmps8
  go_upto_region 1 with fail
  generalize ((w.alloc (.cells #[.int .i64 i, .int .i64 x, .int .i64 y] 24)).alloc (.cells #[.int .i64 0, .int .i64 0, .int .i64 0] 24)) = W0 at *
  go_upto_region 8 with (first
    | (refine wpList_load_box (by rfl) 24 _ rfl (w.heap.size) rfl 24 #[.int .i64 i, .int .i64 x, .int .i64 y] _ HS0.out Try.underlying24 rfl size_spot ?_)
    | (go_at_call 22; refine (CK _ (HK.out.below HB0.out) (HR.out.below HB0.out)).mono ?_; rintro e w1 ⟨rfl, hb1⟩; have HS1 := Lib.hid (HS0.out.below hb1); have HQ1 := Lib.hid (HQ0.out.below hb1); have HB1 := Lib.hid (b_cl HB0.out (Nat.le_refl _) hb1); have lt1 := HQ1.out.lt; have ls1 : w.heap.size < w1.heap.size := (by omega); have HN1 := Lib.hid (HN0.out _ HB1.out); have HK7 := Lib.hid ((HN1.out.1.below (aud_bel (by omega)))); have HR7 := Lib.hid ((HN1.out.2.below (aud_bel (by omega)))); have HB7 := Lib.hid (show Below w.heap.size w (audW w1) from HB1.out.trans (aud_bel (by omega))); have HS7 := Lib.hid (show Bx (audW w1) (w.heap.size) 24 #[.int .i64 i, .int .i64 x, .int .i64 y] from ((HS1.out.alloc _).alloc _).alloc _); have HQ7 := Lib.hid (show Bx (audW w1) (w.heap.size + 1) 24 #[.int .i64 0, .int .i64 0, .int .i64 0] from ((HQ1.out.alloc _).alloc _).alloc _); clear hb1)
    | (refine wpList_store_one (by rfl) 63 _ _ rfl (w1.heap.size + 1 + 1) _ .nilFunc rfl rfl rfl 63 (by simp) (by kernel_rfl) ?_)
    | (refine wpList_load_box (by rfl) 24 _ rfl (w.heap.size) rfl 24 #[.int .i64 i, .int .i64 x, .int .i64 y] _ HS7.out Try.underlying24 rfl size_spot ?_)
    | (go_at_call 25; refine (CF w1 HK7.out HR7.out (by omega)).mono ?_; rintro e w8 ⟨rfl, hI8, hk8⟩; have HI8 := Lib.hid hI8; have HS8 := Lib.hid (hk8.box _ _ _ HS7.out (Or.inl rfl)); have HQ8 := Lib.hid (hk8.box _ _ _ HQ7.out (Or.inl rfl)); have HB8 := Lib.hid (HB7.out.trans hk8.bel); have HN8 := Lib.hid (And.intro (HK7.out.below hk8.bel) (HR7.out.below hk8.bel)); clear hI8 hk8)
    | (refine wpList_store_box rfl 24 _ _ rfl (w.heap.size) #[.int .i64 a, .int .i64 u, .int .i64 v] rfl rfl 24 #[.int .i64 i, .int .i64 x, .int .i64 y] HS8.out size_spot rfl (one3 _ _ _) (fun w9 u9 => ?_)))
  obtain ⟨l8, s8, hh8, hr8⟩ := HI8.out
  rw [List.take_of_length_le (Nat.le_refl _), HX.out] at hr8
  have H9 := Lib.hid (hh8.upd (Or.inl rfl) HS8.out u9 (by omega) (by omega) (by omega))
  have HR8 := Lib.hid (show RepG l8 s8 (GF F) from hr8)
  have HS9 := Lib.hid u9.box
  have HQ9 := Lib.hid (u9.bx HQ8.out (by omega))
  have HB9 := Lib.hid (HB8.out.trans (u9.bel _ (Nat.le_refl _)))
  have HR9 := Lib.hid (HN8.out.2.below (u9.bel _ (Nat.le_refl _))).rd
  have t9 : w9.cell? ⟨w.heap.size, 0, none⟩ = some (.int .i64 a) := HS9.out.cell rfl
  have lt9 := HS9.out.lt
  clear hh8 hr8 HI8 HS8 HQ8 HB8 HN8 u9 HS7 HQ7 HB7 HK7 HR7 CF
  by_cases hlt : a < (n : Int)
  · have CNt := fun W (h : NotS (w1.heap.size + 1 + 1 + 1) (w1.heap.size + 1) (w1.heap.size) l8 s8 W) => note20_any (w1.heap.size + 1 + 1 + 1) (w1.heap.size + 1) (w1.heap.size) l8 s8 (GF F) 4 lv W h HR8.out (by omega) LTB.out.1 LTB.out.2
    go_upto_region 9 with fail
    refine wp_region_noPanic ?_
    refine wp_region_held_drew (S := (fun w' => w'.cell? ⟨w1.heap.size + 1 + 1, 0, none⟩ = some (.func (.func 23) #[] #[.pointer (some ⟨w1.heap.size + 1, 0, none⟩), .pointer (some ⟨w1.heap.size, 0, none⟩)]))) (by kernel_rfl) ?_ (fun hHeld => ?_)
    · exact (show w9.drew.cell? _ = _ from H9.out.bN.cell rfl)
    refine wpAnyH_take (i := 0) (oi := ⟨some 32, _, _, _, _, _⟩) (v := ?_) rfl (by kernel_rfl) (by kernel_rfl) (by kernel_rfl) (fun _ _ _ h => h) (Or.inl ⟨by rfl, ?_⟩) (by assumption) ?_
    rotate_left
    · (intro w' hSw; have hc := hSw; (try dsimp only at hc); clear hSw; go_simp; try (with_reducible rfl))
    (try simp only [Act.put, List.setIfInBounds_toArray, List.set_cons_zero, List.set_cons_succ])
    refine wpAnyH_take (i := 1) (oi := ⟨some 33, _, _, _, _, _⟩) (v := ?_) rfl (by kernel_rfl) (by kernel_rfl) (by kernel_rfl) (fun _ _ _ h => h) (Or.inl ⟨by rfl, ?_⟩) (by assumption) ?_
    rotate_left
    · (intro w' hSw; clear hSw; go_simp; try (with_reducible rfl))
    (try simp only [Act.put, List.setIfInBounds_toArray, List.set_cons_zero, List.set_cons_succ])
    refine wpAnyH_ready (rs := [2]) (by kernel_rfl) (by simp) ?_
    refine AllReadyH.cons (o := ⟨some 34, _, _, _, _, _⟩) rfl (fun K hK => ?_) AllReadyH.nil
    go_simp
    (go_at_call 27; refine (CLt _ (HR9.out.below (b_dr (Below.refl _ _)))).mono ?_; rintro e w' ⟨rfl, rfl⟩)
    go_wp2_with fail
    refine hK.out _ _ (hHeld) (fun hHeld => ?_)
    clear hK K
    (try simp only [Act.put, List.setIfInBounds_toArray, List.set_cons_zero, List.set_cons_succ])
    refine wpAnyH_ready (rs := [3]) (by kernel_rfl) (by simp) ?_
    refine AllReadyH.cons (o := ⟨some 35, _, _, _, _, _⟩) rfl (fun K hK => ?_) AllReadyH.nil
    go_simp
    (go_at_call 23; refine (CNt _ (H9.out.ns.below (b_dr (Below.refl _ _)))).mono ?_; rintro e w10 ⟨rfl, ⟨l10, s10, hn10, hr10⟩, hk10⟩)
    go_wp2_with fail
    refine hK.out _ _ ((hk10.bx (H9.out.below (b_dr (Below.refl _ _))).bN H9.out.nE H9.out.nL (by decide)).cell rfl) (fun hHeld => ?_)
    clear hK K
    (try simp only [Act.put, List.setIfInBounds_toArray, List.set_cons_zero, List.set_cons_succ])
    refine wpAnyH_done (by kernel_rfl) ?_ _
    refine NoPanic.normal ?_
    have hkb := (KpT.of_below (T := 62) (base := (w1.heap.size + 1 + 1 + 1)) (E := w1.heap.size + 1) (L := w1.heap.size) (b_dr (Below.refl w9.heap.size w9)) rfl).trans hk10
    obtain ⟨v9, hv9, ho9⟩ := H9.out.ns.bL
    have hkt := hkb.keep (n := w.heap.size) H9.out.ns.bE hv9 (by rintro (h | h | h) <;> exact absurd h (by decide)) (by rintro (h | h | h) <;> exact absurd h (by decide)) (by rintro (h | h | h) <;> exact absurd h (by decide)) (by omega) (by omega) (by omega) (Nat.le_of_lt HS9.out.lt)
    have H10 := Lib.hid (show HanS (w1.heap.size + 1 + 1 + 1) (w1.heap.size + 1) (w1.heap.size) (w1.heap.size + 1 + 1) l10 s10 w10 from ⟨hn10, hkb.bx H9.out.bN H9.out.nE H9.out.nL (by decide), H9.out.nb, H9.out.nE, H9.out.nL⟩)
    have HR10 := Lib.hid (show RepG l10 s10 (allG l r ((a, u, v), F)) by rw [allG_left (ELT.out.2 hlt), HLV.out]; exact hr10)
    have HS10 := Lib.hid (hkt.box _ _ _ HS9.out (Or.inl rfl))
    have HQ10 := Lib.hid (hkt.box _ _ _ HQ9.out (Or.inl rfl))
    have HB10 := Lib.hid (HB9.out.trans hkt.bel)
    clear hkb hkt hn10 hr10 hk10 hv9 ho9 t9 lt9 CNt CLt
    go_wp2_with fail
    obtain ⟨v3, hv3, ho3⟩ := H10.out.ns.bL
    obtain ⟨A3, c3, rfl, hrd3, hz3⟩ := ho3.read
    have HOG := Lib.hid (fun rr (hs : SetF rr l10) => outG_is HR10.out hs)
    have hle3 := HR10.out.le
    obtain ⟨n3, hn3⟩ : ∃ n3, (l10).length = n3 := ⟨_, rfl⟩
    rw [hn3] at hv3 ho3 hle3
    have TS0 := Lib.hid (show TailS (w1.heap.size + 1 + 1 + 1) (w.heap.size) (w1.heap.size) #[.int .i64 a, .int .i64 u, .int .i64 v] (.slice A3 n3 c3) l10 w10 from ⟨HS10.out, ⟨_, HQ10.out, rfl⟩, hv3, ho3, by omega⟩)
    have SC := fun W (ho : OwnF (w1.heap.size + 1 + 1 + 1) W (.slice A3 n3 c3) l10) => sort15_new A3 c3 n3 l10 W hn3 ho.rd hz3 (by omega)
    clear hrd3 hv3 ho3 hle3
    refine wp_region_noPanic ?_
    refine wp_region_held_drew (S := (fun w' => TailS (w1.heap.size + 1 + 1 + 1) (w.heap.size) (w1.heap.size) #[.int .i64 a, .int .i64 u, .int .i64 v] (.slice A3 n3 c3) l10 w')) (by kernel_rfl) ?_ (fun hHeld => ?_)
    · exact (TS0.out.below (b_dr (Below.refl _ _)))
    refine wpAnyH_take (i := 0) (oi := ⟨some 36, _, _, _, _, _⟩) (v := .agg #[.int .i64 a, .int .i64 u, .int .i64 v]) rfl (by kernel_rfl) (by kernel_rfl) (by kernel_rfl) (fun _ _ _ h => h) (Or.inl ⟨by rfl, fun w' hSw => exec_load_box (w.heap.size) 24 #[.int .i64 a, .int .i64 u, .int .i64 v] _ w' rfl rfl hSw.s Try.underlying24 rfl size_spot⟩) (by assumption) ?_
    (try simp only [Act.put, List.setIfInBounds_toArray, List.set_cons_zero, List.set_cons_succ])
    refine wpAnyH_take (i := 1) (oi := ⟨some 37, _, _, _, _, _⟩) (v := ?_) rfl (by kernel_rfl) (by kernel_rfl) (by kernel_rfl) (fun _ _ _ h => h) (Or.inl ⟨by rfl, ?_⟩) (by assumption) ?_
    rotate_left
    · (intro w' hSw; have := hSw.f.cell (k := 0) rfl; clear hSw; go_simp; try (with_reducible rfl))
    (try simp only [Act.put, List.setIfInBounds_toArray, List.set_cons_zero, List.set_cons_succ])
    refine wpAnyH_ready (rs := [2]) (by kernel_rfl) (by simp) ?_
    refine AllReadyH.cons (o := ⟨some 38, _, _, _, _, _⟩) rfl (fun K hK => ?_) AllReadyH.nil
    go_simp
    (go_at_call 28; refine (SC _ hHeld.o).mono ?_; rintro e w11 ⟨A2, m2, c2, rr, rfl, hm, hset, hrd, hz2, hnew, hb11⟩; have HB11 := Lib.hid (HB10.out.trans ((b_dr (Below.refl _ _)).trans (hb11.mono (by show _ ≤ w10.heap.size; have := HS10.out.lt; omega)))))
    go_wp2_with fail
    refine hK.out _ _ (hHeld.below hb11) (fun hHeld => ?_)
    clear hK K
    (try simp only [Act.put, List.setIfInBounds_toArray, List.set_cons_zero, List.set_cons_succ])
    refine wpAnyH_ready (rs := [3]) (by kernel_rfl) (by simp) ?_
    refine AllReadyH.cons (o := ⟨none, _, _, _, _, _⟩) rfl (fun K hK => ?_) AllReadyH.nil
    obtain ⟨old, ho1, ho2⟩ := hHeld.q
    refine wp_store_any 24 _ _ rfl (w.heap.size + 1) #[.int .i64 a, .int .i64 u, .int .i64 v] rfl rfl 24 old ho1 size_spot ho2 (one3 _ _ _) (fun w12 u12 => ?_)
    refine hK.out _ _ (hHeld.upd u12 rfl) (fun hHeld => ?_)
    clear hK K
    (try simp only [Act.put])
    refine wpAnyH_take (i := 4) (oi := ⟨some 7, _, _, _, _, _⟩) (v := ?_) rfl (by kernel_rfl) (by kernel_rfl) (by kernel_rfl) (fun _ _ _ h => h) (Or.inl ⟨by rfl, ?_⟩) (by assumption) ?_
    rotate_left
    · (intro w' hSw; clear hSw; go_simp; try (with_reducible rfl))
    (try simp only [Act.put, List.setIfInBounds_toArray, List.set_cons_zero, List.set_cons_succ])
    refine wpAnyH_take (i := 5) (oi := ⟨some 8, _, _, _, _, _⟩) (v := ?_) rfl (by kernel_rfl) (by kernel_rfl) (by kernel_rfl) (fun _ _ _ h => h) (Or.inl ⟨by rfl, ?_⟩) (by assumption) ?_
    rotate_left
    · (intro w' hSw; clear hSw; go_simp; try (with_reducible rfl))
    (try simp only [Act.put, List.setIfInBounds_toArray, List.set_cons_zero, List.set_cons_succ])
    refine wpAnyH_done (by kernel_rfl) ?_ _
    refine NoPanic.normal ?_
    go_wp2_with fail
    refine bodyPost_ret (results_box3 Try.results8 _ _ (w.heap.size + 1) 24 #[.int .i64 a, .int .i64 u, .int .i64 v] _ (.slice A2 m2 c2) (.int .i64 0) rfl u12.box rfl rfl Try.underlying24 rfl size_spot) rfl ⟨A2, m2, c2, rfl, by rw [← HOG.out _ hset]; exact hm, ?_, hz2, HB11.out.trans (u12.bel _ (by omega))⟩
    rw [← HOG.out _ hset]
    rcases hnew with rfl | ⟨gg, rfl, hgg⟩
    · exact RdF.nil _ _
    · exact hrd.moved (by rw [u12.size]; exact Nat.le_refl _) (u12.other gg (by have h1 := HS10.out.lt; have h2 := HQ10.out.lt; have h3 : w10.heap.size ≤ gg := hgg; omega))
  · have HR10 := Lib.hid (show RepG l8 s8 (allG l r ((a, u, v), F)) by rw [allG_none (fun c => hlt (ELT.out.1 c))]; exact HR8.out)
    have hge : (n : Int) ≤ a := by omega
    go_wp2_with fail
    clear t9 lt9 CLt
    obtain ⟨v3, hv3, ho3⟩ := H9.out.ns.bL
    obtain ⟨A3, c3, rfl, hrd3, hz3⟩ := ho3.read
    have HOG := Lib.hid (fun rr (hs : SetF rr l8) => outG_is HR10.out hs)
    have hle3 := HR10.out.le
    obtain ⟨n3, hn3⟩ : ∃ n3, (l8).length = n3 := ⟨_, rfl⟩
    rw [hn3] at hv3 ho3 hle3
    have TS0 := Lib.hid (show TailS (w1.heap.size + 1 + 1 + 1) (w.heap.size) (w1.heap.size) #[.int .i64 a, .int .i64 u, .int .i64 v] (.slice A3 n3 c3) l8 w9 from ⟨HS9.out, ⟨_, HQ9.out, rfl⟩, hv3, ho3, by omega⟩)
    have SC := fun W (ho : OwnF (w1.heap.size + 1 + 1 + 1) W (.slice A3 n3 c3) l8) => sort15_new A3 c3 n3 l8 W hn3 ho.rd hz3 (by omega)
    clear hrd3 hv3 ho3 hle3
    refine wp_region_noPanic ?_
    refine wp_region_held_drew (S := (fun w' => TailS (w1.heap.size + 1 + 1 + 1) (w.heap.size) (w1.heap.size) #[.int .i64 a, .int .i64 u, .int .i64 v] (.slice A3 n3 c3) l8 w')) (by kernel_rfl) ?_ (fun hHeld => ?_)
    · exact (TS0.out.below (b_dr (Below.refl _ _)))
    refine wpAnyH_take (i := 0) (oi := ⟨some 36, _, _, _, _, _⟩) (v := .agg #[.int .i64 a, .int .i64 u, .int .i64 v]) rfl (by kernel_rfl) (by kernel_rfl) (by kernel_rfl) (fun _ _ _ h => h) (Or.inl ⟨by rfl, fun w' hSw => exec_load_box (w.heap.size) 24 #[.int .i64 a, .int .i64 u, .int .i64 v] _ w' rfl rfl hSw.s Try.underlying24 rfl size_spot⟩) (by assumption) ?_
    (try simp only [Act.put, List.setIfInBounds_toArray, List.set_cons_zero, List.set_cons_succ])
    refine wpAnyH_take (i := 1) (oi := ⟨some 37, _, _, _, _, _⟩) (v := ?_) rfl (by kernel_rfl) (by kernel_rfl) (by kernel_rfl) (fun _ _ _ h => h) (Or.inl ⟨by rfl, ?_⟩) (by assumption) ?_
    rotate_left
    · (intro w' hSw; have := hSw.f.cell (k := 0) rfl; clear hSw; go_simp; try (with_reducible rfl))
    (try simp only [Act.put, List.setIfInBounds_toArray, List.set_cons_zero, List.set_cons_succ])
    refine wpAnyH_ready (rs := [2]) (by kernel_rfl) (by simp) ?_
    refine AllReadyH.cons (o := ⟨some 38, _, _, _, _, _⟩) rfl (fun K hK => ?_) AllReadyH.nil
    go_simp
    (go_at_call 28; refine (SC _ hHeld.o).mono ?_; rintro e w11 ⟨A2, m2, c2, rr, rfl, hm, hset, hrd, hz2, hnew, hb11⟩; have HB11 := Lib.hid (HB9.out.trans ((b_dr (Below.refl _ _)).trans (hb11.mono (by show _ ≤ w9.heap.size; have := HS9.out.lt; omega)))))
    go_wp2_with fail
    refine hK.out _ _ (hHeld.below hb11) (fun hHeld => ?_)
    clear hK K
    (try simp only [Act.put, List.setIfInBounds_toArray, List.set_cons_zero, List.set_cons_succ])
    refine wpAnyH_ready (rs := [3]) (by kernel_rfl) (by simp) ?_
    refine AllReadyH.cons (o := ⟨none, _, _, _, _, _⟩) rfl (fun K hK => ?_) AllReadyH.nil
    obtain ⟨old, ho1, ho2⟩ := hHeld.q
    refine wp_store_any 24 _ _ rfl (w.heap.size + 1) #[.int .i64 a, .int .i64 u, .int .i64 v] rfl rfl 24 old ho1 size_spot ho2 (one3 _ _ _) (fun w12 u12 => ?_)
    refine hK.out _ _ (hHeld.upd u12 rfl) (fun hHeld => ?_)
    clear hK K
    (try simp only [Act.put])
    refine wpAnyH_take (i := 4) (oi := ⟨some 7, _, _, _, _, _⟩) (v := ?_) rfl (by kernel_rfl) (by kernel_rfl) (by kernel_rfl) (fun _ _ _ h => h) (Or.inl ⟨by rfl, ?_⟩) (by assumption) ?_
    rotate_left
    · (intro w' hSw; clear hSw; go_simp; try (with_reducible rfl))
    (try simp only [Act.put, List.setIfInBounds_toArray, List.set_cons_zero, List.set_cons_succ])
    refine wpAnyH_take (i := 5) (oi := ⟨some 8, _, _, _, _, _⟩) (v := ?_) rfl (by kernel_rfl) (by kernel_rfl) (by kernel_rfl) (fun _ _ _ h => h) (Or.inl ⟨by rfl, ?_⟩) (by assumption) ?_
    rotate_left
    · (intro w' hSw; clear hSw; go_simp; try (with_reducible rfl))
    (try simp only [Act.put, List.setIfInBounds_toArray, List.set_cons_zero, List.set_cons_succ])
    refine wpAnyH_done (by kernel_rfl) ?_ _
    refine NoPanic.normal ?_
    go_wp2_with fail
    refine bodyPost_ret (results_box3 Try.results8 _ _ (w.heap.size + 1) 24 #[.int .i64 a, .int .i64 u, .int .i64 v] _ (.slice A2 m2 c2) (.int .i64 0) rfl u12.box rfl rfl Try.underlying24 rfl size_spot) rfl ⟨A2, m2, c2, rfl, by rw [← HOG.out _ hset]; exact hm, ?_, hz2, HB11.out.trans (u12.bel _ (by omega))⟩
    rw [← HOG.out _ hset]
    rcases hnew with rfl | ⟨gg, rfl, hgg⟩
    · exact RdF.nil _ _
    · exact hrd.moved (by rw [u12.size]; exact Nat.le_refl _) (u12.other gg (by have h1 := HS9.out.lt; have h2 := HQ9.out.lt; have h3 : w9.heap.size ≤ gg := hgg; omega))

end Go.Proofs.Ythiiipbfdgaemaa
