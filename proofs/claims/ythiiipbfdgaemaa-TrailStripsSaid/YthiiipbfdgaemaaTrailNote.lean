/- What the closure of layer 20 does, by which findings are noted: one of each clause. Conditions: as each theorem says. -/
import Derived.Test.YthiiipbfdgaemaaRows
import Derived.Test.YthiiipbfdgaemaaZ1
import Derived.Test.YthiiipbfdgaemaaZ2
import Derived.Test.YthiiipbfdgaemaaZ4
import Derived.WalkKit
import Derived.WalkSpells
import Derived.WalkSmall
import Derived.Below
import Derived.Lib.Hide
import Derived.BigQuiet
import Derived.BigRegion
import Derived.OwnWalk
import Derived.Outline
import Derived.OneCell
import Derived.Deep.DeepCutAuto
import Derived.Laws.AppendOwn
namespace Go.Proofs.Ythiiipbfdgaemaa
open Go.RowKit

/-- The first minute that breaks a clause (counted from ClDrive on), if one does. -/
abbrev Gs := Nat → Option Int
def putG (G : Gs) (c : Nat) (v : Int) : Gs := fun i => if i = c ∧ G i = none then some v else G i
def oneG (o : Option Int) : Nat := if o.isSome then 1 else 0
def cntG (G : Gs) : Nat := oneG (G 0) + oneG (G 1) + oneG (G 2) + oneG (G 3) + oneG (G 4)
theorem oneG_le (o : Option Int) : oneG o ≤ 1 := by unfold oneG; split <;> omega
theorem cntG_le (G : Gs) : cntG G ≤ 5 := by
  have h0 := oneG_le (G 0); have h1 := oneG_le (G 1); have h2 := oneG_le (G 2); have h3 := oneG_le (G 3); have h4 := oneG_le (G 4)
  unfold cntG; omega
theorem putG_none {G : Gs} {c : Nat} {v : Int} (h : G c = none) (i : Nat) : putG G c v i = if i = c then some v else G i := by
  unfold putG
  by_cases hi : i = c
  · subst hi; simp [h]
  · simp [hi]
theorem putG_some {G : Gs} {c : Nat} {u v : Int} (h : G c = some u) : putG G c v = G := by
  funext i
  unfold putG
  rw [if_neg]
  rintro ⟨rfl, hh⟩
  rw [h] at hh; cases hh
theorem cntG_put {G : Gs} {c : Nat} (v : Int) (hc : c < 5) (h : G c = none) : cntG (putG G c v) = cntG G + 1 := by
  have o1 : oneG (some v) = 1 := rfl
  have o0 : oneG (G c) = 0 := by rw [h]; rfl
  unfold cntG
  simp only [putG_none h]
  have : c = 0 ∨ c = 1 ∨ c = 2 ∨ c = 3 ∨ c = 4 := by omega
  rcases this with rfl | rfl | rfl | rfl | rfl <;> (simp; omega)

/-- The list has just the findings of G, and the set their clauses. -/
structure RepG (l : List Rc) (s : Nat) (G : Gs) : Prop where
  mem : ∀ r : Rc, r ∈ l ↔ ∃ c : Nat, c < 5 ∧ G c = some r.2.1 ∧ r.1 = ((10 + c : Nat) : Int) ∧ r.2.2 = r.2.1 + 1
  len : l.length = cntG G
  bit : ∀ c : Nat, c < 5 → s.testBit (10 + c) = (G c).isSome
  lt : s < 65536

theorem RepG.nil : RepG [] 0 (fun _ => none) := ⟨fun r => by simp, rfl, fun c _ => by simp, by decide⟩
theorem RepG.le {l : List Rc} {s : Nat} {G : Gs} (h : RepG l s G) : l.length ≤ 5 := by rw [h.len]; exact cntG_le G
theorem RepG.put {l : List Rc} {s : Nat} {G : Gs} {c : Nat} {t : Int} (h : RepG l s G) (hc : c < 5) (hG : G c = none) : RepG (l ++ [(((10 + c : Nat) : Int), t, t + 1)]) (s ||| 2 ^ (10 + c)) (putG G c t) where
  len := by rw [List.length_append, h.len, cntG_put _ hc hG]; rfl
  bit i hi := by
    rw [Nat.testBit_or, h.bit i hi, Nat.testBit_two_pow, putG_none hG]
    by_cases e : i = c
    · subst e; simp
    · simp [e]; omega
  lt := Nat.or_lt_two_pow (n := 16) h.lt (Nat.pow_lt_pow_right (m := 10 + c) (n := 16) (by omega) (by omega))
  mem r := by
    rw [List.mem_append, h.mem, List.mem_singleton]
    constructor
    · rintro (⟨i, hi, hv, hr⟩ | rfl)
      · refine ⟨i, hi, ?_, hr⟩
        rw [putG_none hG, if_neg (by rintro rfl; rw [hG] at hv; cases hv)]
        exact hv
      · exact ⟨c, hc, by rw [putG_none hG, if_pos rfl], rfl, rfl⟩
    · rintro ⟨i, hi, hv, hr1, hr2⟩
      rw [putG_none hG] at hv
      by_cases e : i = c
      · subst e
        rw [if_pos rfl] at hv
        have := Option.some.inj hv
        obtain ⟨a, b, d⟩ := r
        simp only at hr1 hr2 this
        right
        rw [hr1, hr2, ← this]
      · rw [if_neg e] at hv
        exact .inl ⟨i, hi, hv, hr1, hr2⟩

theorem bit_test (s k : Nat) : bitV (s : Int) k = s.testBit k := by
  unfold bitV
  rw [Nat.testBit_eq_decide_div_mod_eq]
  have e : (s : Int) / 2 ^ k % 2 = ((s / 2 ^ k % 2 : Nat) : Int) := by
    rw [show (2 : Int) ^ k = ((2 ^ k : Nat) : Int) by rw [Int.natCast_pow]; rfl]
    omega
  rw [e]
  generalize s / 2 ^ k % 2 = q
  by_cases h : q = 1
  · subst h; rfl
  · have h2 : ¬ (q : Int) = 1 := by omega
    rw [decide_eq_false h]
    simp [h2]

theorem RepG.inV {l : List Rc} {s : Nat} {G : Gs} (h : RepG l s G) {c : Nat} (hc : c < 5) : Go.Proofs.Ythiiipbfdgaemaa.inV (s : Int) ((10 + c : Nat) : Int) = (G c).isSome := by
  unfold Go.Proofs.Ythiiipbfdgaemaa.inV
  rw [decide_eq_true (show isC ((10 + c : Nat) : Int) by unfold isC; omega), Int.toNat_natCast, bit_test, h.bit c hc]
  simp

theorem or_nat20 (a b : Nat) (ha : a < 65536) (hb : b < 65536) : bits .or .i64 (a : Int) (b : Int) = ((a ||| b : Nat) : Int) := by
  have hx : a ||| b < 2 ^ 16 := Nat.or_lt_two_pow (n := 16) (by omega) (by omega)
  have ofn : ∀ n : Nat, n < 65536 → (BitVec.ofInt 64 (n : Int)).toNat = n := fun n h => by
    rw [BitVec.toNat_ofInt]; omega
  show IntKind.i64.wrap ((BitVec.ofInt 64 (a : Int) ||| BitVec.ofInt 64 (b : Int)).toNat : Int) = _
  rw [BitVec.toNat_or, ofn a ha, ofn b hb]
  generalize a ||| b = c at hx
  simp [IntKind.wrap, IntKind.bits, IntKind.signed]
  omega
theorem pow_lt20 {k : Nat} (hk : k < 16) : 2 ^ k < 65536 := Nat.pow_lt_pow_right (m := k) (n := 16) (by omega) hk
theorem shl_one20 {k : Nat} (hk : k < 16) : IntKind.i64.wrap (2 ^ k) = ((2 ^ k : Nat) : Int) := by
  have h := pow_lt20 hk
  have e : (2 : Int) ^ k = ((2 ^ k : Nat) : Int) := by rw [Int.natCast_pow]; rfl
  rw [e]
  generalize 2 ^ k = c at h
  simp [IntKind.wrap, IntKind.bits, IntKind.signed]
  omega

/-- How the set and the findings stand. -/
structure NotS (base E L : Nat) (l : List Rc) (s : Nat) (W : World) : Prop where
  bE : Bx W E 3 #[.int .i64 (s : Int)]
  bL : ∃ v, Bx W L 28 #[v] ∧ OwnF base W v l
  eb : E < base
  lb : L < base
  ne : E ≠ L
  sz : base ≤ W.heap.size

theorem NotS.below {base E L : Nat} {l : List Rc} {s : Nat} {W W' : World} (h : NotS base E L l s W) (hb : Below W.heap.size W W') : NotS base E L l s W' := by
  obtain ⟨v, h1, h2⟩ := h.bL
  exact ⟨h.bE.below hb, ⟨v, h1.below hb, h2.below hb⟩, h.eb, h.lb, h.ne, Nat.le_trans h.sz hb.size⟩

set_option maxRecDepth 20000 in
set_option maxHeartbeats 2000000 in
theorem note20_any (base E L : Nat) (l : List Rc) (s : Nat) (G : Gs) (c : Nat) (t : Int) (W : World) (h : NotS base E L l s W) (hr : RepG l s G) (hc : c < 5) (h0 : 0 ≤ t) (h1 : t ≤ 40320) :
    Calls Try.prog 23 #[.int .i64 ((10 + c : Nat) : Int), .int .i64 t, .pointer (some ⟨E, 0, none⟩), .pointer (some ⟨L, 0, none⟩)] W fun e W' =>
      e = .returned (.tuple #[]) ∧ (∃ l' s', NotS base E L l' s' W' ∧ RepG l' s' (putG G c t)) ∧ KpT 62 base E L W W' := by
  have IN := fun W => in_any (s : Int) ((10 + c : Nat) : Int) W
  rw [hr.inV hc] at IN
  obtain ⟨v, HL, HO⟩ := h.bL
  have fE : W.cell? ⟨E, 0, none⟩ = some (.int .i64 (s : Int)) := h.bE.cell rfl
  have lE := h.bE.lt
  cases hG : G c with
  | some u =>
    rw [hG] at IN
    have IN2 : ∀ W, Calls Try.prog 24 #[.int .i64 (s : Int), .int .i64 ((10 + c : Nat) : Int)] W fun e w' => e = .returned (.bool true) ∧ W = w' := IN
    rw [putG_some hG]
    have H := Lib.hid h
    have HR := Lib.hid hr
    clear IN hG hr h HL HO
    generalize ((10 + c : Nat) : Int) = k at IN2 ⊢
    go_enter Try.func23, Try.ntmps23
    go_wp2_with (go_at_call 24; (with_reducible refine (IN2 _).mono ?_); rintro e w2 ⟨rfl, rfl⟩)
    exact bodyPost_end (results_none Try.results23 _ _ _) rfl ⟨rfl, ⟨l, s, H.out, HR.out⟩, KpT.refl _ _ _ _ _⟩
  | none =>
    rw [hG] at IN
    have IN2 : ∀ W, Calls Try.prog 24 #[.int .i64 (s : Int), .int .i64 ((10 + c : Nat) : Int)] W fun e w' => e = .returned (.bool false) ∧ W = w' := IN
    have HRP := Lib.hid (hr.put (t := t) hc hG)
    have hle := hr.le
    have e2 := or_nat20 s (2 ^ (10 + c)) hr.lt (pow_lt20 (by omega))
    have e1 := shl_one20 (k := 10 + c) (by omega)
    obtain ⟨n, hn⟩ : ∃ n, l.length = n := ⟨_, rfl⟩
    obtain ⟨A, cp, rfl, hrd, hz⟩ := HO.read
    rw [hn] at HL HO hle
    have HN := Lib.hid hn
    have hne := h.ne
    have heb := h.eb
    have hlb := h.lb
    have hsz := h.sz
    have HE := Lib.hid h.bE
    have HLh := Lib.hid HL
    have HOh := Lib.hid HO
    have frE := h.bE.free 0
    have hrt : ∀ q, (Value.slice A n cp).ownBlock = some q → ∃ cs z, W.heap[q]? = some (.cells cs 62 z) := fun q hq => row_type (show W.ownsRow base 62 3 _ _ _ from HO) hq
    have HRT := Lib.hid hrt
    obtain ⟨k, hk⟩ : ∃ k, 10 + c = k := ⟨_, rfl⟩
    rw [hk] at IN2 e1 e2 HRP ⊢
    have k0 : (0 : Int) ≤ (k : Int) := by omega
    have k1 : (k : Int) < 16 := by omega
    obtain ⟨p, hp⟩ : ∃ p, 2 ^ k = p := ⟨_, rfl⟩
    rw [hp] at e2 HRP
    have e1' : IntKind.i64.wrap (2 ^ k) = (p : Int) := by rw [e1, hp]
    obtain ⟨s2, hs2⟩ : ∃ s2, s ||| p = s2 := ⟨_, rfl⟩
    rw [hs2] at e2 HRP
    obtain ⟨i0, hi, hz0, hz1, hz2⟩ := info_parts info_find
    clear IN hG hr h HL HO hrd hz hn hrt hk hp hs2 e1 hc
    go_enter Try.func23, Try.ntmps23
    go_upto_region 1 with (go_at_call 24; (with_reducible refine (IN2 _).mono ?_); rintro e w2 ⟨rfl, rfl⟩)
    go_region
    have U := HE.out.setOne (k := 0) (v := .int .i64 (s2 : Int))
    have HE2 := Lib.hid (show Bx (W.setCell ⟨E, 0, none⟩ (.int .i64 (s2 : Int))).drew E 3 #[.int .i64 (s2 : Int)] from U.box)
    have HL2 := Lib.hid (U.bx HLh.out (fun e => hne e.symm)).drew
    have HO2 := Lib.hid (show OwnF base (W.setCell ⟨E, 0, none⟩ (.int .i64 (s2 : Int))).drew (.slice A n cp) l from (OwnF.upd HOh.out U heb).below (b_dr (Below.refl _ _)))
    have KP2 := Lib.hid (((KpT.refl 62 base E L W).upd U (.inl rfl)).trans (KpT.of_below (b_dr (Below.refl _ _)) rfl))
    have hsz2 : W.heap.size ≤ (W.setCell ⟨E, 0, none⟩ (.int .i64 (s2 : Int))).drew.heap.size := KP2.out.size
    clear U HE HLh HOh fE frE lE e2 e1' HRT
    generalize (W.setCell ⟨E, 0, none⟩ (.int .i64 (s2 : Int))).drew = W2 at *
    have cL : W2.cell? ⟨L, 0, none⟩ = some (.slice A n cp) := HL2.out.cell rfl
    have lL := HL2.out.lt
    have HO3 : OwnF base (W2.alloc (.cells #[.int .i64 (k : Int), .int .i64 t, .int .i64 (t + 1)] 62)) (.slice A n cp) l := HO2.out.alloc _
    have hlr : ∀ q, (Value.slice A n cp).ownBlock = some q → base ≤ q := fun q hq => (World.ownsRow.lt HO2.out q hq).1
    have hrt : ∀ q, (Value.slice A n cp).ownBlock = some q → ∃ cs z, W2.heap[q]? = some (.cells cs 62 z) := fun q hq => row_type (show W2.ownsRow base 62 3 _ _ _ from HO2.out) hq
    have HLR := Lib.hid hlr
    have HRT := Lib.hid hrt
    unfold OwnF at HO3
    rw [HN.out] at HO3
    have HO3 := Lib.hid HO3
    clear hlr hrt
    go_wp2_with (first
      | (at_builtin; refine wpList_append_own _ rfl _ _ 28 rfl base 62 i0 (.agg #[.int .i64 0, .int .i64 0, .int .i64 0]) 3 24 Try.underlying28 hi hz0 hz1 hz2 rfl (by decide) _ _ _ rfl HO3.out ⟨W2.heap.size, 0, none⟩ 1 1 [.int .i64 (k : Int), .int .i64 t, .int .i64 (t + 1)] rfl rfl (find_news (by simp)) find_cells (by unfold maxLen; omega) (by omega) (by simp; omega) ?_; intro v5 w5 hown5 hgrow5 _; have hS5 := OwnF.snoc (l := l) (by rw [HN.out]; exact hown5); obtain ⟨A5, c5, rfl, _⟩ := hS5.read; have HS5 := Lib.hid hS5; have hz5 := hgrow5.size; (try simp only [World.size_alloc] at hz5); have hL5 : Bx w5 L 28 #[.slice A n cp] := (hgrow5.block L (by simp; omega) (fun e => by have := HLR.out L e.symm; omega)).trans (HL2.out.alloc _); have hE5 : Bx w5 E 3 #[.int .i64 (s2 : Int)] := (hgrow5.block E (by simp; have := HE2.out.lt; omega) (fun e => by have := HLR.out E e.symm; omega)).trans (HE2.out.alloc _); have HK5 := Lib.hid (show KpT 62 base E L W2 w5 from ⟨by omega, hgrow5.os, hgrow5.tape, hgrow5.output, fun q hq0 _ hq3 hq4 => by
          rw [hgrow5.block q (by simp; omega) (fun e => by
            rcases hq4 with h4 | h4
            · have := HLR.out q e.symm; omega
            · obtain ⟨cs, z, hh⟩ := HRT.out q e.symm
              exact h4 cs z hh)]
          exact Below.heap_alloc W2 _ q hq0⟩); have HL5 := Lib.hid hL5; have HE5 := Lib.hid hE5; clear hown5 hgrow5 hS5 hL5 hE5)
      | (refine wpList_store_fld (by rfl) 28 _ _ rfl L 0 (.slice A5 (l ++ [((k : Int), t, t + 1)]).length c5) rfl rfl rfl 28 _ HL5.out (by simp) (by kernel_rfl) (fun w6 u => ?_)))
    refine bodyPost_end (results_none Try.results23 _ _ _) rfl ⟨rfl, ⟨_, s2, ⟨u.bx HE5.out hne, ⟨_, u.box, OwnF.upd HS5.out u hlb⟩, heb, hlb, hne, by rw [u.size]; omega⟩, HRP.out⟩, ?_⟩
    exact (KP2.out.trans HK5.out).upd u (.inr (.inl rfl))

end Go.Proofs.Ythiiipbfdgaemaa
