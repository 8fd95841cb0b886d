/- What Sort of layer 15 returns; the library's Clone of findings on the way. Conditions: the findings can be read; at most ten thousand. -/
import Derived.Test.YthiiipbfdgaemaaSortCompact
namespace Go.Proofs.Ythiiipbfdgaemaa
open Go.RowKit

theorem nil_none {w : World} {A : Option Addr} {l : List Rc} (h : RdF w A l) (hA : A = none) : l = [] := by
  rcases l with _ | ⟨s, r⟩
  · rfl
  · obtain ⟨b, off, hb, _⟩ := h (by simp)
    rw [hA] at hb; cases hb

set_option maxRecDepth 100000 in
theorem clone15_any (A : Option Addr) (c n : Nat) (l : List Rc) (w : World) (hn : l.length = n) (hr : RdF w A l) (hz : A = none → c = 0) (hl : n ≤ 10000) :
    Calls Try.prog 40 #[.slice A n c] w fun e w' => ∃ v, e = .returned v ∧ OwnF w.heap.size w' v l ∧ Below w.heap.size w w' := by
  obtain ⟨i0, hi, hz0, hz1, hz2⟩ := info_parts info_find
  cases A with
  | none =>
    obtain rfl := nil_none hr rfl
    obtain rfl : n = 0 := hn.symm
    obtain rfl := hz rfl
    have eN : ∀ W : World, (binOp .eql 28 (.slice none 0 0) (.slice none 0 0)).run Try.prog W = .ok (.bool true) W := fun W => Lib.run_eql_slice_nil W _ _ none 0 0 0 0 Try.underlying28
    clear hr hz hn
    go_enter Try.func40, Try.ntmps40
    go_wp2
    go_ret
    exact ⟨_, rfl, OwnF.nil _ _, Below.refl _ _⟩
  | some ad =>
    have HR := Lib.hid (hr.below ((Below.refl _ w).alloc (Nat.le_refl _) (.cells #[] 62)))
    have HN := Lib.hid hn
    have HM := Lib.hid (World.ownsRow_made (base := w.heap.size) (e := 62) (size := 3) w #[] 0 (Nat.le_refl _) (by unfold maxLen; omega) rfl)
    have eN : ∀ W : World, (binOp .eql 28 (.slice (some ad) n c) (.slice none 0 0)).run Try.prog W = .ok (.bool false) W := fun W => Lib.run_eql_slice_nil W _ _ (some ad) n c 0 0 Try.underlying28
    clear hr hz hn
    go_enter Try.func40, Try.ntmps40
    go_wp2_with (at_builtin; refine wpList_append_own _ rfl _ _ 28 rfl w.heap.size 62 i0 (.agg #[.int .i64 0, .int .i64 0, .int .i64 0]) 3 24 Try.underlying28 hi hz0 hz1 hz2 rfl (by decide) _ 0 [] rfl HM.out ad n c (flatF l) rfl (by rw [flatF_len, HN.out]) HR.out.news (fun u hu => flatF_one hu) (by unfold maxLen; omega) (by omega) (by simp) ?_; intro v5 w5 hown5 hgrow5 _; have HS := Lib.hid hown5; have HB5 := Lib.hid (((Below.refl w.heap.size w).alloc (Nat.le_refl _) (.cells #[] 62)).grown hgrow5 (by simp) (fun q hq => (World.ownsRow.lt HM.out q hq).1)); clear hown5 hgrow5)
    go_ret
    refine ⟨_, rfl, ?_, HB5.out⟩
    have := HS.out
    rw [Nat.zero_add, List.nil_append] at this
    unfold OwnF
    rw [HN.out]
    exact this

theorem few_any (A : Option Addr) (c : Nat) (w : World) :
    Calls Try.prog 43 #[.slice A 0 c] w fun e w' => e = .returned (.slice A 0 c) ∧ Below w.heap.size w w' := by
  go_enter Try.func43, Try.ntmps43
  go_wp2
  go_ret
  exact ⟨rfl, Below.refl _ _⟩

theorem own_cap {base : Nat} {w : World} {A : Option Addr} {n c : Nat} {l : List Rc} (h : OwnF base w (.slice A n c) l) (hn : n ≠ 0) : ∃ g, A = some ⟨g, 0, none⟩ ∧ base ≤ g ∧ n ≤ c := by
  rcases h.2 with ⟨h', hl⟩ | ⟨g, cap, cur, h', hb, hg, hc, _⟩
  · simp only [Value.slice.injEq] at h'
    exact absurd h'.2.1 hn
  · simp only [Value.slice.injEq] at h'
    obtain ⟨rfl, rfl, rfl⟩ := h'
    exact ⟨g, rfl, hb, hc⟩

set_option maxHeartbeats 1000000 in
theorem sort15_any (A : Option Addr) (c n : Nat) (l : List Rc) (w : World) (hn : l.length = n) (hr : RdF w A l) (hz : A = none → c = 0) (hl : n ≤ 10000) :
    Calls Try.prog 28 #[.slice A n c] w fun e w' => ∃ A' m c' r, e = .returned (.slice A' m c') ∧ r.length = m ∧ SetF r l ∧ RdF w' A' r ∧ (A' = none → c' = 0) ∧ Below w.heap.size w w' := by
  have CC := clone15_any A c n l w hn hr hz hl
  by_cases h0 : n = 0
  · subst h0
    obtain rfl := List.eq_nil_of_length_eq_zero hn
    have HS := fun (p : Option Addr) (cap : Nat) (fv : Value) (W : World) => AnyF.slices_SortFunc_none { sortL with } p cap fv W
    clear hr hz hn
    go_enter Try.func28, Try.ntmps28
    go_wp2_with (first
      | (go_at_call 40; (with_reducible refine CC.mono ?_); rintro e w1 ⟨v, rfl, ho, hb1⟩; obtain ⟨A1, c1, rfl, hr1, hz1⟩ := ho.read; have HZ1 := Lib.hid hz1; clear hz1 ho hr1)
      | (go_at_call 41; (refine (HS _ _ _ _).mono ?_); rintro e w2 ⟨rfl, rfl⟩)
      | (go_at_call 43; (with_reducible refine (few_any _ _ _).mono ?_); rintro e w3 ⟨rfl, hb3⟩))
    go_ret
    exact ⟨A1, 0, c1, [], rfl, rfl, ⟨List.Pairwise.nil, fun _ => Iff.rfl⟩, RdF.nil _ _, HZ1.out, b_cl hb1 (Nat.le_refl _) hb3⟩
  · have HN := Lib.hid hn
    have H0 := Lib.hid h0
    have CS := fun (g c' : Nat) (d : Array Rc) (W : World) (hd : d.size = n) (h : RwA W g d) (hg : w.heap.size ≤ g) => sortF_any w.heap.size g c' n d W hd h hg (by omega)
    have CK := fun (g c' : Nat) (d : Array Rc) (W : World) (hd : d.size = n) (h : RwA W g d) (hc : n ≤ c') => compactF_any g c' n d W hd h hc (by omega)
    clear hr hz h0
    go_enter Try.func28, Try.ntmps28
    go_wp2_with (first
      | (go_at_call 40; (with_reducible refine CC.mono ?_); rintro e w1 ⟨v, rfl, ho, hb1⟩; obtain ⟨A1, c1, rfl, _, _⟩ := ho.read; rw [hn] at ho ⊢; obtain ⟨g, rfl, hg, hc1⟩ := own_cap ho H0.out; have HW1 := Lib.hid (RwA.of_own ho); clear ho hn)
      | (go_at_call 41; (refine (CS g c1 l.toArray _ (by simpa using HN.out) HW1.out hg).mono ?_); rintro e w2 ⟨rfl, d2, hd2, hp2, hs2, hW2, hb2⟩; have HD2 := Lib.hid hd2; have HP2 := Lib.hid hp2; have HS2 := Lib.hid hs2; have HW2 := Lib.hid hW2; clear hd2 hp2 hs2 hW2)
      | (go_at_call 43; (refine (CK g c1 d2 _ HD2.out HW2.out hc1).mono ?_); rintro e w3 ⟨m, rfl, hm, hW3, hb3⟩; have HM3 := Lib.hid hm; have HW3 := Lib.hid hW3; have HB3 := Lib.hid (hb3 w.heap.size hg); clear hm hW3 hb3))
    go_ret
    have hset := compact_setF HS2.out
    rw [HD2.out] at hset
    refine ⟨_, m, c1, Lib.compactUpTo d2 n, rfl, HM3.out, setF_perm hset (by simpa using HP2.out), ?_, (fun h => by cases h), (hb1.trans hb2).trans HB3.out⟩
    exact HW3.out.rd

end Go.Proofs.Ythiiipbfdgaemaa
