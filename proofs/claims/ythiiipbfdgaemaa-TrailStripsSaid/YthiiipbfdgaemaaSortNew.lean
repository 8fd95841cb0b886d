/- What Sort of layer 15 returns, and that it lies in a block of its own. Conditions: the findings can be read; at most ten thousand. -/
import Derived.Test.YthiiipbfdgaemaaSortC
namespace Go.Proofs.Ythiiipbfdgaemaa
open Go.RowKit

/-- A row of findings in a block that lies as it lay. -/
theorem RdF.moved {w W : World} {g : Nat} {r : List Rc} (h : RdF w (some ⟨g, 0, none⟩) r) (hs : w.heap.size ≤ W.heap.size) (hg : W.heap[g]? = w.heap[g]?) : RdF W (some ⟨g, 0, none⟩) r := fun hne => by
  obtain ⟨b, off, hA, hb, hc⟩ := h hne
  simp only [Option.some.injEq, Addr.mk.injEq, and_true] at hA
  obtain ⟨rfl, rfl⟩ := hA
  have key : ∀ o, W.cell? ⟨g, o, none⟩ = w.cell? ⟨g, o, none⟩ := fun o => World.cell?_of_block (w := w) hg
  exact ⟨g, 0, rfl, Nat.lt_of_lt_of_le hb hs, fun k hk => by rw [key, key, key]; exact hc k hk⟩

set_option maxHeartbeats 1000000 in
theorem sort15_new (A : Option Addr) (c n : Nat) (l : List Rc) (w : World) (hn : l.length = n) (hr : RdF w A l) (hz : A = none → c = 0) (hl : n ≤ 10000) :
    Calls Try.prog 28 #[.slice A n c] w fun e w' => ∃ A' m c' r, e = .returned (.slice A' m c') ∧ r.length = m ∧ SetF r l ∧ RdF w' A' r ∧ (A' = none → c' = 0) ∧ (r = [] ∨ ∃ g, A' = some ⟨g, 0, none⟩ ∧ w.heap.size ≤ g) ∧ Below w.heap.size w w' := by
  have CC := clone15_any A c n l w hn hr hz hl
  by_cases h0 : n = 0
  · subst h0
    obtain rfl := List.eq_nil_of_length_eq_zero hn
    have HS := fun (p : Option Addr) (cap : Nat) (fv : Value) (W : World) => AnyF.slices_SortFunc_none { sortL with } p cap fv W
    clear hr hz hn
    go_enter Try.func28, Try.ntmps28
    go_wp2_with (first
      | (go_at_call 40; (with_reducible refine CC.mono ?_); rintro e w1 ⟨v, rfl, ho, hb1⟩; obtain ⟨A1, c1, rfl, hr1, hz1⟩ := ho.read; have HZ1 := Lib.hid hz1; clear hz1 ho hr1)
      | (go_at_call 41; (refine (HS _ _ _ _).mono ?_); rintro e w2 ⟨rfl, rfl⟩)
      | (go_at_call 43; (with_reducible refine (few_any _ _ _).mono ?_); rintro e w3 ⟨rfl, hb3⟩))
    go_ret
    exact ⟨A1, 0, c1, [], rfl, rfl, ⟨List.Pairwise.nil, fun _ => Iff.rfl⟩, RdF.nil _ _, HZ1.out, .inl rfl, b_cl hb1 (Nat.le_refl _) hb3⟩
  · have HN := Lib.hid hn
    have H0 := Lib.hid h0
    have CS := fun (g c' : Nat) (d : Array Rc) (W : World) (hd : d.size = n) (h : RwA W g d) (hg : w.heap.size ≤ g) => sortF_any w.heap.size g c' n d W hd h hg (by omega)
    have CK := fun (g c' : Nat) (d : Array Rc) (W : World) (hd : d.size = n) (h : RwA W g d) (hc : n ≤ c') => compactF_any g c' n d W hd h hc (by omega)
    clear hr hz h0
    go_enter Try.func28, Try.ntmps28
    go_wp2_with (first
      | (go_at_call 40; (with_reducible refine CC.mono ?_); rintro e w1 ⟨v, rfl, ho, hb1⟩; obtain ⟨A1, c1, rfl, _, _⟩ := ho.read; rw [hn] at ho ⊢; obtain ⟨g, rfl, hg, hc1⟩ := own_cap ho H0.out; have HW1 := Lib.hid (RwA.of_own ho); clear ho hn)
      | (go_at_call 41; (refine (CS g c1 l.toArray _ (by simpa using HN.out) HW1.out hg).mono ?_); rintro e w2 ⟨rfl, d2, hd2, hp2, hs2, hW2, hb2⟩; have HD2 := Lib.hid hd2; have HP2 := Lib.hid hp2; have HS2 := Lib.hid hs2; have HW2 := Lib.hid hW2; clear hd2 hp2 hs2 hW2)
      | (go_at_call 43; (refine (CK g c1 d2 _ HD2.out HW2.out hc1).mono ?_); rintro e w3 ⟨m, rfl, hm, hW3, hb3⟩; have HM3 := Lib.hid hm; have HW3 := Lib.hid hW3; have HB3 := Lib.hid (hb3 w.heap.size hg); clear hm hW3 hb3))
    go_ret
    have hset := compact_setF HS2.out
    rw [HD2.out] at hset
    refine ⟨_, m, c1, Lib.compactUpTo d2 n, rfl, HM3.out, setF_perm hset (by simpa using HP2.out), ?_, (fun h => by cases h), .inr ⟨g, rfl, hg⟩, (hb1.trans hb2).trans HB3.out⟩
    exact HW3.out.rd

end Go.Proofs.Ythiiipbfdgaemaa
