/- Visits in plain words, piece by piece; how what Visits keeps stands. Conditions: none beyond each lemma's own premises. -/
import Derived.Test.YthiiipbfdgaemaaZ2
import Derived.Test.YthiiipbfdgaemaaZ4
import Derived.Test.YthiiipbfdgaemaaTrailLeaf
namespace Go.Proofs.Ythiiipbfdgaemaa
open Go.RowKit

theorem vis_len (l : List Tk) : ∀ (ks : List Int) (m : Int) (s : Pt) (b : Int) (o : List Vt), (visS l ks m (s, b, o)).2.2.length ≤ o.length + ks.length
  | [], _, _, _, _ => by simp [visS]
  | k :: ks, m, s, b, o => by
    have ih := vis_len l ks (m + 1) (visT l k m (s, b, o)).1 (visT l k m (s, b, o)).2.1 (visT l k m (s, b, o)).2.2
    have h1 : (visT l k m (s, b, o)).2.2.length ≤ o.length + 1 := by
      unfold visT
      by_cases hc : k = 2 ∧ CanW l s
      · rw [if_pos hc]
        simp only
        generalize (if s.2.2 = 0 then m else b) = q
        by_cases hd : s.1 < (stepT l s k).1 ∧ 0 ≤ q
        · rw [if_pos hd, List.length_append, List.length_singleton]; omega
        · rw [if_neg hd]; omega
      · rw [if_neg hc]; simp
    show (visS l ks (m + 1) (visT l k m (s, b, o))).2.2.length ≤ _
    rw [List.length_cons]
    exact Nat.le_trans ih (by omega)

/-- The visit that was begun: of no account, where no service goes on. -/
def JV (s : Pt) (b : Int) (g : Vt) : Prop := 0 < s.2.2 → (b = -1 ∧ g = (-1, 0, 0)) ∨ (0 ≤ b ∧ g = (s.1, b, 0))

/-- What Visits tells: the visits, the error. -/
def visV (l : List Tk) (s : Pt) (r : List Rc) : List Vt × Int := if checkE l s r = 0 then ((visS l (kindsV r) (beg r) (s, -1, [])).2.2, 0) else ([], checkE l s r)
theorem visv_bad {l : List Tk} {s : Pt} {r : List Rc} {e : Int} (h : checkE l s r = e) (hne : e ≠ 0) : visV l s r = ([], e) := by unfold visV; rw [h, if_neg hne]
theorem visv_ok {l : List Tk} {s : Pt} {r : List Rc} (h : checkE l s r = 0) : visV l s r = ((visS l (kindsV r) (beg r) (s, -1, [])).2.2, 0) := by unfold visV; rw [if_pos h]

/-- The visit's cells. -/
def vt3 (g : Vt) : Array Value := #[.int .i64 g.1, .int .i64 g.2.1, .int .i64 g.2.2]

/-- How what Visits keeps stands: the visit that was begun, the one that is none, the visits. -/
structure VisS (base B Z L : Nat) (g : Vt) (o : List Vt) (W : World) : Prop where
  bB : Bx W B 49 (vt3 g)
  bZ : Bx W Z 49 (vt3 (-1, 0, 0))
  bL : ∃ v, Bx W L 34 #[v] ∧ OwnT 49 base W v o
  lb : B < base
  lz : Z < base
  ll : L < base
  ne : B ≠ L
  nz : Z ≠ B
  nl : Z ≠ L
  sz : base ≤ W.heap.size

theorem VisS.below {base B Z L : Nat} {g : Vt} {o : List Vt} {W W' : World} (h : VisS base B Z L g o W) (hb : Below W.heap.size W W') : VisS base B Z L g o W' := by
  obtain ⟨v, h1, h2⟩ := h.bL
  exact ⟨h.bB.below hb, h.bZ.below hb, ⟨v, h1.below hb, h2.below hb⟩, h.lb, h.lz, h.ll, h.ne, h.nz, h.nl, Nat.le_trans h.sz hb.size⟩

theorem VisS.upd {base B Z L q : Nat} {t : TypeId} {old cs : Array Value} {g : Vt} {o : List Vt} {W W' : World} (h : VisS base B Z L g o W) (ht : Held t) (hB : Bx W q t old) (u : Upd W q t cs W') (hq : base ≤ q) : VisS base B Z L g o W' := by
  obtain ⟨v, hv, ho⟩ := h.bL
  have hne : t ≠ 49 := by rcases ht with rfl | rfl | rfl <;> decide
  exact ⟨u.bx h.bB (by have := h.lb; omega), u.bx h.bZ (by have := h.lz; omega), ⟨v, u.bx hv (by have := h.ll; omega), ho.held hB hne u⟩, h.lb, h.lz, h.ll, h.ne, h.nz, h.nl, by rw [u.size]; exact h.sz⟩

/-- The visit that was begun, behind the first minute of a service. -/
def bgn (s : Pt) (a : Int) (g : Vt) : Vt := if s.2.2 = 0 then (s.1, a, 0) else g
theorem bgn_new {s : Pt} (h : s.2.2 = 0) (a : Int) (g : Vt) : bgn s a g = (s.1, a, 0) := if_pos h
theorem bgn_old {s : Pt} (h : ¬ s.2.2 = 0) (a : Int) (g : Vt) : bgn s a g = g := if_neg h

/-- What a piece makes of the visit that was begun, and of the visits. -/
def pieceV (k a b : Int) (s s' : Pt) (g : Vt) (o : List Vt) : Vt × List Vt :=
  if k = 2 ∧ s ≠ s' then
    (if s.1 < s'.1 ∧ bgn s a g ≠ ((-1, 0, 0) : Vt) then (((bgn s a g).1, (bgn s a g).2.1, b), o ++ [((bgn s a g).1, (bgn s a g).2.1, b)]) else (bgn s a g, o))
  else (g, o)
theorem piece_no {k a b : Int} {s s' : Pt} (g : Vt) (o : List Vt) (h : ¬ (k = 2 ∧ s ≠ s')) : pieceV k a b s s' g o = (g, o) := if_neg h
theorem piece_go {k a b : Int} {s s' : Pt} {g : Vt} (o : List Vt) (h : k = 2 ∧ s ≠ s') (h2 : ¬ (s.1 < s'.1 ∧ bgn s a g ≠ ((-1, 0, 0) : Vt))) : pieceV k a b s s' g o = (bgn s a g, o) := by unfold pieceV; rw [if_pos h, if_neg h2]
theorem piece_end {k a b : Int} {s s' : Pt} {g : Vt} (o : List Vt) (h : k = 2 ∧ s ≠ s') (h2 : s.1 < s'.1 ∧ bgn s a g ≠ ((-1, 0, 0) : Vt)) : pieceV k a b s s' g o = (((bgn s a g).1, (bgn s a g).2.1, b), o ++ [((bgn s a g).1, (bgn s a g).2.1, b)]) := by unfold pieceV; rw [if_pos h, if_pos h2]

theorem piece_vis {l : List Tk} (ok : ∀ t ∈ l, TkOk t) {s s' : Pt} (h : Fits l s) {k : Int} {n : Nat} (hp : Pc l s k n) {m : Int} (hm : 0 ≤ m) {f : Fs} (hr : runK l k n m (s, none4) = (s', f)) {b : Int} {g : Vt} {o : List Vt} (hj : JV s b g) :
    ∃ b', visS l (List.replicate n k) m (s, b, o) = (s', b', (pieceV k m (m + n) s s' g o).2) ∧ JV s' b' (pieceV k m (m + n) s s' g o).1 := by
  by_cases k2 : k = 2
  · subst k2
    by_cases hw : CanW l s
    · obtain ⟨hn0, hc⟩ := hp
      obtain ⟨j, rfl⟩ : ∃ j, n = j + 1 := ⟨n - 1, by omega⟩
      have hn : ((j : Int) + 1) ≤ (tk l s.1).2.1 - s.2.2 := by
        rcases hc with ⟨c, _⟩ | ⟨_, _, c⟩ | ⟨_, c⟩
        · exact absurd c (by decide)
        · exact_mod_cast c
        · exact absurd hw (c rfl)
      have hs := (h.2.2.2 hw.1).2.2.1
      have hz := h.1
      have e := vis_work ok j h hw m b o hn
      have es : (pastT l (s.1, s.2.1, s.2.2 + ((j : Int) + 1))) = s' := by
        have := pc_run ok h ⟨hn0, hc⟩ hm
        rw [hr] at this
        have e1 : s' = (pcV l s 2 (j + 1) m).1 := by rw [← this]
        rw [e1]
        unfold pcV
        rw [if_neg (fun c => absurd c.1 (by decide)), if_pos ⟨rfl, hw⟩]
        simp only
        congr 3
      rw [es] at e
      obtain ⟨q, hq⟩ : ∃ q, (if s.2.2 = 0 then m else b) = q := ⟨_, rfl⟩
      rw [hq] at e
      rw [e]
      have hg : (q = -1 ∧ bgn s m g = (-1, 0, 0)) ∨ (0 ≤ q ∧ bgn s m g = (s.1, q, 0)) := by
        by_cases hv : s.2.2 = 0
        · rw [if_pos hv] at hq
          subst hq
          exact .inr ⟨hm, bgn_new hv _ _⟩
        · rw [if_neg hv] at hq
          subst hq
          rw [bgn_old hv]
          exact hj (by omega)
      -- is the service done?
      by_cases hf : s.2.2 + ((j : Int) + 1) = (tk l s.1).2.1
      · have hF : Full l (s.1, s.2.1, s.2.2 + ((j : Int) + 1)) := ⟨hw.1, hw.2.1, hf⟩
        have hgt := pastT_full hF
        rw [es] at hgt
        simp only at hgt
        have hun : s'.2.2 = 0 := by rw [← es, pastT_move hF]; exact pastT_unserved rfl
        have hne : s ≠ s' := fun c => by rw [c] at hgt; omega
        rw [if_pos hf]
        refine ⟨-1, ?_, fun c => by omega⟩
        rcases hg with ⟨hq1, hb⟩ | ⟨hq0, hb⟩
        · rw [piece_go o ⟨rfl, hne⟩ (fun c => c.2 hb), if_neg (fun c => by have := c.2; omega)]
        · rw [piece_end o ⟨rfl, hne⟩ ⟨hgt, by rw [hb]; intro c; injection c with c1 c2; omega⟩, if_pos ⟨hf, hq0⟩, hb]
          simp
      · have hF : ¬ Full l (s.1, s.2.1, s.2.2 + ((j : Int) + 1)) := fun c => hf c.2.2
        rw [pastT_still hF] at es
        subst es
        have hne : s ≠ (s.1, s.2.1, s.2.2 + ((j : Int) + 1)) := fun c => by
          have := congrArg (fun p : Pt => p.2.2) c
          simp only at this
          omega
        rw [if_neg hf, if_neg (fun c => hf c.1), piece_go o ⟨rfl, hne⟩ (fun c => by have := c.1; simp only at this; omega)]
        refine ⟨q, rfl, fun _ => ?_⟩
        rcases hg with ⟨hq1, hb⟩ | ⟨hq0, hb⟩
        · exact .inl ⟨hq1, hb⟩
        · exact .inr ⟨hq0, hb⟩
    · have e := vis_nowork h hw n m b o
      have es : s' = s := by
        have := pc_run ok h hp hm
        rw [hr] at this
        have e1 : s' = (pcV l s 2 n m).1 := by rw [← this]
        rw [e1]
        unfold pcV
        rw [if_neg (fun c => absurd c.1 (by decide)), if_neg (fun c => hw c.2)]
      subst es
      rw [e]
      have ep : pieceV 2 m (m + n) s' s' g o = (g, o) := piece_no g o (fun c => c.2 rfl)
      rw [ep]
      exact ⟨b, rfl, hj⟩
  · have e := vis_other (l := l) k2 n m s b o none4
    rw [hr] at e
    rw [e]
    have ep : pieceV k m (m + n) s s' g o = (g, o) := piece_no g o (fun c => k2 c.1)
    rw [ep]
    refine ⟨b, rfl, ?_⟩
    intro hs
    -- a service that goes on stays as it is
    have hz := h
    by_cases hd : k = 3 ∧ CanD l s
    · have := pc_run ok h hp hm
      rw [hr] at this
      have e1 : s' = (pcV l s k n m).1 := by rw [← this]
      unfold pcV at e1
      rw [if_pos hd] at e1
      have hu := fits_undriven h hd.2
      have : s'.2.2 = 0 := by rw [e1]; exact pastT_unserved hu
      omega
    · have := pc_run ok h hp hm
      rw [hr] at this
      have e1 : s' = (pcV l s k n m).1 := by rw [← this]
      unfold pcV at e1
      rw [if_neg hd, if_neg (fun c => k2 c.1)] at e1
      simp only at e1
      subst e1
      exact hj hs

end Go.Proofs.Ythiiipbfdgaemaa
