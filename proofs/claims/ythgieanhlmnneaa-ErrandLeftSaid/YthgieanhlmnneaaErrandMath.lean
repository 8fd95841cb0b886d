/- Tasks in plain words: whether a spot is right, the spot behind a minute, what is left. Conditions: none beyond each lemma's own premises. -/
import Derived.Test.YthgieanhlmnneaaBase
import Derived.Test.YthgieanhlmnneaaIvalsMath
import Derived.Test.YthgieanhlmnneaaWindowMath
namespace Go.Proofs.Ythgieanhlmnneaa

/-- A task: its drive, its service, the windows. -/
abbrev Tk := Int × Int × List Sp
/-- A spot: how many tasks are done, and how much of the next one is driven and served. -/
abbrev Pt := Int × Int × Int

def tk (l : List Tk) (i : Int) : Tk := l.getD i.toNat (0, 0, [])

/-- What is wrong with a task, by the error's number. -/
def taskV (t : Tk) : Int :=
  if t.1 < 0 ∨ 10080 < t.1 ∨ t.2.1 < 0 ∨ 1440 < t.2.1 then 4 else if 0 < t.2.1 then checkW t.2.2 else if t.2.2 = [] then 0 else 1

/-- The numbers of a task are none below 0. -/
def TkOk (t : Tk) : Prop := 0 ≤ t.1 ∧ t.1 ≤ 10080 ∧ 0 ≤ t.2.1 ∧ t.2.1 ≤ 1440

def Fits (l : List Tk) (s : Pt) : Prop :=
  0 ≤ s.1 ∧ s.1 ≤ l.length ∧ (s.1 = l.length → s.2.1 = 0 ∧ s.2.2 = 0) ∧
    (s.1 < l.length → 0 ≤ s.2.1 ∧ s.2.1 ≤ (tk l s.1).1 ∧ 0 ≤ s.2.2 ∧ s.2.2 ≤ (tk l s.1).2.1 ∧ (s.2.2 = 0 ∨ s.2.1 = (tk l s.1).1) ∧ ¬ (s.2.1 = (tk l s.1).1 ∧ s.2.2 = (tk l s.1).2.1))

instance (l : List Tk) (s : Pt) : Decidable (Fits l s) := by unfold Fits; infer_instance

/-- All of the task is done. -/
def Full (l : List Tk) (s : Pt) : Prop := s.1 < l.length ∧ s.2.1 = (tk l s.1).1 ∧ s.2.2 = (tk l s.1).2.1

instance (l : List Tk) (s : Pt) : Decidable (Full l s) := by unfold Full; infer_instance

/-- Tasks of which all is done gone past, n of them at most. -/
def pastN (l : List Tk) : Nat → Pt → Pt
  | 0, s => s
  | n + 1, s => if Full l s then pastN l n (s.1 + 1, 0, 0) else s

def pastT (l : List Tk) (s : Pt) : Pt := pastN l ((l.length : Int) - s.1).toNat s

/-- What is left, of driving and of services. -/
def sumD (l : List Tk) : Int := (l.map fun t => t.1).sum
def sumS (l : List Tk) : Int := (l.map fun t => t.2.1).sum
def leftT (l : List Tk) (s : Pt) : Int × Int := (sumD (l.drop s.1.toNat) - s.2.1, sumS (l.drop s.1.toNat) - s.2.2)

theorem tk_drop {l : List Tk} {i : Int} (h0 : 0 ≤ i) (h : i < l.length) : l.drop i.toNat = tk l i :: l.drop (i + 1).toNat := by
  have hk : i.toNat < l.length := by omega
  have e : (i + 1).toNat = i.toNat + 1 := by omega
  rw [e, List.drop_eq_getElem_cons hk]
  unfold tk
  rw [List.getD_eq_getElem?_getD, List.getElem?_eq_getElem hk, Option.getD_some]

theorem left_move {l : List Tk} {s : Pt} (h0 : 0 ≤ s.1) (h : Full l s) : leftT l (s.1 + 1, 0, 0) = leftT l s := by
  obtain ⟨h1, h2, h3⟩ := h
  unfold leftT
  rw [tk_drop h0 h1]
  unfold sumD sumS
  simp only [List.map_cons, List.sum_cons, h2, h3]
  ext <;> simp <;> omega

theorem past_left {l : List Tk} : ∀ (n : Nat) (s : Pt), 0 ≤ s.1 → leftT l (pastN l n s) = leftT l s
  | 0, _, _ => rfl
  | n + 1, s, h0 => by
    unfold pastN
    by_cases h : Full l s
    · rw [if_pos h, past_left n _ (by simp; omega), left_move h0 h]
    · rw [if_neg h]

/-- What may lie before the tasks of which all is done are gone past. -/
def Near (l : List Tk) (s : Pt) : Prop :=
  0 ≤ s.1 ∧ s.1 ≤ l.length ∧ (s.1 = l.length → s.2.1 = 0 ∧ s.2.2 = 0) ∧
    (s.1 < l.length → 0 ≤ s.2.1 ∧ s.2.1 ≤ (tk l s.1).1 ∧ 0 ≤ s.2.2 ∧ s.2.2 ≤ (tk l s.1).2.1 ∧ (s.2.2 = 0 ∨ s.2.1 = (tk l s.1).1))

theorem Fits.near {l : List Tk} {s : Pt} (h : Fits l s) : Near l s := by
  obtain ⟨h1, h2, h3, h4⟩ := h
  exact ⟨h1, h2, h3, fun k => ⟨(h4 k).1, (h4 k).2.1, (h4 k).2.2.1, (h4 k).2.2.2.1, (h4 k).2.2.2.2.1⟩⟩

theorem Near.fits {l : List Tk} {s : Pt} (h : Near l s) (hf : ¬ Full l s) : Fits l s := by
  obtain ⟨h1, h2, h3, h4⟩ := h
  exact ⟨h1, h2, h3, fun k => ⟨(h4 k).1, (h4 k).2.1, (h4 k).2.2.1, (h4 k).2.2.2.1, (h4 k).2.2.2.2, fun q => hf ⟨k, q⟩⟩⟩

theorem Fits.not_full {l : List Tk} {s : Pt} (h : Fits l s) : ¬ Full l s := fun k => (h.2.2.2 k.1).2.2.2.2.2 k.2

theorem tk_mem {l : List Tk} {i : Int} (h0 : 0 ≤ i) (h : i < l.length) : tk l i ∈ l := by
  have hk : i.toNat < l.length := by omega
  unfold tk
  rw [List.getD_eq_getElem?_getD, List.getElem?_eq_getElem hk]
  exact List.getElem_mem hk

theorem Near.move {l : List Tk} (ok : ∀ t ∈ l, TkOk t) {s : Pt} (h : Near l s) (hf : Full l s) : Near l (s.1 + 1, 0, 0) := by
  have h1 := h.1
  have h2 := hf.1
  refine ⟨by simp; omega, by simp; omega, fun _ => ⟨rfl, rfl⟩, fun k => ?_⟩
  simp only at k
  have := ok _ (tk_mem (l := l) (i := s.1 + 1) (by omega) k)
  exact ⟨Int.le_refl _, this.1, Int.le_refl _, this.2.2.1, Or.inl rfl⟩

theorem past_fits {l : List Tk} (ok : ∀ t ∈ l, TkOk t) : ∀ (n : Nat) (s : Pt), Near l s → (l.length : Int) - s.1 ≤ n → Fits l (pastN l n s)
  | 0, s, h, hn => h.fits fun k => by have := k.1; omega
  | n + 1, s, h, hn => by
    unfold pastN
    by_cases hf : Full l s
    · rw [if_pos hf]
      exact past_fits ok n _ (h.move ok hf) (by simp; omega)
    · rw [if_neg hf]
      exact h.fits hf

theorem pastT_fits {l : List Tk} (ok : ∀ t ∈ l, TkOk t) {s : Pt} (h : Near l s) : Fits l (pastT l s) := past_fits ok _ s h (by omega)

theorem pastT_left {l : List Tk} {s : Pt} (h0 : 0 ≤ s.1) : leftT l (pastT l s) = leftT l s := past_left _ s h0

theorem pastT_still {l : List Tk} {s : Pt} (h : ¬ Full l s) : pastT l s = s := by
  unfold pastT
  cases ((l.length : Int) - s.1).toNat with
  | zero => rfl
  | succ n => unfold pastN; rw [if_neg h]

theorem pastT_move {l : List Tk} {s : Pt} (h : Full l s) : pastT l s = pastT l (s.1 + 1, 0, 0) := by
  have h1 := h.1
  unfold pastT
  have e : ((l.length : Int) - s.1).toNat = ((l.length : Int) - (s.1 + 1)).toNat + 1 := by omega
  rw [e]
  conv => lhs; unfold pastN
  rw [if_pos h]

/-- The spot before tasks are gone past, and what is broken: ClDrive, ClWork, ClOpen, ClServe. -/
def CanD (l : List Tk) (s : Pt) : Prop := s.1 < l.length ∧ s.2.1 < (tk l s.1).1
def CanW (l : List Tk) (s : Pt) : Prop := s.1 < l.length ∧ s.2.1 = (tk l s.1).1 ∧ s.2.2 < (tk l s.1).2.1

instance (l : List Tk) (s : Pt) : Decidable (CanD l s) := by unfold CanD; infer_instance
instance (l : List Tk) (s : Pt) : Decidable (CanW l s) := by unfold CanW; infer_instance

def goT (l : List Tk) (s : Pt) (k : Int) : Pt :=
  if k = 3 ∧ CanD l s then (s.1, s.2.1 + 1, s.2.2) else if k = 2 ∧ CanW l s then (s.1, s.2.1, s.2.2 + 1) else s

def stepT (l : List Tk) (s : Pt) (k : Int) : Pt := pastT l (goT l s k)

theorem go_near {l : List Tk} {s : Pt} (h : Fits l s) (k : Int) : Near l (goT l s k) := by
  have hn := h.near
  unfold goT
  by_cases h1 : k = 3 ∧ CanD l s
  · rw [if_pos h1]
    obtain ⟨_, c1, c2⟩ := h1
    obtain ⟨n1, n2, n3, n4⟩ := hn
    have n4 := n4 c1
    refine ⟨n1, n2, fun e => ?_, fun _ => ?_⟩
    · simp only at e; omega
    · simp only
      refine ⟨by omega, by omega, n4.2.2.1, n4.2.2.2.1, Or.inl ?_⟩
      omega
  · rw [if_neg h1]
    by_cases h2 : k = 2 ∧ CanW l s
    · rw [if_pos h2]
      obtain ⟨_, c1, c2, c3⟩ := h2
      obtain ⟨n1, n2, n3, n4⟩ := hn
      have n4 := n4 c1
      refine ⟨n1, n2, fun e => ?_, fun _ => ?_⟩
      · simp only at e; omega
      · exact ⟨n4.1, n4.2.1, by simp only; omega, by simp only; omega, Or.inr c2⟩
    · rw [if_neg h2]
      exact hn

theorem step_fits {l : List Tk} (ok : ∀ t ∈ l, TkOk t) {s : Pt} (h : Fits l s) (k : Int) : Fits l (stepT l s k) := pastT_fits ok (go_near h k)

theorem step_left {l : List Tk} {s : Pt} (h : Fits l s) (k : Int) :
    leftT l (stepT l s k) = if k = 3 ∧ CanD l s then ((leftT l s).1 - 1, (leftT l s).2) else if k = 2 ∧ CanW l s then ((leftT l s).1, (leftT l s).2 - 1) else leftT l s := by
  unfold stepT
  rw [pastT_left (go_near h k).1]
  unfold goT
  split
  · unfold leftT; ext <;> simp <;> omega
  · split
    · unfold leftT; ext <;> simp <;> omega
    · rfl

theorem step_still {l : List Tk} {s : Pt} (h : Fits l s) {k : Int} (h1 : ¬ (k = 3 ∧ CanD l s)) (h2 : ¬ (k = 2 ∧ CanW l s)) : stepT l s k = s := by
  unfold stepT goT
  rw [if_neg h1, if_neg h2]
  exact pastT_still h.not_full

/-- Nothing is left just if all is done. -/
theorem sum_pos {l : List Tk} (ok : ∀ t ∈ l, TkOk t) : 0 ≤ sumD l ∧ 0 ≤ sumS l := by
  induction l with
  | nil => exact ⟨Int.le_refl _, Int.le_refl _⟩
  | cons t l ih =>
    have h1 := ok t (List.mem_cons_self ..)
    have h2 := ih fun u hu => ok u (List.mem_cons_of_mem _ hu)
    unfold sumD sumS at *
    simp only [List.map_cons, List.sum_cons]
    unfold TkOk at h1
    omega

theorem left_none {l : List Tk} (ok : ∀ t ∈ l, TkOk t) {s : Pt} (h : Fits l s) : 0 ≤ (leftT l s).1 ∧ 0 ≤ (leftT l s).2 ∧ ((leftT l s).1 + (leftT l s).2 = 0 ↔ s.1 = l.length) := by
  obtain ⟨h1, h2, h3, h4⟩ := h
  by_cases he : s.1 = l.length
  · obtain ⟨e1, e2⟩ := h3 he
    have hd : l.drop s.1.toNat = [] := by rw [List.drop_eq_nil_iff]; omega
    unfold leftT
    rw [hd, e1, e2]
    simp [sumD, sumS, he]
  · have hlt : s.1 < l.length := by omega
    obtain ⟨f1, f2, f3, f4, f5, f6⟩ := h4 hlt
    have sp := sum_pos (l := l.drop (s.1 + 1).toNat) fun u hu => ok u (List.mem_of_mem_drop hu)
    unfold leftT
    rw [tk_drop h1 hlt]
    unfold sumD sumS at *
    simp only [List.map_cons, List.sum_cons]
    refine ⟨by omega, by omega, fun e => ?_, fun e => absurd e he⟩
    exact absurd ⟨by omega, by omega⟩ f6

end Go.Proofs.Ythgieanhlmnneaa
