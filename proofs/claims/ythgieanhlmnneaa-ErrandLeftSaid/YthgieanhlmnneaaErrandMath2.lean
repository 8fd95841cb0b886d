/- Tasks in plain words, part two: what is wrong with tasks and a spot, and minutes one behind the other, with the first ones that break clauses. Conditions: none beyond each lemma's own premises. -/
import Derived.Test.YthgieanhlmnneaaErrandMath
import Derived.Test.YthgieanhlmnneaaErrandHeap
import Derived.Test.YthgieanhlmnneaaRecMath
namespace Go.Proofs.Ythgieanhlmnneaa

theorem task_low {d v : Int} {o : List Sp} (h : d < 0 ∨ 10080 < d ∨ v < 0 ∨ 1440 < v) : taskV (d, v, o) = 4 := by unfold taskV; rw [if_pos h]
theorem task_win {d v : Int} {o : List Sp} (h : ¬ (d < 0 ∨ 10080 < d ∨ v < 0 ∨ 1440 < v)) (hv : 0 < v) : taskV (d, v, o) = checkW o := by
  unfold taskV; rw [if_neg h]; simp only; rw [if_pos hv]
theorem task_arg {d v : Int} {o : List Sp} (h : ¬ (d < 0 ∨ 10080 < d ∨ v < 0 ∨ 1440 < v)) (hv : ¬ 0 < v) (ho : 0 < o.length) : taskV (d, v, o) = 1 := by
  unfold taskV; rw [if_neg h]; simp only; rw [if_neg hv, if_neg (by rintro rfl; cases ho)]
theorem task_ok {d v : Int} {o : List Sp} (h : ¬ (d < 0 ∨ 10080 < d ∨ v < 0 ∨ 1440 < v)) (hv : ¬ 0 < v) (ho : ¬ 0 < o.length) : taskV (d, v, o) = 0 := by
  unfold taskV; rw [if_neg h]; simp only; rw [if_neg hv, if_pos (List.eq_nil_of_length_eq_zero (by omega))]

theorem task_right {t : Tk} (h : taskV t = 0) : TkOk t := by
  unfold taskV at h
  unfold TkOk
  split at h
  · cases h
  · rename_i hn; omega

/-- The first task that is wrong, by the error's number. -/
def firstT : List Tk → Int
  | [] => 0
  | t :: l => if taskV t = 0 then firstT l else taskV t

def checkT (l : List Tk) : Int := if 2001 < l.length then 12 else firstT l

theorem first_at : ∀ {l : List Tk} {k : Nat} {e : Int}, k < l.length → (∀ j, j < k → taskV (l.getD j tz) = 0) → taskV (l.getD k tz) = e → e ≠ 0 → firstT l = e
  | t :: l, 0, e, _, _, he, hne => by
    have h1 : taskV t = e := he
    unfold firstT; rw [if_neg (by rw [h1]; exact hne), h1]
  | t :: l, k + 1, e, hk, h, he, hne => by
    have h0 : taskV t = 0 := h 0 (by omega)
    unfold firstT; rw [if_pos h0]
    exact first_at (by simpa using hk) (fun j hj => by have := h (j + 1) (by omega); simpa using this) (by simpa using he) hne

theorem first_none : ∀ {l : List Tk}, (∀ j, j < l.length → taskV (l.getD j tz) = 0) → firstT l = 0
  | [], _ => rfl
  | t :: l, h => by
    have h0 : taskV t = 0 := h 0 (by simp)
    unfold firstT; rw [if_pos h0]
    exact first_none fun j hj => by have := h (j + 1) (by simpa using hj); simpa using this

theorem first_zero : ∀ {l : List Tk}, firstT l = 0 → ∀ t ∈ l, TkOk t
  | t :: l, h, u, hu => by
    unfold firstT at h
    by_cases h0 : taskV t = 0
    · rw [if_pos h0] at h
      rcases List.mem_cons.1 hu with rfl | hu
      · exact task_right h0
      · exact first_zero h u hu
    · rw [if_neg h0] at h; exact absurd h h0

theorem checkt_many {l : List Tk} (h : 2001 < l.length) : checkT l = 12 := if_pos h
theorem checkt_at {l : List Tk} {k : Nat} {e : Int} (h0 : ¬ 2001 < l.length) (hk : k < l.length) (h : ∀ j, j < k → taskV (l.getD j tz) = 0) (he : taskV (l.getD k tz) = e) (hne : e ≠ 0) : checkT l = e := by
  unfold checkT; rw [if_neg h0]; exact first_at hk h he hne
theorem checkt_none {l : List Tk} (h0 : ¬ 2001 < l.length) (h : ∀ j, j < l.length → taskV (l.getD j tz) = 0) : checkT l = 0 := by
  unfold checkT; rw [if_neg h0]; exact first_none h
theorem checkt_zero {l : List Tk} (h : checkT l = 0) : (∀ t ∈ l, TkOk t) ∧ l.length ≤ 2001 := by
  unfold checkT at h
  by_cases h0 : 2001 < l.length
  · rw [if_pos h0] at h; cases h
  · rw [if_neg h0] at h; exact ⟨first_zero h, by omega⟩

/-- What is wrong with the tasks, or with the spot. -/
def spotV (l : List Tk) (s : Pt) : Int := if checkT l = 0 then (if Fits l s then 0 else 1) else checkT l

theorem spot_bad {l : List Tk} {s : Pt} {e : Int} (h : checkT l = e) (hne : e ≠ 0) : spotV l s = e := by unfold spotV; rw [h, if_neg hne]
theorem spot_no {l : List Tk} {s : Pt} (h : checkT l = 0) (hf : ¬ Fits l s) : spotV l s = 1 := by unfold spotV; rw [if_pos h, if_neg hf]
theorem spot_yes {l : List Tk} {s : Pt} (h : checkT l = 0) (hf : Fits l s) : spotV l s = 0 := by unfold spotV; rw [if_pos h, if_pos hf]
theorem spot_zero {l : List Tk} {s : Pt} (h : spotV l s = 0) : checkT l = 0 ∧ Fits l s := by
  unfold spotV at h
  by_cases h0 : checkT l = 0
  · rw [if_pos h0] at h
    by_cases h1 : Fits l s
    · exact ⟨h0, h1⟩
    · rw [if_neg h1] at h; cases h
  · rw [if_neg h0] at h; exact absurd h h0

theorem fits_start {l : List Tk} (ok : ∀ t ∈ l, TkOk t) : Near l (0, 0, 0) :=
  ⟨Int.le_refl _, by simp, fun _ => ⟨rfl, rfl⟩, fun k => by
    have := ok _ (tk_mem (l := l) (i := 0) (Int.le_refl _) k)
    exact ⟨Int.le_refl _, this.1, Int.le_refl _, this.2.2.1, Or.inl rfl⟩⟩

/-! ### Minutes, one behind the other -/

/-- The first minutes that break ClDrive, ClWork, ClOpen, ClServe (or -1). -/
abbrev Fs := Int × Int × Int × Int

def noteF (f : Int) (b : Bool) (m : Int) : Int := if b = true ∧ f < 0 then m else f

theorem note_no (f m : Int) : noteF f false m = f := by unfold noteF; rw [if_neg (by simp)]
theorem note_old {f : Int} (h : 0 ≤ f) (b : Bool) (m : Int) : noteF f b m = f := by unfold noteF; rw [if_neg (by omega)]
theorem note_again (f : Int) (b : Bool) (m : Int) : noteF (noteF f b m) b m = noteF f b m := by
  unfold noteF; repeat' split
  all_goals first | rfl | omega
theorem note_set {f m : Int} (hm : 0 ≤ m) : 0 ≤ noteF f true m := by unfold noteF; split <;> simp_all

def b0 (l : List Tk) (s : Pt) (k : Int) : Bool := decide (k = 3 ∧ ¬ CanD l s)
def b1 (l : List Tk) (s : Pt) (k : Int) : Bool := decide (k = 2 ∧ ¬ CanW l s)
def b2 (l : List Tk) (s : Pt) (m k : Int) : Bool := decide (k = 2 ∧ CanW l s ∧ s.2.2 = 0 ∧ hasL (tk l s.1).2.2 m = false)
def b3 (s : Pt) (k : Int) : Bool := decide (0 < s.2.2 ∧ k ≠ 2)

/-- One minute m of kind k. -/
def minT (l : List Tk) (k m : Int) (st : Pt × Fs) : Pt × Fs :=
  (stepT l st.1 k, noteF st.2.1 (b0 l st.1 k) m, noteF st.2.2.1 (b1 l st.1 k) m, noteF st.2.2.2.1 (b2 l st.1 m k) m, noteF st.2.2.2.2 (b3 st.1 k) m)

/-- n minutes of kind k, from m on. -/
def runK (l : List Tk) (k : Int) : Nat → Int → Pt × Fs → Pt × Fs
  | 0, _, st => st
  | n + 1, m, st => runK l k n (m + 1) (minT l k m st)

theorem runK_add (l : List Tk) (k : Int) : ∀ (a b : Nat) (m : Int) (st : Pt × Fs), runK l k (a + b) m st = runK l k b (m + a) (runK l k a m st)
  | 0, b, m, st => by simp [runK]
  | a + 1, b, m, st => by
    have e : a + 1 + b = (a + b) + 1 := by omega
    rw [e]
    show runK l k (a + b) (m + 1) (minT l k m st) = runK l k b (m + (a + 1 : Nat)) (runK l k a (m + 1) (minT l k m st))
    rw [runK_add l k a b]
    congr 1; omega

theorem runK_snoc (l : List Tk) (k : Int) (n : Nat) (m : Int) (st : Pt × Fs) : runK l k (n + 1) m st = minT l k (m + n) (runK l k n m st) := by
  rw [runK_add]; rfl

theorem runK_fits {l : List Tk} (ok : ∀ t ∈ l, TkOk t) (k : Int) : ∀ (n : Nat) (m : Int) (st : Pt × Fs), Fits l st.1 → Fits l (runK l k n m st).1
  | 0, _, _, h => h
  | n + 1, m, st, h => runK_fits ok k n (m + 1) (minT l k m st) (step_fits ok h k)

/-- What is broken off is so with the first minute. -/
theorem runK_pre (l : List Tk) (k : Int) (n : Nat) (m : Int) (s : Pt) (f0 f1 f2 f3 : Int) : runK l k (n + 1) m (s, f0, f1, f2, noteF f3 (b3 s k) m) = runK l k (n + 1) m (s, f0, f1, f2, f3) := by
  unfold runK minT
  simp only [note_again]

theorem min_still {l : List Tk} {s : Pt} (h : Fits l s) {k m : Int} {f0 f1 f2 f3 : Int} (hd : k = 3 → ¬ CanD l s) (hw : k = 2 → ¬ CanW l s) (h0 : k = 3 → 0 ≤ f0) (h1 : k = 2 → 0 ≤ f1) (h3 : k ≠ 2 → 0 < s.2.2 → 0 ≤ f3) :
    minT l k m (s, f0, f1, f2, f3) = (s, f0, f1, f2, f3) := by
  unfold minT
  simp only
  rw [step_still h (fun c => hd c.1 c.2) (fun c => hw c.1 c.2)]
  have e0 : noteF f0 (b0 l s k) m = f0 := by
    by_cases hk : k = 3
    · exact note_old (h0 hk) _ _
    · have : b0 l s k = false := by unfold b0; simp [hk]
      rw [this, note_no]
  have e1 : noteF f1 (b1 l s k) m = f1 := by
    by_cases hk : k = 2
    · exact note_old (h1 hk) _ _
    · have : b1 l s k = false := by unfold b1; simp [hk]
      rw [this, note_no]
  have e2 : noteF f2 (b2 l s m k) m = f2 := by
    have : b2 l s m k = false := by unfold b2; rw [decide_eq_false]; exact fun c => hw c.1 c.2.1
    rw [this, note_no]
  have e3 : noteF f3 (b3 s k) m = f3 := by
    by_cases hc : 0 < s.2.2 ∧ k ≠ 2
    · exact note_old (h3 hc.2 hc.1) _ _
    · have : b3 s k = false := by unfold b3; exact decide_eq_false hc
      rw [this, note_no]
  rw [e0, e1, e2, e3]

theorem runK_still {l : List Tk} {s : Pt} (h : Fits l s) {k : Int} {f0 f1 f2 f3 : Int} (hd : k = 3 → ¬ CanD l s) (hw : k = 2 → ¬ CanW l s) (h0 : k = 3 → 0 ≤ f0) (h1 : k = 2 → 0 ≤ f1) (h3 : k ≠ 2 → 0 < s.2.2 → 0 ≤ f3) :
    ∀ (n : Nat) (m : Int), runK l k n m (s, f0, f1, f2, f3) = (s, f0, f1, f2, f3)
  | 0, _ => rfl
  | n + 1, m => by
    unfold runK
    rw [min_still h hd hw h0 h1 h3]
    exact runK_still h hd hw h0 h1 h3 n (m + 1)

/-- Rests. -/
theorem runK_rest {l : List Tk} {s : Pt} (h : Fits l s) {k : Int} {f0 f1 f2 f3 : Int} (hd : k ≠ 3) (hw : k ≠ 2) (h3 : 0 < s.2.2 → 0 ≤ f3) (n : Nat) (m : Int) :
    runK l k n m (s, f0, f1, f2, f3) = (s, f0, f1, f2, f3) :=
  runK_still h (fun c => absurd c hd) (fun c => absurd c hw) (fun c => absurd c hd) (fun c => absurd c hw) (fun _ => h3) n m

/-- Driving where there is none to do. -/
theorem runK_nodrive {l : List Tk} {s : Pt} (h : Fits l s) {f0 f1 f2 f3 : Int} (hd : ¬ CanD l s) (h3 : 0 < s.2.2 → 0 ≤ f3) {m : Int} (hm : 0 ≤ m) (n : Nat) :
    runK l 3 (n + 1) m (s, f0, f1, f2, f3) = (s, noteF f0 true m, f1, f2, f3) := by
  unfold runK
  have e : minT l 3 m (s, f0, f1, f2, f3) = (s, noteF f0 true m, f1, f2, f3) := by
    unfold minT
    simp only
    rw [step_still h (fun c => hd c.2) (fun c => absurd c.1 (by decide))]
    have e0 : b0 l s 3 = true := by unfold b0; simp [hd]
    have e1 : b1 l s 3 = false := by unfold b1; simp
    have e2 : b2 l s m 3 = false := by unfold b2; simp
    rw [e0, e1, e2, note_no, note_no]
    by_cases hc : 0 < s.2.2
    · rw [note_old (h3 hc)]
    · have : b3 s 3 = false := by unfold b3; exact decide_eq_false fun k => hc k.1
      rw [this, note_no]
  rw [e]
  exact runK_still h (fun _ => hd) (fun c => absurd c (by decide)) (fun _ => note_set hm) (fun c => absurd c (by decide)) (fun _ => h3) n _

/-- Work where there is none to do. -/
theorem runK_nowork {l : List Tk} {s : Pt} (h : Fits l s) {f0 f1 f2 f3 : Int} (hw : ¬ CanW l s) {m : Int} (hm : 0 ≤ m) (n : Nat) :
    runK l 2 (n + 1) m (s, f0, f1, f2, f3) = (s, f0, noteF f1 true m, f2, f3) := by
  unfold runK
  have e : minT l 2 m (s, f0, f1, f2, f3) = (s, f0, noteF f1 true m, f2, f3) := by
    unfold minT
    simp only
    rw [step_still h (fun c => absurd c.1 (by decide)) (fun c => hw c.2)]
    have e0 : b0 l s 2 = false := by unfold b0; simp
    have e1 : b1 l s 2 = true := by unfold b1; simp [hw]
    have e2 : b2 l s m 2 = false := by unfold b2; rw [decide_eq_false]; exact fun c => hw c.2.1
    have e3 : b3 s 2 = false := by unfold b3; simp
    rw [e0, e1, e2, e3, note_no, note_no, note_no]
  rw [e]
  exact runK_still h (fun c => absurd c (by decide)) (fun _ => hw) (fun c => absurd c (by decide)) (fun _ => note_set hm) (fun c => absurd rfl c) n _

theorem fits_undriven {l : List Tk} {s : Pt} (h : Fits l s) (hd : CanD l s) : s.2.2 = 0 := by
  have := (h.2.2.2 hd.1).2.2.2.2.1
  have := hd.2
  omega

/-- One minute of driving. -/
theorem min_drive {l : List Tk} {s : Pt} (h : Fits l s) (hd : CanD l s) (m : Int) (f0 f1 f2 f3 : Int) : minT l 3 m (s, f0, f1, f2, f3) = (pastT l (s.1, s.2.1 + 1, s.2.2), f0, f1, f2, f3) := by
  have hz := fits_undriven h hd
  unfold minT stepT goT
  simp only
  have e0 : b0 l s 3 = false := by unfold b0; simp [hd]
  have e1 : b1 l s 3 = false := by unfold b1; simp
  have e2 : b2 l s m 3 = false := by unfold b2; simp
  have e3 : b3 s 3 = false := by unfold b3; simp [hz]
  rw [e0, e1, e2, e3, note_no, note_no, note_no, note_no, if_pos ⟨trivial, hd⟩]

theorem runK_drive {l : List Tk} (ok : ∀ t ∈ l, TkOk t) : ∀ (n : Nat) {s : Pt} (_ : Fits l s) (_ : CanD l s) (m : Int) (f0 f1 f2 f3 : Int), (n : Int) + 1 ≤ (tk l s.1).1 - s.2.1 →
    runK l 3 (n + 1) m (s, f0, f1, f2, f3) = (pastT l (s.1, s.2.1 + (n + 1), s.2.2), f0, f1, f2, f3)
  | 0, s, h, hd, m, f0, f1, f2, f3, _ => by
    unfold runK runK
    rw [min_drive h hd]
    simp
  | n + 1, s, h, hd, m, f0, f1, f2, f3, hn => by
    unfold runK
    rw [min_drive h hd]
    have hlt : s.2.1 + 1 < (tk l s.1).1 := by omega
    have hnf : ¬ Full l (s.1, s.2.1 + 1, s.2.2) := fun c => by have := c.2.1; simp only at this; omega
    have hf := step_fits ok h 3
    have e : stepT l s 3 = (s.1, s.2.1 + 1, s.2.2) := by
      unfold stepT goT; rw [if_pos ⟨rfl, hd⟩, pastT_still hnf]
    rw [e] at hf
    rw [pastT_still hnf, runK_drive ok n hf ⟨hd.1, hlt⟩ (m + 1) f0 f1 f2 f3 (by simp only; omega)]
    simp only
    congr 2
    ext <;> simp
    omega

/-- One minute of work. -/
theorem min_work {l : List Tk} {s : Pt} (hw : CanW l s) (m : Int) (f0 f1 f2 f3 : Int) :
    minT l 2 m (s, f0, f1, f2, f3) = (pastT l (s.1, s.2.1, s.2.2 + 1), f0, f1, noteF f2 (decide (s.2.2 = 0 ∧ hasL (tk l s.1).2.2 m = false)) m, f3) := by
  unfold minT stepT goT
  simp only
  have e0 : b0 l s 2 = false := by unfold b0; simp
  have e1 : b1 l s 2 = false := by unfold b1; simp [hw]
  have e2 : b2 l s m 2 = decide (s.2.2 = 0 ∧ hasL (tk l s.1).2.2 m = false) := by unfold b2; simp [hw]
  have e3 : b3 s 2 = false := by unfold b3; simp
  rw [e0, e1, e2, e3, note_no, note_no, note_no, if_neg (fun c => absurd c.1 (by decide)), if_pos ⟨trivial, hw⟩]

theorem runK_work {l : List Tk} (ok : ∀ t ∈ l, TkOk t) : ∀ (n : Nat) {s : Pt} (_ : Fits l s) (_ : CanW l s) (m : Int) (f0 f1 f2 f3 : Int), (n : Int) + 1 ≤ (tk l s.1).2.1 - s.2.2 →
    runK l 2 (n + 1) m (s, f0, f1, f2, f3) = (pastT l (s.1, s.2.1, s.2.2 + (n + 1)), f0, f1, noteF f2 (decide (s.2.2 = 0 ∧ hasL (tk l s.1).2.2 m = false)) m, f3)
  | 0, s, h, hw, m, f0, f1, f2, f3, _ => by
    unfold runK runK
    rw [min_work hw]
    simp
  | n + 1, s, h, hw, m, f0, f1, f2, f3, hn => by
    have hs := (h.2.2.2 hw.1).2.2.1
    unfold runK
    rw [min_work hw]
    have hlt : s.2.2 + 1 < (tk l s.1).2.1 := by omega
    have hnf : ¬ Full l (s.1, s.2.1, s.2.2 + 1) := fun c => by have := c.2.2; simp only at this; omega
    have hf := step_fits ok h 2
    have e : stepT l s 2 = (s.1, s.2.1, s.2.2 + 1) := by
      unfold stepT goT; rw [if_neg (fun c => absurd c.1 (by decide)), if_pos ⟨rfl, hw⟩, pastT_still hnf]
    rw [e] at hf
    rw [pastT_still hnf, runK_work ok n hf ⟨hw.1, hw.2.1, hlt⟩ (m + 1) f0 f1 _ f3 (by simp only; omega)]
    simp only
    have e2 : decide (s.2.2 + 1 = 0 ∧ hasL (tk l s.1).2.2 (m + 1) = false) = false := decide_eq_false fun c => by omega
    rw [e2, note_no]
    congr 2
    ext <;> simp
    omega

theorem past_unserved {l : List Tk} : ∀ (n : Nat) (s : Pt), s.2.2 = 0 → (pastN l n s).2.2 = 0
  | 0, _, h => h
  | n + 1, s, h => by
    unfold pastN
    by_cases hf : Full l s
    · rw [if_pos hf]; exact past_unserved n _ rfl
    · rw [if_neg hf]; exact h

theorem pastT_unserved {l : List Tk} {s : Pt} (h : s.2.2 = 0) : (pastT l s).2.2 = 0 := past_unserved _ _ h

/-- What Over answers: the spot, the first minutes, the error. -/
def overV (l : List Tk) (s : Pt) (k a b : Int) : Pt × Fs × Int :=
  if spotV l s = 0 then (if aloneV k a b = 0 then ((runK l k (b - a).toNat a (s, -1, -1, -1, -1)).1, (runK l k (b - a).toNat a (s, -1, -1, -1, -1)).2, 0) else ((0, 0, 0), (0, 0, 0, 0), aloneV k a b)) else ((0, 0, 0), (0, 0, 0, 0), spotV l s)

theorem over_spot {l : List Tk} {s : Pt} {k a b e : Int} (h : spotV l s = e) (hne : e ≠ 0) : overV l s k a b = ((0, 0, 0), (0, 0, 0, 0), e) := by unfold overV; rw [h, if_neg hne]
theorem over_rec {l : List Tk} {s : Pt} {k a b e : Int} (h : spotV l s = 0) (he : aloneV k a b = e) (hne : e ≠ 0) : overV l s k a b = ((0, 0, 0), (0, 0, 0, 0), e) := by unfold overV; rw [if_pos h, he, if_neg hne]
theorem over_ok {l : List Tk} {s n : Pt} {k a b : Int} {f : Fs} (h : spotV l s = 0) (he : aloneV k a b = 0) (hr : runK l k (b - a).toNat a (s, -1, -1, -1, -1) = (n, f)) : overV l s k a b = (n, f, 0) := by unfold overV; rw [if_pos h, if_pos he, hr]

end Go.Proofs.Ythgieanhlmnneaa
