/- Triples in order, and triples as a heap lays them, in plain words. Conditions: none beyond each lemma's own premises. -/
import Derived.Test.YtpfmkggnnilknaaRecMath
import Derived.Test.YtpfmkggnnilknaaTriLt
namespace Go.Proofs.Ytpfmkggnnilknaa

/-! ### Lists in order -/

def Srt (s : List Rc) : Prop := s.Pairwise fun x y => ¬ ltF y x

/-- A list in order with one more. -/
def ins (x : Rc) : List Rc → List Rc
  | [] => [x]
  | y :: s => if ltF x y then x :: y :: s else y :: ins x s

/-- A list in order. -/
def srt (l : List Rc) : List Rc := l.foldl (fun s x => ins x s) []

theorem srt_nil : srt [] = [] := rfl
theorem srt_snoc (l : List Rc) (x : Rc) : srt (l ++ [x]) = ins x (srt l) := by simp [srt]

theorem ins_perm (x : Rc) : ∀ s : List Rc, (ins x s).Perm (x :: s)
  | [] => List.Perm.refl _
  | y :: s => by
    unfold ins
    split
    · exact List.Perm.refl _
    · exact ((ins_perm x s).cons y).trans (List.Perm.swap x y s)

theorem ins_len (x : Rc) (s : List Rc) : (ins x s).length = s.length + 1 := by simpa using (ins_perm x s).length_eq

theorem ins_srt (x : Rc) : ∀ {s : List Rc}, Srt s → Srt (ins x s)
  | [], _ => by simp [ins, Srt]
  | y :: s, h => by
    obtain ⟨h1, h2⟩ := List.pairwise_cons.1 h
    unfold ins
    split
    · rename_i hx
      refine List.pairwise_cons.2 ⟨fun z hz => ?_, h⟩
      rcases List.mem_cons.1 hz with rfl | hz
      · exact ltF_as hx
      · exact fun k => h1 z hz (ltF_tr k hx)
    · rename_i hx
      refine List.pairwise_cons.2 ⟨fun z hz => ?_, ins_srt x h2⟩
      rcases List.mem_cons.1 ((ins_perm x s).mem_iff.1 hz) with rfl | hz
      · exact hx
      · exact h1 z hz

theorem srt_facts (l : List Rc) : Srt (srt l) ∧ (srt l).Perm l := by
  have go : ∀ (l s : List Rc), Srt s → Srt (l.foldl (fun s x => ins x s) s) ∧ (l.foldl (fun s x => ins x s) s).Perm (s ++ l) := by
    intro l
    induction l with
    | nil => intro s h; exact ⟨h, by simp⟩
    | cons x l ih =>
      intro s h
      obtain ⟨h1, h2⟩ := ih (ins x s) (ins_srt x h)
      refine ⟨h1, h2.trans ?_⟩
      exact ((ins_perm x s).append_right l).trans (List.perm_middle.symm)
  exact ⟨(go l [] List.Pairwise.nil).1, by have := (go l [] List.Pairwise.nil).2; simp only [List.nil_append] at this; exact this⟩

theorem srt_srt (l : List Rc) : Srt (srt l) := (srt_facts l).1
theorem srt_perm (l : List Rc) : (srt l).Perm l := (srt_facts l).2
theorem srt_len (l : List Rc) : (srt l).length = l.length := (srt_perm l).length_eq

theorem srt_unique : ∀ {r s : List Rc}, Srt r → Srt s → r.Perm s → r = s
  | [], s, _, _, h => (List.Perm.nil_eq h)
  | x :: r, [], _, _, h => absurd h.length_eq (by simp)
  | x :: r, y :: s, hr, hs, h => by
    obtain ⟨hx, hr2⟩ := List.pairwise_cons.1 hr
    obtain ⟨hy, hs2⟩ := List.pairwise_cons.1 hs
    have e : x = y := by
      refine ltF_tot (fun k => ?_) (fun k => ?_)
      · rcases List.mem_cons.1 (h.mem_iff.1 (List.mem_cons_self ..)) with e | h1
        · subst e; exact ltF_irr _ k
        · exact hy x h1 k
      · rcases List.mem_cons.1 (h.mem_iff.2 (List.mem_cons_self ..)) with e | h1
        · subst e; exact ltF_irr _ k
        · exact hx y h1 k
    subst e
    rw [srt_unique hr2 hs2 (List.Perm.cons_inv h)]

theorem srt_is {s l : List Rc} (h : Srt s) (hp : s.Perm l) : s = srt l := srt_unique h (srt_srt l) (hp.trans (srt_perm l).symm)

theorem Srt.tail {x : Rc} {s : List Rc} (h : Srt (x :: s)) : Srt s := (List.pairwise_cons.1 h).2
theorem Srt.drop {s : List Rc} (h : Srt s) (k : Nat) : Srt (s.drop k) := List.Pairwise.drop h
theorem Srt.take {s : List Rc} (h : Srt s) (k : Nat) : Srt (s.take k) := List.Pairwise.take h

/-- Where one more goes: behind all that it is not ahead of. -/
theorem ins_at (x : Rc) : ∀ (s : List Rc) (k : Nat), k ≤ s.length → (∀ j, j < k → ¬ ltF x (s.getD j rz)) → (k < s.length → ltF x (s.getD k rz)) → ins x s = s.take k ++ x :: s.drop k
  | [], k, h, _, _ => by
    have : k = 0 := by simpa using h
    subst this; rfl
  | y :: s, 0, _, _, h => by
    have h1 := h (by simp)
    simp at h1
    simp [ins, h1]
  | y :: s, k + 1, hk, hn, h => by
    have h0 : ¬ ltF x y := by simpa using hn 0 (by omega)
    unfold ins
    rw [if_neg h0, ins_at x s k (by simpa using hk) (fun j hj => by simpa using hn (j + 1) (by omega)) (fun hl => by simpa using h (by simpa using hl))]
    rfl

/-! ### Two that change places -/

def sw (l : List Rc) (i j : Nat) : List Rc := (l.set i (l.getD j rz)).set j (l.getD i rz)

theorem sw_len (l : List Rc) (i j : Nat) : (sw l i j).length = l.length := by simp [sw]

theorem sw_perm (l : List Rc) {i j : Nat} (hi : i < l.length) (hj : j < l.length) : (sw l i j).Perm l := by
  have e1 : l.getD j rz = l[j] := by simp [List.getD, hj]
  have e2 : l.getD i rz = l[i] := by simp [List.getD, hi]
  unfold sw
  rw [e1, e2]
  exact List.set_set_perm hi hj

theorem sw_get (l : List Rc) {i j : Nat} (hi : i < l.length) (hj : j < l.length) (k : Nat) : (sw l i j).getD k rz = if k = j then l.getD i rz else if k = i then l.getD j rz else l.getD k rz := by
  unfold sw
  simp only [List.getD_eq_getElem?_getD, List.getElem?_set, List.length_set]
  by_cases h1 : k = j
  · subst h1; simp [hj]
  · rw [if_neg (fun e => h1 e.symm), if_neg h1]
    by_cases h2 : k = i
    · subst h2; simp [hi]
    · rw [if_neg (fun e => h2 e.symm), if_neg h2]

theorem sw_take (l : List Rc) {i j n : Nat} (h1 : n ≤ i) (h2 : n ≤ j) : (sw l i j).take n = l.take n := by
  unfold sw
  rw [List.take_set_of_le h2, List.take_set_of_le h1]

/-! ### A heap, and what stands against it at one place -/

/-- Of the first n none is ahead of the one that it hangs on, if that one stands at s or behind. -/
def HpT (s n : Nat) (l : List Rc) : Prop := ∀ k, 0 < k → k < n → s ≤ (k - 1) / 2 → ¬ ltF (l.getD k rz) (l.getD ((k - 1) / 2) rz)
def HpL (l : List Rc) : Prop := HpT 0 l.length l

theorem HpT.head {n : Nat} {l : List Rc} (h : HpT 0 n l) : ∀ k, k < n → ¬ ltF (l.getD k rz) (l.getD 0 rz) := by
  intro k
  induction k using Nat.strongRecOn with
  | _ k ih =>
    intro hk
    rcases Nat.eq_zero_or_pos k with rfl | h0
    · exact ltF_irr _
    · exact ltF_nt (h k h0 hk (Nat.zero_le _)) (ih ((k - 1) / 2) (by omega) (by omega))

theorem HpT.mono {s m n : Nat} {l : List Rc} (h : HpT s n l) (hm : m ≤ n) : HpT s m l := fun k h0 hk hs => h k h0 (by omega) hs

theorem HpT.same {s n : Nat} {l l' : List Rc} (h : HpT s n l) (e : ∀ k, k < n → l'.getD k rz = l.getD k rz) : HpT s n l' := fun k h0 hk hs => by
  rw [e k hk, e ((k - 1) / 2) (by omega)]; exact h k h0 hk hs

theorem HpT.none {s n : Nat} (l : List Rc) (h : n ≤ 2 * s + 1) : HpT s n l := fun k h0 hk hs => by omega

/-- What may stand against it at i, on the way down. -/
def DnI (s n i : Nat) (l : List Rc) : Prop := s ≤ i ∧ (∀ k, 0 < k → k < n → s ≤ (k - 1) / 2 → (k - 1) / 2 ≠ i → ¬ ltF (l.getD k rz) (l.getD ((k - 1) / 2) rz)) ∧
  (∀ k, 0 < k → k < n → (k - 1) / 2 = i → 0 < i → s ≤ (i - 1) / 2 → ¬ ltF (l.getD k rz) (l.getD ((i - 1) / 2) rz))

theorem DnI.start {s n : Nat} {l : List Rc} (h : HpT (s + 1) n l) : DnI s n s l := ⟨Nat.le_refl _, fun k h0 hk hs hne => h k h0 hk (by omega), fun k h0 hk e h1 h2 => by omega⟩

/-- Of a heap of which the first one was changed. -/
theorem DnI.first {n : Nat} {l l' : List Rc} (h : HpT 0 n l) (e : ∀ k, 0 < k → k < n → l'.getD k rz = l.getD k rz) : DnI 0 n 0 l' := ⟨Nat.le_refl _, fun k h0 hk hs hne => by
  rw [e k h0 hk, e ((k - 1) / 2) (by omega) (by omega)]; exact h k h0 hk hs, fun k h0 hk e h1 h2 => by omega⟩

theorem DnI.done {s n i : Nat} {l : List Rc} (h : DnI s n i l) (hc : ∀ k, 0 < k → k < n → (k - 1) / 2 = i → ¬ ltF (l.getD k rz) (l.getD i rz)) : HpT s n l := fun k h0 hk hs => by
  by_cases e : (k - 1) / 2 = i
  · rw [e]; exact hc k h0 hk e
  · exact h.2.1 k h0 hk hs e

theorem DnI.step {s n i j : Nat} {l : List Rc} (h : DnI s n i l) (hn : n ≤ l.length) (h0 : 0 < j) (hj : j < n) (hp : (j - 1) / 2 = i) (hlt : ltF (l.getD j rz) (l.getD i rz))
    (hc : ∀ k, 0 < k → k < n → (k - 1) / 2 = i → ¬ ltF (l.getD k rz) (l.getD j rz)) : DnI s n j (sw l i j) := by
  obtain ⟨h1, h2, h3⟩ := h
  have hi : i < l.length := by omega
  have hjl : j < l.length := by omega
  have G := sw_get l hi hjl
  refine ⟨by omega, fun k k0 hk hs hne => ?_, fun k k0 hk e j0 hs => ?_⟩
  · by_cases ej : k = j
    · subst ej
      rw [hp] at hne ⊢
      rw [G, G, if_pos rfl, if_neg (by omega), if_pos rfl]
      exact ltF_as hlt
    · by_cases ep : (k - 1) / 2 = i
      · rw [ep, G, G, if_neg ej, if_neg (by omega), if_neg (by omega), if_pos rfl]
        exact hc k k0 hk ep
      · by_cases ek : k = i
        · subst ek
          rw [G, G, if_neg ej, if_pos rfl, if_neg hne, if_neg (by omega)]
          exact h3 j h0 hj hp k0 hs
        · rw [G, G, if_neg ej, if_neg ek, if_neg hne, if_neg ep]
          exact h2 k k0 hk hs ep
  · have := h2 k k0 hk (by omega) (by omega)
    rw [hp, G, G, if_neg (by omega), if_neg (by omega), if_neg (by omega), if_pos rfl]
    rw [e] at this
    exact this

/-- What may stand against it at j, on the way up. -/
def UpI (n j : Nat) (l : List Rc) : Prop := (∀ k, 0 < k → k < n → k ≠ j → ¬ ltF (l.getD k rz) (l.getD ((k - 1) / 2) rz)) ∧ (∀ k, 0 < k → k < n → (k - 1) / 2 = j → 0 < j → ¬ ltF (l.getD k rz) (l.getD ((j - 1) / 2) rz))

theorem UpI.start {l : List Rc} (x : Rc) (h : HpL l) : UpI (l.length + 1) l.length (l ++ [x]) := by
  have e : ∀ k, k < l.length → (l ++ [x]).getD k rz = l.getD k rz := fun k hk => by simp [List.getD, List.getElem?_append_left hk]
  refine ⟨fun k k0 hk hne => ?_, fun k k0 hk e h0 => by omega⟩
  rw [e k (by omega), e ((k - 1) / 2) (by omega)]
  exact h k k0 (by omega) (Nat.zero_le _)

theorem UpI.done {n j : Nat} {l : List Rc} (h : UpI n j l) (hc : 0 < j → ¬ ltF (l.getD j rz) (l.getD ((j - 1) / 2) rz)) : HpT 0 n l := fun k k0 hk _ => by
  by_cases e : k = j
  · subst e; exact hc k0
  · exact h.1 k k0 hk e

theorem UpI.step {n i j : Nat} {l : List Rc} (h : UpI n j l) (hn : n ≤ l.length) (h0 : 0 < j) (hj : j < n) (hp : (j - 1) / 2 = i) (hlt : ltF (l.getD j rz) (l.getD i rz)) : UpI n i (sw l i j) := by
  obtain ⟨h1, h2⟩ := h
  have hi : i < l.length := by omega
  have hjl : j < l.length := by omega
  have G := sw_get l hi hjl
  refine ⟨fun k k0 hk hne => ?_, fun k k0 hk e i0 => ?_⟩
  · by_cases ej : k = j
    · subst ej
      rw [hp, G, G, if_pos rfl, if_neg (by omega), if_pos rfl]
      exact ltF_as hlt
    · by_cases ep : (k - 1) / 2 = i
      · have := h1 k k0 hk ej
        rw [ep] at this ⊢
        rw [G, G, if_neg ej, if_neg hne, if_neg (by omega), if_pos rfl]
        exact fun c => this (ltF_tr c hlt)
      · by_cases eq : (k - 1) / 2 = j
        · have := h2 k k0 hk eq h0
          rw [hp] at this
          rw [eq, G, G, if_neg ej, if_neg hne, if_pos rfl]
          exact this
        · rw [G, G, if_neg ej, if_neg hne, if_neg eq, if_neg ep]
          exact h1 k k0 hk ej
  · have hi1 := h1 i i0 (by omega) (by omega)
    rw [G, G, if_neg (show ¬ (i - 1) / 2 = j by omega), if_neg (show ¬ (i - 1) / 2 = i by omega)]
    by_cases ej : k = j
    · rw [if_pos ej]; exact hi1
    · rw [if_neg ej, if_neg (by omega)]
      have := h1 k k0 hk ej
      rw [e] at this
      exact ltF_nt this hi1

/-- The first one of a heap is the first one in order. -/
theorem head_is {l s : List Rc} {y : Rc} (h : HpL l) (hs : Srt (y :: s)) (hp : (y :: s).Perm l) : l.getD 0 rz = y := by
  have hl : 0 < l.length := by rw [← hp.length_eq]; simp
  have e : l.getD 0 rz = l[0] := by simp [List.getD, hl]
  have m0 : l[0] ∈ y :: s := hp.mem_iff.2 (List.getElem_mem _)
  have my : y ∈ l := hp.mem_iff.1 (List.mem_cons_self ..)
  obtain ⟨k, hk, ek⟩ := List.mem_iff_getElem.1 my
  have h1 := HpT.head h k hk
  rw [e] at h1 ⊢
  have e2 : l.getD k rz = y := by simp [List.getD, hk, ek]
  rw [e2] at h1
  rcases List.mem_cons.1 m0 with e3 | m1
  · exact e3
  · exact ltF_tot ((List.pairwise_cons.1 hs).1 _ m1) h1

/-- What is in order doesn't fall. -/
theorem srt_le {s : List Rc} (h : Srt s) {i j : Nat} (hij : i < j) (hj : j < s.length) : ¬ ltF (s.getD j rz) (s.getD i rz) := by
  have hi : i < s.length := by omega
  have e1 : s.getD j rz = s[j] := by simp [List.getD, hj]
  have e2 : s.getD i rz = s[i] := by simp [List.getD, hi]
  rw [e1, e2]
  exact List.pairwise_iff_getElem.1 h i j hi hj hij

/-- How often p is there. -/
def cnt (p : Rc) (l : List Rc) : Nat := l.countP fun q => decide (q = p)

theorem cnt_perm {l l' : List Rc} (h : l.Perm l') (p : Rc) : cnt p l = cnt p l' := h.countP_eq _
theorem cnt_le (p : Rc) (l : List Rc) : cnt p l ≤ l.length := List.countP_le_length
theorem cnt_step {s : List Rc} {m : Nat} {q : Rc} (p : Rc) (hm : m < s.length) (h : s.getD m rz = q) : cnt p (s.take (m + 1)) = cnt p (s.take m) + if q = p then 1 else 0 := by
  have e : s[m] = q := by rw [← h]; simp [List.getD, hm]
  unfold cnt
  rw [← List.take_append_getElem hm, List.countP_append, e]
  by_cases hq : q = p <;> simp [hq]

end Go.Proofs.Ytpfmkggnnilknaa
