/- Views in plain words: a letter for each kind, a timeline's minutes one by one, spells of a kind. Conditions: none beyond each lemma's own premises. -/
import Derived.Test.YtgmcikajhnnaaaaRecMath
import Derived.Test.YtgmcikajhnnaaaaRecMath2
import Derived.Test.YtgmcikajhnnaaaaIvalsMath
import Derived.Test.YtgmcikajhnnaaaaWeekMath
namespace Go.Proofs.Ytgmcikajhnnaaaa
open Go.RowKit

/-! ### Letters -/

/-- The letter of a kind, as a number; at which place the letters have a byte. -/
def ltN (k : Int) : Int := if k = 0 then 82 else if k = 1 then 65 else if k = 2 then 87 else 68
def idxB (c : Int) : Int := if c = 82 then 0 else if c = 65 then 1 else if c = 87 then 2 else if c = 68 then 3 else -1
def isL (c : Int) : Bool := decide (0 ≤ idxB c)
def kindB (c : Int) : Int := if 0 ≤ idxB c then idxB c else 0

theorem idx_bd (c : Int) : -1 ≤ idxB c ∧ idxB c < 4 := by
  unfold idxB
  repeat' split
  all_goals omega

theorem kindB_bd (c : Int) : 0 ≤ kindB c ∧ kindB c < 4 := by
  have := idx_bd c
  unfold kindB
  split <;> omega

theorem ltN_bd (k : Int) : 0 ≤ ltN k ∧ ltN k ≤ 255 := by
  unfold ltN
  repeat' split
  all_goals omega

theorem idx_lt {k : Int} (h0 : 0 ≤ k) (h1 : k < 4) : idxB (ltN k) = k := by
  have : k = 0 ∨ k = 1 ∨ k = 2 ∨ k = 3 := by omega
  rcases this with rfl | rfl | rfl | rfl <;> decide

theorem lt_idx {c : Int} (h : 0 ≤ idxB c) : ltN (idxB c) = c := by
  unfold idxB at *
  repeat' split
  all_goals first | (subst_vars; decide) | (exfalso; simp_all)

/-- Has the byte that kind? -/
def hasK (k c : Int) : Bool := isL c && decide (kindB c = k)

theorem hasK_letter {k c : Int} (h0 : 0 ≤ k) (h1 : k < 4) : hasK k c = decide (c = ltN k) := by
  unfold hasK isL kindB
  by_cases h : 0 ≤ idxB c
  · rw [decide_eq_true h, if_pos h, Bool.true_and]
    by_cases e : c = ltN k
    · subst e; rw [idx_lt h0 h1]; simp
    · rw [decide_eq_false e, decide_eq_false]
      intro e2
      exact e (by rw [← e2, lt_idx h])
  · rw [decide_eq_false h, Bool.false_and]
    symm
    apply decide_eq_false
    rintro rfl
    rw [idx_lt h0 h1] at h
    omega

theorem hasK_none {k c : Int} (h : ¬ (0 ≤ k ∧ k < 4)) : hasK k c = false := by
  unfold hasK
  have := kindB_bd c
  rw [decide_eq_false (by omega : ¬ kindB c = k), Bool.and_false]

/-- Bytes with the same kind are the same. -/
theorem hasK_same {k b c : Int} (h1 : hasK k b = true) (h2 : hasK k c = true) : b = c := by
  unfold hasK isL kindB at *
  simp only [Bool.and_eq_true, decide_eq_true_eq] at h1 h2
  rw [if_pos h1.1] at h1
  rw [if_pos h2.1] at h2
  rw [← lt_idx h1.1, ← lt_idx h2.1, h1.2, h2.2]

/-- The letters of kinds. -/
def ltB (k : Int) : UInt8 := UInt8.ofNat (ltN k).toNat
def textV (ks : List Int) : ByteArray := ⟨(ks.map ltB).toArray⟩

theorem text_more {ks : List Int} {k : Nat} {x : Int} (h : ks[k]? = some x) : textV (ks.take (k + 1)) = textV (ks.take k) ++ ⟨#[ltB x]⟩ := by
  rw [List.take_add_one, h]
  apply ByteArray.ext
  simp [textV]

theorem text_size (ks : List Int) : (textV ks).size = ks.length := by simp [textV, ByteArray.size]

/-- The kinds of letters; are all letters? -/
def kindsS (s : ByteArray) : List Int := s.data.toList.map fun b => kindB (b.toNat : Int)
def allL (s : ByteArray) : Bool := s.data.toList.all fun b => isL (b.toNat : Int)

theorem kindsS_len (s : ByteArray) : (kindsS s).length = s.size := by simp [kindsS]

theorem bt_get (s : ByteArray) (i : Nat) (h : i < s.size) : s.data.toList[i]? = some (s[i]'h) := by
  have h' : i < s.data.size := h
  rw [Array.getElem?_toList, Array.getElem?_eq_getElem h']
  rfl

theorem bt_at (s : ByteArray) (i : Nat) (h : i < s.size) : ((s[i]'h).toNat : Int) = bt s i := by
  have h' : i < s.data.size := h
  have e : s.data.getD i 0 = s[i]'h := by
    unfold Array.getD
    rw [dif_pos h']
    rfl
  unfold bt
  rw [e]

theorem kindsS_at (s : ByteArray) (i : Nat) (h : i < s.size) : (kindsS s)[i]? = some (kindB (bt s i)) := by
  unfold kindsS
  rw [List.getElem?_map, bt_get s i h, ← bt_at s i h]
  rfl

theorem kindsS_more (s : ByteArray) (i : Nat) (h : i < s.size) : (kindsS s).take (i + 1) = (kindsS s).take i ++ [kindB (bt s i)] := by
  rw [List.take_add_one, kindsS_at s i h]
  rfl

theorem kindsS_bd (s : ByteArray) : ∀ x ∈ kindsS s, 0 ≤ x ∧ x < 4 := by
  intro x hx
  obtain ⟨b, _, rfl⟩ := List.mem_map.1 hx
  exact kindB_bd _

theorem allL_no {s : ByteArray} {i : Nat} (h : i < s.size) (hn : isL (bt s i) = false) : allL s = false := by
  unfold allL
  rw [List.all_eq_false]
  refine ⟨s[i]'h, List.mem_of_getElem? (bt_get s i h), ?_⟩
  rw [bt_at s i h, hn]
  simp

theorem allL_yes {s : ByteArray} (h : ∀ i, i < s.size → isL (bt s i) = true) : allL s = true := by
  unfold allL
  rw [List.all_eq_true]
  intro b hb
  obtain ⟨i, hi⟩ := List.getElem?_of_mem hb
  have hlt : i < s.size := by have := (List.getElem?_eq_some_iff.1 hi).1; simpa using this
  rw [bt_get s i hlt] at hi
  injection hi with hi
  rw [← hi, bt_at s i hlt]
  exact h i hlt

theorem byte_back {b : UInt8} (h : isL (b.toNat : Int) = true) : ltB (kindB (b.toNat : Int)) = b := by
  unfold isL at h
  have h0 := of_decide_eq_true h
  unfold ltB kindB
  rw [if_pos h0, lt_idx h0]
  simp

/-- The letters of letters' kinds are these. -/
theorem text_back {s : ByteArray} (h : allL s = true) : textV (kindsS s) = s := by
  apply ByteArray.ext
  unfold textV kindsS
  rw [List.map_map]
  have e : s.data.toList.map (ltB ∘ fun b => kindB (b.toNat : Int)) = s.data.toList := by
    unfold allL at h
    rw [List.all_eq_true] at h
    exact (List.map_congr_left (g := id) fun b hb => byte_back (h b hb)).trans (List.map_id _)
  rw [e]

/-- The view of records. -/
def viewV (l : List Rc) : Int × ByteArray × Int := if (checkV l).2 = 0 then (beg l, textV (kindsV l), 0) else (0, ⟨#[]⟩, (checkV l).2)

theorem view_ok {l : List Rc} (h : (checkV l).2 = 0) : viewV l = (beg l, textV (kindsV l), 0) := if_pos h
theorem view_bad {l : List Rc} (h : (checkV l).2 ≠ 0) : viewV l = (0, ⟨#[]⟩, (checkV l).2) := if_neg h

/-- The timeline of a view. -/
def fromV (at_ : Int) (s : ByteArray) : List Rc × Int :=
  if at_ < 0 ∨ 40320 < at_ + (s.size : Int) then ([], 4) else if allL s = true then (ofR at_ (kindsS s), 0) else ([], 2)

/-! ### Minutes one by one -/

/-- A record for each minute. -/
def minsR : Int → List Int → List Rc
  | _, [] => []
  | e, k :: ks => (k, e, e + 1) :: minsR (e + 1) ks

theorem minsR_len : ∀ (ks : List Int) (e : Int), (minsR e ks).length = ks.length
  | [], _ => rfl
  | _ :: ks, e => by rw [minsR, List.length_cons, minsR_len ks, List.length_cons]

theorem minsR_snoc : ∀ (ks : List Int) (e k : Int), minsR e (ks ++ [k]) = minsR e ks ++ [(k, e + ks.length, e + ks.length + 1)]
  | [], e, k => by simp [minsR]
  | x :: ks, e, k => by
    rw [List.cons_append, minsR, minsR_snoc ks, minsR, List.cons_append, List.length_cons]
    have : e + 1 + (ks.length : Int) = e + ((ks.length + 1 : Nat) : Int) := by omega
    rw [this]

theorem minsR_tl : ∀ (ks : List Int) (e : Int), (∀ x ∈ ks, 0 ≤ x ∧ x < 4) → 0 ≤ e → e + (ks.length : Int) ≤ 40320 → Tl e (minsR e ks)
  | [], _, _, _, _ => trivial
  | k :: ks, e, h, h0, h1 => by
    rw [List.length_cons] at h1
    exact ⟨⟨h k (List.mem_cons_self ..), by simp; omega⟩, rfl, minsR_tl ks (e + 1) (fun x hx => h x (List.mem_cons_of_mem _ hx)) (by omega) (by omega)⟩

theorem minsR_kinds : ∀ (ks : List Int) (e : Int), kindsV (minsR e ks) = ks
  | [], _ => rfl
  | k :: ks, e => by
    rw [minsR, kinds_cons, minsR_kinds ks]
    have : ((e + 1 - e : Int)).toNat = 1 := by omega
    simp [this]

theorem minsR_norm (ks : List Int) (e : Int) : normV (minsR e ks) = ofR e ks := by
  have : ∀ (ks : List Int) (e : Int) (out : List Rc), (minsR e ks).foldl (fun out r => put out r.1 r.2.1 r.2.2) out = (ofS (out, e) ks).1 := by
    intro ks
    induction ks with
    | nil => intro e out; rfl
    | cons k ks ih =>
      intro e out
      rw [minsR, List.foldl_cons, ih]
      rfl
  exact this ks e []

/-! ### The normal timeline's minutes -/

theorem Tl.snoc {l : List Rc} {e : Int} {r : Rc} (h : Tl e l) (hr : (0 ≤ r.1 ∧ r.1 < 4) ∧ (0 ≤ r.2.1 ∧ r.2.1 < r.2.2 ∧ r.2.2 ≤ 40320)) (hb : r.2.1 = (if l = [] then e else fin l)) : Tl e (l ++ [r]) ∧ fin (l ++ [r]) = r.2.2 := by
  induction l generalizing e with
  | nil => exact ⟨⟨hr, by simpa using hb, trivial⟩, rfl⟩
  | cons s l ih =>
    have h2 := h.2.2
    have := ih h2 (by
      rw [hb, if_neg (by simp)]
      cases l with
      | nil => simp [fin]
      | cons t l => simp [fin])
    refine ⟨⟨h.1, h.2.1, this.1⟩, ?_⟩
    cases l with
    | nil => simp [fin]
    | cons t l => simpa [fin] using this.2

theorem kinds_append (a b : List Rc) : kindsV (a ++ b) = kindsV a ++ kindsV b := by simp [kindsV]

theorem Tl.init {l : List Rc} {e : Int} {r : Rc} (h : Tl e (l ++ [r])) : Tl e l ∧ ((0 ≤ r.1 ∧ r.1 < 4) ∧ (0 ≤ r.2.1 ∧ r.2.1 < r.2.2 ∧ r.2.2 ≤ 40320)) ∧ r.2.1 = (if l = [] then e else fin l) := by
  induction l generalizing e with
  | nil => exact ⟨trivial, h.1, by simpa using h.2.1⟩
  | cons s l ih =>
    obtain ⟨h1, h2, h3⟩ := h
    have := ih h3
    refine ⟨⟨h1, h2, this.1⟩, this.2.1, ?_⟩
    rw [this.2.2]
    cases l with
    | nil => simp [fin]
    | cons t l => simp [fin]

/-- One more record behind those that are there changes no minute. -/
theorem put_tl {out : List Rc} {b k f t : Int} (h : Tl b out) (hk : 0 ≤ k ∧ k < 4) (hf : 0 ≤ f ∧ f < t ∧ t ≤ 40320) (hb : f = (if out = [] then b else fin out)) :
    Tl b (put out k f t) ∧ fin (put out k f t) = t ∧ put out k f t ≠ [] ∧ kindsV (put out k f t) = kindsV out ++ List.replicate (t - f).toNat k := by
  rcases List.eq_nil_or_concat out with rfl | ⟨o, ⟨a, x, y⟩, ho⟩
  · rw [put_nil]
    have := Tl.snoc (r := (k, f, t)) h ⟨hk, hf⟩ hb
    refine ⟨by simpa using this.1, by simp [fin], by simp, ?_⟩
    simp [kindsV]
  · rw [List.concat_eq_append] at ho
    subst ho
    obtain ⟨h1, h2, h3⟩ := h.init
    simp only at h2 h3
    have hfin : fin (o ++ [(a, x, y)]) = y := (Tl.snoc (r := (a, x, y)) h1 h2 h3).2
    rw [if_neg (by simp), hfin] at hb
    by_cases e : a = k
    · subst e
      rw [put_same]
      have := Tl.snoc (r := (a, x, t)) h1 ⟨hk, by simp; omega⟩ h3
      refine ⟨this.1, this.2, by simp, ?_⟩
      rw [kinds_append, kinds_append, List.append_assoc]
      congr 1
      simp only [kindsV, List.flatMap_cons, List.flatMap_nil, List.append_nil, List.replicate_append_replicate]
      congr 1
      omega
    · rw [put_other o e]
      have := Tl.snoc (r := (k, f, t)) h ⟨hk, hf⟩ (by rw [if_neg (by simp), hfin]; exact hb)
      refine ⟨this.1, this.2, by simp, ?_⟩
      rw [kinds_append]
      simp [kindsV]

theorem norm_fold {l : List Rc} : ∀ {e b : Int} (out : List Rc), Tl e l → Tl b out → e = (if out = [] then b else fin out) →
    Tl b (l.foldl (fun out r => put out r.1 r.2.1 r.2.2) out) ∧ kindsV (l.foldl (fun out r => put out r.1 r.2.1 r.2.2) out) = kindsV out ++ kindsV l ∧ (l.foldl (fun out r => put out r.1 r.2.1 r.2.2) out = [] ↔ out = [] ∧ l = []) := by
  induction l with
  | nil => intro e b out _ h _; exact ⟨h, by simp [kindsV], by simp⟩
  | cons r l ih =>
    intro e b out h ho he
    obtain ⟨⟨h1, h2⟩, h3, h4⟩ := h
    obtain ⟨p1, p2, p3, p4⟩ := put_tl ho h1 h2 (h3.trans he)
    have := ih (put out r.1 r.2.1 r.2.2) h4 p1 (by rw [if_neg p3, p2])
    refine ⟨this.1, ?_, ?_⟩
    · rw [List.foldl_cons, this.2.1, p4, kinds_cons, List.append_assoc]
    · rw [List.foldl_cons, this.2.2]
      simp [p3]

theorem norm_tl {l : List Rc} {e : Int} (h : Tl e l) : Tl (beg l) (normV l) ∧ kindsV (normV l) = kindsV l ∧ (normV l = [] ↔ l = []) := by
  have := norm_fold (b := beg l) [] h.from_ (trivial : Tl (beg l) []) (by simp)
  exact ⟨this.1, by rw [show kindsV (normV l) = _ from this.2.1]; simp [kindsV], by rw [show (normV l = [] ↔ _) from this.2.2]; simp⟩

/-! ### Minutes that are handed on -/

/-- Each minute of records with its kind. -/
def minsV (l : List Rc) : List (Int × Int) := l.flatMap fun r => (List.range (r.2.2 - r.2.1).toNat).map fun (i : Nat) => (r.2.1 + (i : Int), r.1)

/-- Kinds with their minutes, from e on. -/
def numb : Int → List Int → List (Int × Int)
  | _, [] => []
  | e, k :: ks => (e, k) :: numb (e + 1) ks

theorem numb_len : ∀ (ks : List Int) (e : Int), (numb e ks).length = ks.length
  | [], _ => rfl
  | _ :: ks, e => by rw [numb, List.length_cons, numb_len ks, List.length_cons]

theorem numb_append : ∀ (a b : List Int) (e : Int), numb e (a ++ b) = numb e a ++ numb (e + a.length) b
  | [], b, e => by simp [numb]
  | k :: a, b, e => by
    rw [List.cons_append, numb, numb_append a, numb, List.cons_append, List.length_cons]
    have : e + 1 + (a.length : Int) = e + ((a.length + 1 : Nat) : Int) := by omega
    rw [this]

theorem numb_rep (k : Int) : ∀ (n : Nat) (e : Int), numb e (List.replicate n k) = (List.range n).map fun (i : Nat) => (e + (i : Int), k)
  | 0, _ => rfl
  | n + 1, e => by
    rw [List.replicate_succ', numb_append, numb_rep k n e, List.range_succ, List.map_append, List.length_replicate]
    rfl

theorem numb_at : ∀ (ks : List Int) (e : Int) (i : Nat), (numb e ks)[i]? = ks[i]?.map fun k => (e + (i : Int), k)
  | [], _, _ => by simp [numb]
  | k :: ks, e, 0 => by simp [numb]
  | k :: ks, e, i + 1 => by
    rw [numb, List.getElem?_cons_succ, numb_at ks (e + 1) i, List.getElem?_cons_succ]
    have : e + 1 + (i : Int) = e + ((i + 1 : Nat) : Int) := by omega
    rw [this]

theorem numb_snd : ∀ (ks : List Int) (e : Int), (numb e ks).map (·.2) = ks
  | [], _ => rfl
  | k :: ks, e => by rw [numb, List.map_cons, numb_snd ks]

theorem mins_numb {l : List Rc} : ∀ {e : Int}, Tl e l → minsV l = numb e (kindsV l) := by
  induction l with
  | nil => intro e _; rfl
  | cons r l ih =>
    intro e h
    obtain ⟨⟨h1, h2⟩, h3, h4⟩ := h
    subst h3
    rw [kinds_cons, numb_append, numb_rep, List.length_replicate]
    have e2 : r.2.1 + (((r.2.2 - r.2.1).toNat : Nat) : Int) = r.2.2 := by omega
    rw [e2, ← ih h4]
    rfl

/-- What Each hands on. -/
theorem each_is {l : List Rc} {e : Int} (h : Tl e l) : minsV (nrmV l) = numb (beg l) (kindsV l) := by
  rw [nrm_ok h]
  have := norm_tl h
  rw [mins_numb this.1, this.2.1]

theorem each_bad {l : List Rc} (h : (checkV l).2 ≠ 0) : minsV (nrmV l) = [] := by rw [nrm_bad h]; rfl

/-! ### What a timeline of a view has -/

theorem of_back {ks : List Int} {e : Int} (h : ∀ x ∈ ks, 0 ≤ x ∧ x < 4) (h0 : 0 ≤ e) (h1 : e + (ks.length : Int) ≤ 40320) :
    Tl (beg (minsR e ks)) (ofR e ks) ∧ kindsV (ofR e ks) = ks ∧ (ks ≠ [] → beg (ofR e ks) = e) := by
  have := norm_tl (minsR_tl ks e h h0 h1)
  rw [minsR_norm, minsR_kinds] at this
  refine ⟨this.1, this.2.1, fun hne => ?_⟩
  have hn : ofR e ks ≠ [] := by
    intro he
    have := this.2.2.1 he
    cases ks with
    | nil => exact hne rfl
    | cons k ks => rw [minsR] at this; cases this
  obtain ⟨k, ks', rfl⟩ : ∃ k ks', ks = k :: ks' := by
    cases ks with
    | nil => exact absurd rfl hne
    | cons k ks => exact ⟨k, ks, rfl⟩
  have ht := this.1
  have hb : beg (minsR e (k :: ks')) = e := rfl
  rw [hb] at ht
  cases hof : ofR e (k :: ks') with
  | nil => exact absurd hof hn
  | cons r l => rw [hof] at ht; exact ht.2.1

/-! ### Spells -/

/-- One more minute of the kind: the last spell's end is moved, where it ends there. -/
def spell (out : List Sp) (i : Nat) : List Sp :=
  match out.getLast? with
  | some (a, b) => if b = (i : Int) then out.dropLast ++ [(a, (i : Int) + 1)] else out ++ [((i : Int), (i : Int) + 1)]
  | none => out ++ [((i : Int), (i : Int) + 1)]

def spells (h : Nat → Bool) : Nat → List Sp
  | 0 => []
  | i + 1 => if h i then spell (spells h i) i else spells h i

theorem spell_nil (i : Nat) : spell [] i = [((i : Int), (i : Int) + 1)] := rfl
theorem spell_same (o : List Sp) (a : Int) (i : Nat) : spell (o ++ [(a, (i : Int))]) i = o ++ [(a, (i : Int) + 1)] := by unfold spell; simp
theorem spell_other (o : List Sp) {a b : Int} {i : Nat} (h : b ≠ i) : spell (o ++ [(a, b)]) i = o ++ [(a, b)] ++ [((i : Int), (i : Int) + 1)] := by unfold spell; simp [h]

theorem spells_yes {h : Nat → Bool} {i : Nat} (e : h i = true) : spells h (i + 1) = spell (spells h i) i := by rw [spells, if_pos e]
theorem spells_no {h : Nat → Bool} {i : Nat} (e : h i = false) : spells h (i + 1) = spells h i := by rw [spells, if_neg (by rw [e]; exact Bool.false_ne_true)]

/-- The last one ends here just if the minute ahead has the kind; no one ends later. -/
theorem spells_last (h : Nat → Bool) : ∀ i : Nat, (∀ (o : List Sp) (a b : Int), spells h i = o ++ [(a, b)] → b ≤ (i : Int) ∧ a < b ∧ (b = (i : Int) ↔ 0 < i ∧ h (i - 1) = true)) ∧ (spells h i = [] → ¬ (0 < i ∧ h (i - 1) = true))
  | 0 => ⟨fun o a b e => by simp [spells] at e, fun _ c => absurd c.1 (by omega)⟩
  | i + 1 => by
    obtain ⟨ih, ih2⟩ := spells_last h i
    rw [Nat.add_sub_cancel]
    cases hi : h i with
    | false =>
      rw [spells_no hi]
      refine ⟨fun o a b e => ?_, fun _ c => absurd c.2 (by simp)⟩
      obtain ⟨h1, h2, _⟩ := ih o a b e
      refine ⟨by omega, h2, ⟨fun e => by exfalso; omega, fun c => absurd c.2 (by simp)⟩⟩
    | true =>
      rw [spells_yes hi]
      have key : ∃ o a, a < (i : Int) + 1 ∧ spell (spells h i) i = o ++ [(a, (i : Int) + 1)] := by
        rcases List.eq_nil_or_concat (spells h i) with e | ⟨o, ⟨a, b⟩, e⟩
        · rw [e]; exact ⟨[], (i : Int), by omega, rfl⟩
        · rw [List.concat_eq_append] at e
          obtain ⟨h1, h2, _⟩ := ih o a b e
          rw [e]
          by_cases hb : b = (i : Int)
          · subst hb; exact ⟨o, a, by omega, spell_same o a i⟩
          · exact ⟨o ++ [(a, b)], (i : Int), by omega, spell_other o hb⟩
      obtain ⟨o, a, ha, e⟩ := key
      rw [e]
      refine ⟨fun o2 a2 b2 e2 => ?_, fun c => by simp at c⟩
      have := List.append_inj' e2 rfl
      simp only [List.cons.injEq, Prod.mk.injEq, and_true] at this
      obtain ⟨_, rfl, rfl⟩ := this
      exact ⟨by omega, ha, ⟨fun _ => ⟨by omega, rfl⟩, fun _ => by omega⟩⟩

theorem spells_len (h : Nat → Bool) : ∀ i, (spells h i).length ≤ i
  | 0 => Nat.le_refl _
  | i + 1 => by
    have ih := spells_len h i
    cases hi : h i with
    | false => rw [spells_no hi]; omega
    | true =>
      rw [spells_yes hi]
      rcases List.eq_nil_or_concat (spells h i) with e | ⟨o, ⟨a, b⟩, e⟩
      · rw [e, spell_nil]; simp
      · rw [List.concat_eq_append] at e
        rw [e] at ih ⊢
        by_cases hb : b = (i : Int)
        · subst hb; rw [spell_same]; simp at ih ⊢; omega
        · rw [spell_other o hb]; simp at ih ⊢; omega

/-- The spells have just the minutes of the kind. -/
theorem spells_has (h : Nat → Bool) : ∀ n (m : Int), hasL (spells h n) m = true ↔ ∃ i : Nat, i < n ∧ m = (i : Int) ∧ h i = true
  | 0, m => by simp [spells, hasL_nil]
  | n + 1, m => by
    have ih := spells_has h n m
    cases hi : h n with
    | false =>
      rw [spells_no hi, ih]
      constructor
      · rintro ⟨i, h1, h2, h3⟩; exact ⟨i, by omega, h2, h3⟩
      · rintro ⟨i, h1, h2, h3⟩
        refine ⟨i, ?_, h2, h3⟩
        rcases Nat.lt_or_ge i n with c | c
        · exact c
        · obtain rfl : i = n := by omega
          rw [hi] at h3; cases h3
    | true =>
      have key : hasL (spell (spells h n) n) m = true ↔ hasL (spells h n) m = true ∨ m = (n : Int) := by
        rcases List.eq_nil_or_concat (spells h n) with e | ⟨o, ⟨a, b⟩, e⟩
        · rw [e, spell_nil, hasL_cons, hasL_nil]
          simp [hasS]
          omega
        · rw [List.concat_eq_append] at e
          obtain ⟨h1, h2, _⟩ := (spells_last h n).1 o a b e
          rw [e]
          by_cases hb : b = (n : Int)
          · subst hb
            rw [spell_same, hasL_append, hasL_append, hasL_cons, hasL_cons, hasL_nil]
            simp only [Bool.or_eq_true, hasS_iff, Bool.false_eq_true, or_false]
            constructor
            · rintro (c | c)
              · exact .inl (.inl c)
              · by_cases hm : m = (n : Int)
                · exact .inr hm
                · exact .inl (.inr (by omega))
            · rintro ((c | c) | c)
              · exact .inl c
              · exact .inr (by omega)
              · exact .inr (by omega)
          · rw [spell_other o hb, hasL_append, hasL_cons, hasL_nil]
            simp only [Bool.or_eq_true, hasS_iff, Bool.false_eq_true, or_false]
            constructor
            · rintro (c | c)
              · exact .inl c
              · exact .inr (by omega)
            · rintro (c | c)
              · exact .inl c
              · exact .inr (by omega)
      rw [spells_yes hi, key, ih]
      constructor
      · rintro (⟨i, h1, h2, h3⟩ | rfl)
        · exact ⟨i, by omega, h2, h3⟩
        · exact ⟨n, by omega, rfl, hi⟩
      · rintro ⟨i, h1, h2, h3⟩
        rcases Nat.lt_or_ge i n with c | c
        · exact .inl ⟨i, c, h2, h3⟩
        · exact .inr (by omega)

theorem spells_none {h : Nat → Bool} (hn : ∀ i, h i = false) : ∀ n, spells h n = []
  | 0 => rfl
  | n + 1 => by rw [spells_no (hn n), spells_none hn n]

/-- The spells of a kind in letters. -/
def spellsV (s : ByteArray) (k : Int) : List Sp := spells (fun i => hasK k (bt s i)) s.size

theorem spellsV_at (s : ByteArray) (k : Int) (i : Nat) (h : i < s.size) : hasL (spellsV s k) i = hasK k (bt s i) := by
  rw [Bool.eq_iff_iff]
  unfold spellsV
  rw [spells_has]
  constructor
  · rintro ⟨j, h1, h2, h3⟩
    obtain rfl : i = j := by omega
    exact h3
  · intro c
    exact ⟨i, h, rfl, c⟩

end Go.Proofs.Ytgmcikajhnnaaaa
