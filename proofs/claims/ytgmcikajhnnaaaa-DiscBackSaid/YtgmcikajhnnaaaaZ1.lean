/- Plain facts, several texts in one: ViewMath, DiscMath, DiscDec, DiscEnc. Conditions: none beyond each lemma's own premises. -/
import Derived.Test.YtgmcikajhnnaaaaRecMath
import Derived.Test.YtgmcikajhnnaaaaRecMath2
import Derived.Test.YtgmcikajhnnaaaaIvalsMath
import Derived.Test.YtgmcikajhnnaaaaWeekMath
import Derived.Test.YtgmcikajhnnaaaaSumMath

/- Views in plain words: a letter for each kind, a timeline's minutes one by one, spells of a kind. Conditions: none beyond each lemma's own premises. -/
namespace Go.Proofs.Ytgmcikajhnnaaaa
open Go.RowKit

/-! ### Letters -/

/-- The letter of a kind, as a number; at which place the letters have a byte. -/
def ltN (k : Int) : Int := if k = 0 then 82 else if k = 1 then 65 else if k = 2 then 87 else 68
def idxB (c : Int) : Int := if c = 82 then 0 else if c = 65 then 1 else if c = 87 then 2 else if c = 68 then 3 else -1
def isL (c : Int) : Bool := decide (0 ≤ idxB c)
def kindB (c : Int) : Int := if 0 ≤ idxB c then idxB c else 0

theorem idx_bd (c : Int) : -1 ≤ idxB c ∧ idxB c < 4 := by
  unfold idxB
  repeat' split
  all_goals omega

theorem kindB_bd (c : Int) : 0 ≤ kindB c ∧ kindB c < 4 := by
  have := idx_bd c
  unfold kindB
  split <;> omega

theorem ltN_bd (k : Int) : 0 ≤ ltN k ∧ ltN k ≤ 255 := by
  unfold ltN
  repeat' split
  all_goals omega

theorem idx_lt {k : Int} (h0 : 0 ≤ k) (h1 : k < 4) : idxB (ltN k) = k := by
  have : k = 0 ∨ k = 1 ∨ k = 2 ∨ k = 3 := by omega
  rcases this with rfl | rfl | rfl | rfl <;> decide

theorem lt_idx {c : Int} (h : 0 ≤ idxB c) : ltN (idxB c) = c := by
  unfold idxB at *
  repeat' split
  all_goals first | (subst_vars; decide) | (exfalso; simp_all)

/-- Has the byte that kind? -/
def hasK (k c : Int) : Bool := isL c && decide (kindB c = k)

theorem hasK_letter {k c : Int} (h0 : 0 ≤ k) (h1 : k < 4) : hasK k c = decide (c = ltN k) := by
  unfold hasK isL kindB
  by_cases h : 0 ≤ idxB c
  · rw [decide_eq_true h, if_pos h, Bool.true_and]
    by_cases e : c = ltN k
    · subst e; rw [idx_lt h0 h1]; simp
    · rw [decide_eq_false e, decide_eq_false]
      intro e2
      exact e (by rw [← e2, lt_idx h])
  · rw [decide_eq_false h, Bool.false_and]
    symm
    apply decide_eq_false
    rintro rfl
    rw [idx_lt h0 h1] at h
    omega

theorem hasK_none {k c : Int} (h : ¬ (0 ≤ k ∧ k < 4)) : hasK k c = false := by
  unfold hasK
  have := kindB_bd c
  rw [decide_eq_false (by omega : ¬ kindB c = k), Bool.and_false]

/-- Bytes with the same kind are the same. -/
theorem hasK_same {k b c : Int} (h1 : hasK k b = true) (h2 : hasK k c = true) : b = c := by
  unfold hasK isL kindB at *
  simp only [Bool.and_eq_true, decide_eq_true_eq] at h1 h2
  rw [if_pos h1.1] at h1
  rw [if_pos h2.1] at h2
  rw [← lt_idx h1.1, ← lt_idx h2.1, h1.2, h2.2]

/-- The letters of kinds. -/
def ltB (k : Int) : UInt8 := UInt8.ofNat (ltN k).toNat
def textV (ks : List Int) : ByteArray := ⟨(ks.map ltB).toArray⟩

theorem text_more {ks : List Int} {k : Nat} {x : Int} (h : ks[k]? = some x) : textV (ks.take (k + 1)) = textV (ks.take k) ++ ⟨#[ltB x]⟩ := by
  rw [List.take_add_one, h]
  apply ByteArray.ext
  simp [textV]

theorem text_size (ks : List Int) : (textV ks).size = ks.length := by simp [textV, ByteArray.size]

/-- The kinds of letters; are all letters? -/
def kindsS (s : ByteArray) : List Int := s.data.toList.map fun b => kindB (b.toNat : Int)
def allL (s : ByteArray) : Bool := s.data.toList.all fun b => isL (b.toNat : Int)

theorem kindsS_len (s : ByteArray) : (kindsS s).length = s.size := by simp [kindsS]

theorem bt_get (s : ByteArray) (i : Nat) (h : i < s.size) : s.data.toList[i]? = some (s[i]'h) := by
  have h' : i < s.data.size := h
  rw [Array.getElem?_toList, Array.getElem?_eq_getElem h']
  rfl

theorem bt_at (s : ByteArray) (i : Nat) (h : i < s.size) : ((s[i]'h).toNat : Int) = bt s i := by
  have h' : i < s.data.size := h
  have e : s.data.getD i 0 = s[i]'h := by
    unfold Array.getD
    rw [dif_pos h']
    rfl
  unfold bt
  rw [e]

theorem kindsS_at (s : ByteArray) (i : Nat) (h : i < s.size) : (kindsS s)[i]? = some (kindB (bt s i)) := by
  unfold kindsS
  rw [List.getElem?_map, bt_get s i h, ← bt_at s i h]
  rfl

theorem kindsS_more (s : ByteArray) (i : Nat) (h : i < s.size) : (kindsS s).take (i + 1) = (kindsS s).take i ++ [kindB (bt s i)] := by
  rw [List.take_add_one, kindsS_at s i h]
  rfl

theorem kindsS_bd (s : ByteArray) : ∀ x ∈ kindsS s, 0 ≤ x ∧ x < 4 := by
  intro x hx
  obtain ⟨b, _, rfl⟩ := List.mem_map.1 hx
  exact kindB_bd _

theorem allL_no {s : ByteArray} {i : Nat} (h : i < s.size) (hn : isL (bt s i) = false) : allL s = false := by
  unfold allL
  rw [List.all_eq_false]
  refine ⟨s[i]'h, List.mem_of_getElem? (bt_get s i h), ?_⟩
  rw [bt_at s i h, hn]
  simp

theorem allL_yes {s : ByteArray} (h : ∀ i, i < s.size → isL (bt s i) = true) : allL s = true := by
  unfold allL
  rw [List.all_eq_true]
  intro b hb
  obtain ⟨i, hi⟩ := List.getElem?_of_mem hb
  have hlt : i < s.size := by have := (List.getElem?_eq_some_iff.1 hi).1; simpa using this
  rw [bt_get s i hlt] at hi
  injection hi with hi
  rw [← hi, bt_at s i hlt]
  exact h i hlt

theorem byte_back {b : UInt8} (h : isL (b.toNat : Int) = true) : ltB (kindB (b.toNat : Int)) = b := by
  unfold isL at h
  have h0 := of_decide_eq_true h
  unfold ltB kindB
  rw [if_pos h0, lt_idx h0]
  simp

/-- The letters of letters' kinds are these. -/
theorem text_back {s : ByteArray} (h : allL s = true) : textV (kindsS s) = s := by
  apply ByteArray.ext
  unfold textV kindsS
  rw [List.map_map]
  have e : s.data.toList.map (ltB ∘ fun b => kindB (b.toNat : Int)) = s.data.toList := by
    unfold allL at h
    rw [List.all_eq_true] at h
    exact (List.map_congr_left (g := id) fun b hb => byte_back (h b hb)).trans (List.map_id _)
  rw [e]

/-- The view of records. -/
def viewV (l : List Rc) : Int × ByteArray × Int := if (checkV l).2 = 0 then (beg l, textV (kindsV l), 0) else (0, ⟨#[]⟩, (checkV l).2)

theorem view_ok {l : List Rc} (h : (checkV l).2 = 0) : viewV l = (beg l, textV (kindsV l), 0) := if_pos h
theorem view_bad {l : List Rc} (h : (checkV l).2 ≠ 0) : viewV l = (0, ⟨#[]⟩, (checkV l).2) := if_neg h

/-- The timeline of a view. -/
def fromV (at_ : Int) (s : ByteArray) : List Rc × Int :=
  if at_ < 0 ∨ 40320 < at_ + (s.size : Int) then ([], 4) else if allL s = true then (ofR at_ (kindsS s), 0) else ([], 2)

/-! ### Minutes one by one -/

/-- A record for each minute. -/
def minsR : Int → List Int → List Rc
  | _, [] => []
  | e, k :: ks => (k, e, e + 1) :: minsR (e + 1) ks

theorem minsR_len : ∀ (ks : List Int) (e : Int), (minsR e ks).length = ks.length
  | [], _ => rfl
  | _ :: ks, e => by rw [minsR, List.length_cons, minsR_len ks, List.length_cons]

theorem minsR_snoc : ∀ (ks : List Int) (e k : Int), minsR e (ks ++ [k]) = minsR e ks ++ [(k, e + ks.length, e + ks.length + 1)]
  | [], e, k => by simp [minsR]
  | x :: ks, e, k => by
    rw [List.cons_append, minsR, minsR_snoc ks, minsR, List.cons_append, List.length_cons]
    have : e + 1 + (ks.length : Int) = e + ((ks.length + 1 : Nat) : Int) := by omega
    rw [this]

theorem minsR_tl : ∀ (ks : List Int) (e : Int), (∀ x ∈ ks, 0 ≤ x ∧ x < 4) → 0 ≤ e → e + (ks.length : Int) ≤ 40320 → Tl e (minsR e ks)
  | [], _, _, _, _ => trivial
  | k :: ks, e, h, h0, h1 => by
    rw [List.length_cons] at h1
    exact ⟨⟨h k (List.mem_cons_self ..), by simp; omega⟩, rfl, minsR_tl ks (e + 1) (fun x hx => h x (List.mem_cons_of_mem _ hx)) (by omega) (by omega)⟩

theorem minsR_kinds : ∀ (ks : List Int) (e : Int), kindsV (minsR e ks) = ks
  | [], _ => rfl
  | k :: ks, e => by
    rw [minsR, kinds_cons, minsR_kinds ks]
    have : ((e + 1 - e : Int)).toNat = 1 := by omega
    simp [this]

theorem minsR_norm (ks : List Int) (e : Int) : normV (minsR e ks) = ofR e ks := by
  have : ∀ (ks : List Int) (e : Int) (out : List Rc), (minsR e ks).foldl (fun out r => put out r.1 r.2.1 r.2.2) out = (ofS (out, e) ks).1 := by
    intro ks
    induction ks with
    | nil => intro e out; rfl
    | cons k ks ih =>
      intro e out
      rw [minsR, List.foldl_cons, ih]
      rfl
  exact this ks e []

/-! ### The normal timeline's minutes -/

theorem Tl.snoc {l : List Rc} {e : Int} {r : Rc} (h : Tl e l) (hr : (0 ≤ r.1 ∧ r.1 < 4) ∧ (0 ≤ r.2.1 ∧ r.2.1 < r.2.2 ∧ r.2.2 ≤ 40320)) (hb : r.2.1 = (if l = [] then e else fin l)) : Tl e (l ++ [r]) ∧ fin (l ++ [r]) = r.2.2 := by
  induction l generalizing e with
  | nil => exact ⟨⟨hr, by simpa using hb, trivial⟩, rfl⟩
  | cons s l ih =>
    have h2 := h.2.2
    have := ih h2 (by
      rw [hb, if_neg (by simp)]
      cases l with
      | nil => simp [fin]
      | cons t l => simp [fin])
    refine ⟨⟨h.1, h.2.1, this.1⟩, ?_⟩
    cases l with
    | nil => simp [fin]
    | cons t l => simpa [fin] using this.2

theorem kinds_append (a b : List Rc) : kindsV (a ++ b) = kindsV a ++ kindsV b := by simp [kindsV]

theorem Tl.init {l : List Rc} {e : Int} {r : Rc} (h : Tl e (l ++ [r])) : Tl e l ∧ ((0 ≤ r.1 ∧ r.1 < 4) ∧ (0 ≤ r.2.1 ∧ r.2.1 < r.2.2 ∧ r.2.2 ≤ 40320)) ∧ r.2.1 = (if l = [] then e else fin l) := by
  induction l generalizing e with
  | nil => exact ⟨trivial, h.1, by simpa using h.2.1⟩
  | cons s l ih =>
    obtain ⟨h1, h2, h3⟩ := h
    have := ih h3
    refine ⟨⟨h1, h2, this.1⟩, this.2.1, ?_⟩
    rw [this.2.2]
    cases l with
    | nil => simp [fin]
    | cons t l => simp [fin]

/-- One more record behind those that are there changes no minute. -/
theorem put_tl {out : List Rc} {b k f t : Int} (h : Tl b out) (hk : 0 ≤ k ∧ k < 4) (hf : 0 ≤ f ∧ f < t ∧ t ≤ 40320) (hb : f = (if out = [] then b else fin out)) :
    Tl b (put out k f t) ∧ fin (put out k f t) = t ∧ put out k f t ≠ [] ∧ kindsV (put out k f t) = kindsV out ++ List.replicate (t - f).toNat k := by
  rcases List.eq_nil_or_concat out with rfl | ⟨o, ⟨a, x, y⟩, ho⟩
  · rw [put_nil]
    have := Tl.snoc (r := (k, f, t)) h ⟨hk, hf⟩ hb
    refine ⟨by simpa using this.1, by simp [fin], by simp, ?_⟩
    simp [kindsV]
  · rw [List.concat_eq_append] at ho
    subst ho
    obtain ⟨h1, h2, h3⟩ := h.init
    simp only at h2 h3
    have hfin : fin (o ++ [(a, x, y)]) = y := (Tl.snoc (r := (a, x, y)) h1 h2 h3).2
    rw [if_neg (by simp), hfin] at hb
    by_cases e : a = k
    · subst e
      rw [put_same]
      have := Tl.snoc (r := (a, x, t)) h1 ⟨hk, by simp; omega⟩ h3
      refine ⟨this.1, this.2, by simp, ?_⟩
      rw [kinds_append, kinds_append, List.append_assoc]
      congr 1
      simp only [kindsV, List.flatMap_cons, List.flatMap_nil, List.append_nil, List.replicate_append_replicate]
      congr 1
      omega
    · rw [put_other o e]
      have := Tl.snoc (r := (k, f, t)) h ⟨hk, hf⟩ (by rw [if_neg (by simp), hfin]; exact hb)
      refine ⟨this.1, this.2, by simp, ?_⟩
      rw [kinds_append]
      simp [kindsV]

theorem norm_fold {l : List Rc} : ∀ {e b : Int} (out : List Rc), Tl e l → Tl b out → e = (if out = [] then b else fin out) →
    Tl b (l.foldl (fun out r => put out r.1 r.2.1 r.2.2) out) ∧ kindsV (l.foldl (fun out r => put out r.1 r.2.1 r.2.2) out) = kindsV out ++ kindsV l ∧ (l.foldl (fun out r => put out r.1 r.2.1 r.2.2) out = [] ↔ out = [] ∧ l = []) := by
  induction l with
  | nil => intro e b out _ h _; exact ⟨h, by simp [kindsV], by simp⟩
  | cons r l ih =>
    intro e b out h ho he
    obtain ⟨⟨h1, h2⟩, h3, h4⟩ := h
    obtain ⟨p1, p2, p3, p4⟩ := put_tl ho h1 h2 (h3.trans he)
    have := ih (put out r.1 r.2.1 r.2.2) h4 p1 (by rw [if_neg p3, p2])
    refine ⟨this.1, ?_, ?_⟩
    · rw [List.foldl_cons, this.2.1, p4, kinds_cons, List.append_assoc]
    · rw [List.foldl_cons, this.2.2]
      simp [p3]

theorem norm_tl {l : List Rc} {e : Int} (h : Tl e l) : Tl (beg l) (normV l) ∧ kindsV (normV l) = kindsV l ∧ (normV l = [] ↔ l = []) := by
  have := norm_fold (b := beg l) [] h.from_ (trivial : Tl (beg l) []) (by simp)
  exact ⟨this.1, by rw [show kindsV (normV l) = _ from this.2.1]; simp [kindsV], by rw [show (normV l = [] ↔ _) from this.2.2]; simp⟩

/-! ### Minutes that are handed on -/

/-- Each minute of records with its kind. -/
def minsV (l : List Rc) : List (Int × Int) := l.flatMap fun r => (List.range (r.2.2 - r.2.1).toNat).map fun (i : Nat) => (r.2.1 + (i : Int), r.1)

/-- Kinds with their minutes, from e on. -/
def numb : Int → List Int → List (Int × Int)
  | _, [] => []
  | e, k :: ks => (e, k) :: numb (e + 1) ks

theorem numb_len : ∀ (ks : List Int) (e : Int), (numb e ks).length = ks.length
  | [], _ => rfl
  | _ :: ks, e => by rw [numb, List.length_cons, numb_len ks, List.length_cons]

theorem numb_append : ∀ (a b : List Int) (e : Int), numb e (a ++ b) = numb e a ++ numb (e + a.length) b
  | [], b, e => by simp [numb]
  | k :: a, b, e => by
    rw [List.cons_append, numb, numb_append a, numb, List.cons_append, List.length_cons]
    have : e + 1 + (a.length : Int) = e + ((a.length + 1 : Nat) : Int) := by omega
    rw [this]

theorem numb_rep (k : Int) : ∀ (n : Nat) (e : Int), numb e (List.replicate n k) = (List.range n).map fun (i : Nat) => (e + (i : Int), k)
  | 0, _ => rfl
  | n + 1, e => by
    rw [List.replicate_succ', numb_append, numb_rep k n e, List.range_succ, List.map_append, List.length_replicate]
    rfl

theorem numb_at : ∀ (ks : List Int) (e : Int) (i : Nat), (numb e ks)[i]? = ks[i]?.map fun k => (e + (i : Int), k)
  | [], _, _ => by simp [numb]
  | k :: ks, e, 0 => by simp [numb]
  | k :: ks, e, i + 1 => by
    rw [numb, List.getElem?_cons_succ, numb_at ks (e + 1) i, List.getElem?_cons_succ]
    have : e + 1 + (i : Int) = e + ((i + 1 : Nat) : Int) := by omega
    rw [this]

theorem numb_snd : ∀ (ks : List Int) (e : Int), (numb e ks).map (·.2) = ks
  | [], _ => rfl
  | k :: ks, e => by rw [numb, List.map_cons, numb_snd ks]

theorem mins_numb {l : List Rc} : ∀ {e : Int}, Tl e l → minsV l = numb e (kindsV l) := by
  induction l with
  | nil => intro e _; rfl
  | cons r l ih =>
    intro e h
    obtain ⟨⟨h1, h2⟩, h3, h4⟩ := h
    subst h3
    rw [kinds_cons, numb_append, numb_rep, List.length_replicate]
    have e2 : r.2.1 + (((r.2.2 - r.2.1).toNat : Nat) : Int) = r.2.2 := by omega
    rw [e2, ← ih h4]
    rfl

/-- What Each hands on. -/
theorem each_is {l : List Rc} {e : Int} (h : Tl e l) : minsV (nrmV l) = numb (beg l) (kindsV l) := by
  rw [nrm_ok h]
  have := norm_tl h
  rw [mins_numb this.1, this.2.1]

theorem each_bad {l : List Rc} (h : (checkV l).2 ≠ 0) : minsV (nrmV l) = [] := by rw [nrm_bad h]; rfl

/-! ### What a timeline of a view has -/

theorem of_back {ks : List Int} {e : Int} (h : ∀ x ∈ ks, 0 ≤ x ∧ x < 4) (h0 : 0 ≤ e) (h1 : e + (ks.length : Int) ≤ 40320) :
    Tl (beg (minsR e ks)) (ofR e ks) ∧ kindsV (ofR e ks) = ks ∧ (ks ≠ [] → beg (ofR e ks) = e) := by
  have := norm_tl (minsR_tl ks e h h0 h1)
  rw [minsR_norm, minsR_kinds] at this
  refine ⟨this.1, this.2.1, fun hne => ?_⟩
  have hn : ofR e ks ≠ [] := by
    intro he
    have := this.2.2.1 he
    cases ks with
    | nil => exact hne rfl
    | cons k ks => rw [minsR] at this; cases this
  obtain ⟨k, ks', rfl⟩ : ∃ k ks', ks = k :: ks' := by
    cases ks with
    | nil => exact absurd rfl hne
    | cons k ks => exact ⟨k, ks, rfl⟩
  have ht := this.1
  have hb : beg (minsR e (k :: ks')) = e := rfl
  rw [hb] at ht
  cases hof : ofR e (k :: ks') with
  | nil => exact absurd hof hn
  | cons r l => rw [hof] at ht; exact ht.2.1

/-! ### Spells -/

/-- One more minute of the kind: the last spell's end is moved, where it ends there. -/
def spell (out : List Sp) (i : Nat) : List Sp :=
  match out.getLast? with
  | some (a, b) => if b = (i : Int) then out.dropLast ++ [(a, (i : Int) + 1)] else out ++ [((i : Int), (i : Int) + 1)]
  | none => out ++ [((i : Int), (i : Int) + 1)]

def spells (h : Nat → Bool) : Nat → List Sp
  | 0 => []
  | i + 1 => if h i then spell (spells h i) i else spells h i

theorem spell_nil (i : Nat) : spell [] i = [((i : Int), (i : Int) + 1)] := rfl
theorem spell_same (o : List Sp) (a : Int) (i : Nat) : spell (o ++ [(a, (i : Int))]) i = o ++ [(a, (i : Int) + 1)] := by unfold spell; simp
theorem spell_other (o : List Sp) {a b : Int} {i : Nat} (h : b ≠ i) : spell (o ++ [(a, b)]) i = o ++ [(a, b)] ++ [((i : Int), (i : Int) + 1)] := by unfold spell; simp [h]

theorem spells_yes {h : Nat → Bool} {i : Nat} (e : h i = true) : spells h (i + 1) = spell (spells h i) i := by rw [spells, if_pos e]
theorem spells_no {h : Nat → Bool} {i : Nat} (e : h i = false) : spells h (i + 1) = spells h i := by rw [spells, if_neg (by rw [e]; exact Bool.false_ne_true)]

/-- The last one ends here just if the minute ahead has the kind; no one ends later. -/
theorem spells_last (h : Nat → Bool) : ∀ i : Nat, (∀ (o : List Sp) (a b : Int), spells h i = o ++ [(a, b)] → b ≤ (i : Int) ∧ a < b ∧ (b = (i : Int) ↔ 0 < i ∧ h (i - 1) = true)) ∧ (spells h i = [] → ¬ (0 < i ∧ h (i - 1) = true))
  | 0 => ⟨fun o a b e => by simp [spells] at e, fun _ c => absurd c.1 (by omega)⟩
  | i + 1 => by
    obtain ⟨ih, ih2⟩ := spells_last h i
    rw [Nat.add_sub_cancel]
    cases hi : h i with
    | false =>
      rw [spells_no hi]
      refine ⟨fun o a b e => ?_, fun _ c => absurd c.2 (by simp)⟩
      obtain ⟨h1, h2, _⟩ := ih o a b e
      refine ⟨by omega, h2, ⟨fun e => by exfalso; omega, fun c => absurd c.2 (by simp)⟩⟩
    | true =>
      rw [spells_yes hi]
      have key : ∃ o a, a < (i : Int) + 1 ∧ spell (spells h i) i = o ++ [(a, (i : Int) + 1)] := by
        rcases List.eq_nil_or_concat (spells h i) with e | ⟨o, ⟨a, b⟩, e⟩
        · rw [e]; exact ⟨[], (i : Int), by omega, rfl⟩
        · rw [List.concat_eq_append] at e
          obtain ⟨h1, h2, _⟩ := ih o a b e
          rw [e]
          by_cases hb : b = (i : Int)
          · subst hb; exact ⟨o, a, by omega, spell_same o a i⟩
          · exact ⟨o ++ [(a, b)], (i : Int), by omega, spell_other o hb⟩
      obtain ⟨o, a, ha, e⟩ := key
      rw [e]
      refine ⟨fun o2 a2 b2 e2 => ?_, fun c => by simp at c⟩
      have := List.append_inj' e2 rfl
      simp only [List.cons.injEq, Prod.mk.injEq, and_true] at this
      obtain ⟨_, rfl, rfl⟩ := this
      exact ⟨by omega, ha, ⟨fun _ => ⟨by omega, rfl⟩, fun _ => by omega⟩⟩

theorem spells_len (h : Nat → Bool) : ∀ i, (spells h i).length ≤ i
  | 0 => Nat.le_refl _
  | i + 1 => by
    have ih := spells_len h i
    cases hi : h i with
    | false => rw [spells_no hi]; omega
    | true =>
      rw [spells_yes hi]
      rcases List.eq_nil_or_concat (spells h i) with e | ⟨o, ⟨a, b⟩, e⟩
      · rw [e, spell_nil]; simp
      · rw [List.concat_eq_append] at e
        rw [e] at ih ⊢
        by_cases hb : b = (i : Int)
        · subst hb; rw [spell_same]; simp at ih ⊢; omega
        · rw [spell_other o hb]; simp at ih ⊢; omega

/-- The spells have just the minutes of the kind. -/
theorem spells_has (h : Nat → Bool) : ∀ n (m : Int), hasL (spells h n) m = true ↔ ∃ i : Nat, i < n ∧ m = (i : Int) ∧ h i = true
  | 0, m => by simp [spells, hasL_nil]
  | n + 1, m => by
    have ih := spells_has h n m
    cases hi : h n with
    | false =>
      rw [spells_no hi, ih]
      constructor
      · rintro ⟨i, h1, h2, h3⟩; exact ⟨i, by omega, h2, h3⟩
      · rintro ⟨i, h1, h2, h3⟩
        refine ⟨i, ?_, h2, h3⟩
        rcases Nat.lt_or_ge i n with c | c
        · exact c
        · obtain rfl : i = n := by omega
          rw [hi] at h3; cases h3
    | true =>
      have key : hasL (spell (spells h n) n) m = true ↔ hasL (spells h n) m = true ∨ m = (n : Int) := by
        rcases List.eq_nil_or_concat (spells h n) with e | ⟨o, ⟨a, b⟩, e⟩
        · rw [e, spell_nil, hasL_cons, hasL_nil]
          simp [hasS]
          omega
        · rw [List.concat_eq_append] at e
          obtain ⟨h1, h2, _⟩ := (spells_last h n).1 o a b e
          rw [e]
          by_cases hb : b = (n : Int)
          · subst hb
            rw [spell_same, hasL_append, hasL_append, hasL_cons, hasL_cons, hasL_nil]
            simp only [Bool.or_eq_true, hasS_iff, Bool.false_eq_true, or_false]
            constructor
            · rintro (c | c)
              · exact .inl (.inl c)
              · by_cases hm : m = (n : Int)
                · exact .inr hm
                · exact .inl (.inr (by omega))
            · rintro ((c | c) | c)
              · exact .inl c
              · exact .inr (by omega)
              · exact .inr (by omega)
          · rw [spell_other o hb, hasL_append, hasL_cons, hasL_nil]
            simp only [Bool.or_eq_true, hasS_iff, Bool.false_eq_true, or_false]
            constructor
            · rintro (c | c)
              · exact .inl c
              · exact .inr (by omega)
            · rintro (c | c)
              · exact .inl c
              · exact .inr (by omega)
      rw [spells_yes hi, key, ih]
      constructor
      · rintro (⟨i, h1, h2, h3⟩ | rfl)
        · exact ⟨i, by omega, h2, h3⟩
        · exact ⟨n, by omega, rfl, hi⟩
      · rintro ⟨i, h1, h2, h3⟩
        rcases Nat.lt_or_ge i n with c | c
        · exact .inl ⟨i, c, h2, h3⟩
        · exact .inr (by omega)

theorem spells_none {h : Nat → Bool} (hn : ∀ i, h i = false) : ∀ n, spells h n = []
  | 0 => rfl
  | n + 1 => by rw [spells_no (hn n), spells_none hn n]

/-- The spells of a kind in letters. -/
def spellsV (s : ByteArray) (k : Int) : List Sp := spells (fun i => hasK k (bt s i)) s.size

theorem spellsV_at (s : ByteArray) (k : Int) (i : Nat) (h : i < s.size) : hasL (spellsV s k) i = hasK k (bt s i) := by
  rw [Bool.eq_iff_iff]
  unfold spellsV
  rw [spells_has]
  constructor
  · rintro ⟨j, h1, h2, h3⟩
    obtain rfl : i = j := by omega
    exact h3
  · intro c
    exact ⟨i, h, rfl, c⟩

end Go.Proofs.Ytgmcikajhnnaaaa

/- Timelines as bytes in plain words: days, the bytes of a day, the parts of a timeline day by day. Conditions: none beyond each lemma's own premises. -/
namespace Go.Proofs.Ytgmcikajhnnaaaa

/-- A change as a number. -/
def num (r : Rc) : Int := 2048 * r.1 + r.2.1 % 1440
def nums (l : List Rc) : List Int := l.map num
def two (n : Int) : List UInt8 := (layB n).data.toList
def twos (ns : List Int) : List UInt8 := ns.flatMap two
/-- The bytes of a day. -/
def dayT (R : List Rc) : List UInt8 := two (R.length : Nat) ++ twos (nums R)

def val (x y : UInt8) : Int := 256 * (x.toNat : Int) + (y.toNat : Int)

theorem val_bd (x y : UInt8) : 0 ≤ val x y ∧ val x y ≤ 65535 := by
  have h1 := x.toNat_lt
  have h2 := y.toNat_lt
  unfold val
  omega

theorem two_val (x y : UInt8) : two (val x y) = [x, y] := by
  have h1 := x.toNat_lt
  have h2 := y.toNat_lt
  have e1 : (val x y / 256).toNat = x.toNat := by unfold val; omega
  have e2 : (val x y % 256).toNat = y.toNat := by unfold val; omega
  show [UInt8.ofNat (val x y / 256).toNat, UInt8.ofNat (val x y % 256).toNat] = _
  rw [e1, e2]
  simp

theorem two_is {n : Int} (h0 : 0 ≤ n) (h1 : n ≤ 65535) : ∃ x y, two n = [x, y] ∧ val x y = n := by
  refine ⟨_, _, rfl, ?_⟩
  unfold val
  rw [byte_nat (by omega) (by omega), byte_nat (by omega) (by omega)]
  omega

theorem two_len (n : Int) : (two n).length = 2 := rfl
theorem twos_cons (n : Int) (ns : List Int) : twos (n :: ns) = two n ++ twos ns := rfl
theorem twos_append (a b : List Int) : twos (a ++ b) = twos a ++ twos b := by simp [twos]
theorem twos_len (ns : List Int) : (twos ns).length = 2 * ns.length := by
  induction ns with
  | nil => rfl
  | cons n ns ih => rw [twos_cons, List.length_append, ih, two_len, List.length_cons]; omega
theorem nums_append (a b : List Rc) : nums (a ++ b) = nums a ++ nums b := by simp [nums]
theorem nums_len (l : List Rc) : (nums l).length = l.length := by simp [nums]
theorem dayT_len (R : List Rc) : (dayT R).length = 2 + 2 * R.length := by
  unfold dayT
  rw [List.length_append, two_len, twos_len, nums_len]

/-! ### Days -/

/-- Where the day ends that has the minute. -/
def dEnd (a : Int) : Int := a - a % 1440 + 1440

def days : Nat → Int → Int → List (Int × Int)
  | 0, _, _ => []
  | n + 1, a, b => if a < b then (a, lo2 (dEnd a) b) :: days n (lo2 (dEnd a) b) b else []

def daysV (a b : Int) : List (Int × Int) := days (b - a).toNat a b

theorem day_step {a b : Int} (h : a < b) : a < lo2 (dEnd a) b ∧ lo2 (dEnd a) b ≤ b ∧ lo2 (dEnd a) b ≤ dEnd a := by
  have h1 := lo2_is (dEnd a) b
  unfold dEnd at *
  omega

theorem days_one {n : Nat} {a b : Int} (h : a < b) (hn : b - a ≤ (n : Int)) : ∃ k, n = k + 1 ∧ b - lo2 (dEnd a) b ≤ (k : Int) ∧ days n a b = (a, lo2 (dEnd a) b) :: days k (lo2 (dEnd a) b) b := by
  obtain ⟨k, rfl⟩ : ∃ k, n = k + 1 := ⟨n - 1, by omega⟩
  have := day_step h
  exact ⟨k, rfl, by omega, by rw [days, if_pos h]⟩

theorem days_end {n : Nat} {a b : Int} (h : b ≤ a) : days n a b = [] := by
  cases n with
  | zero => rfl
  | succ n => rw [days, if_neg (by omega)]

theorem days_len : ∀ (n : Nat) (a b : Int), (days n a b).length ≤ n
  | 0, _, _ => Nat.le_refl _
  | n + 1, a, b => by
    rw [days]
    split
    · have := days_len n (lo2 (dEnd a) b) b
      simp; omega
    · simp

/-- Spans one behind the other, each within a day. -/
def Chn : Int → Int → List (Int × Int) → Prop
  | a, b, [] => a = b
  | a, b, s :: l => s.1 = a ∧ a < s.2 ∧ s.2 ≤ dEnd a ∧ s.2 ≤ b ∧ Chn s.2 b l

theorem chn_days : ∀ (n : Nat) {a b : Int}, a ≤ b → b - a ≤ (n : Int) → Chn a b (days n a b)
  | 0, a, b, h1, h2 => by
    show a = b
    omega
  | n + 1, a, b, h1, h2 => by
    by_cases h : a < b
    · have hs := day_step h
      rw [days, if_pos h]
      exact ⟨rfl, hs.1, hs.2.2, hs.2.1, chn_days n hs.2.1 (by omega)⟩
    · rw [days, if_neg h]
      show a = b
      omega

theorem chn_daysV {a b : Int} (h : a ≤ b) : Chn a b (daysV a b) := chn_days _ h (by omega)

/-! ### The kinds of a span's minutes -/

def slc (at_ : Int) (ks : List Int) (a b : Int) : List Int := (ks.drop (a - at_).toNat).take (b - a).toNat

theorem cutS_slc {a b : Int} : ∀ (ks : List Int) (f : Int) (out : List Int) (e : Int), (cutS a b (f, out, e) ks).2.1 = out ++ (ks.drop (a - e).toNat).take (b - up2 e a).toNat
  | [], f, out, e => by simp [cutS]
  | k :: ks, f, out, e => by
    have hs : cutS a b (f, out, e) (k :: ks) = cutS a b (cutStep a b (f, out, e) k) ks := rfl
    have hu := up2_is e a
    have hv := up2_is (e + 1) a
    rw [hs]
    unfold cutStep
    dsimp only
    by_cases h : a ≤ e ∧ e < b
    · rw [if_pos h, cutS_slc ks]
      rw [show (a - (e + 1)).toNat = 0 by omega, show (a - e).toNat = 0 by omega, show (b - up2 e a).toNat = (b - up2 (e + 1) a).toNat + 1 by omega]
      simp
    · rw [if_neg h, cutS_slc ks]
      by_cases h2 : e < a
      · rw [show (a - e).toNat = (a - (e + 1)).toNat + 1 by omega, show up2 e a = up2 (e + 1) a by omega]
        simp
      · rw [show (b - up2 e a).toNat = 0 by omega, show (b - up2 (e + 1) a).toNat = 0 by omega]
        simp

theorem within_kinds {a b : Int} {l : List Rc} {e : Int} (h : Tl e l) (ha : beg l ≤ a) : kindsV (withinV a b l) = slc (beg l) (kindsV l) a b := by
  rw [← (cut_is h).2, cutS_slc]
  have := up2_is (beg l) a
  rw [show up2 (beg l) a = a by omega]
  rfl

theorem within_beg {a b : Int} {l : List Rc} : ∀ {e : Int}, Tl e l → l ≠ [] → up2 e a < lo2 (fin l) b → withinV a b l ≠ [] ∧ beg (withinV a b l) = up2 e a := by
  induction l with
  | nil => intro e _ h; exact absurd rfl h
  | cons r l ih =>
    intro e ht _ hab
    obtain ⟨⟨h1, h2⟩, h3, h4⟩ := ht
    subst h3
    rw [within_cons]
    have hu := up2_is r.2.1 a
    have hv := lo2_is r.2.2 b
    by_cases hc : up2 r.2.1 a < lo2 r.2.2 b
    · rw [if_pos hc]
      exact ⟨by simp, rfl⟩
    · rw [if_neg hc]
      cases l with
      | nil =>
        exact absurd hab hc
      | cons s l =>
        have hw := lo2_is (fin (r :: s :: l)) b
        have hu2 := up2_is r.2.2 a
        have hf : fin (r :: s :: l) = fin (s :: l) := rfl
        rw [hf] at hab hw
        have := ih h4 (by simp) (by omega)
        rw [show up2 r.2.1 a = up2 r.2.2 a by omega]
        exact this

/-- The normal timeline of a span's minutes, minute by minute. -/
def partR (at_ : Int) (ks : List Int) (s : Int × Int) : List Rc := ofR s.1 (slc at_ ks s.1 s.2)
def cutR (l : List Rc) (s : Int × Int) : List Rc := normV (withinV s.1 s.2 l)

theorem cut_part {a b : Int} {l : List Rc} {e : Int} (h : Tl e l) (hne : l ≠ []) (ha : beg l ≤ a) (hab : a < b) (hb : b ≤ fin l) : cutR l (a, b) = partR (beg l) (kindsV l) (a, b) := by
  have hu := up2_is (beg l) a
  have hv := lo2_is (fin l) b
  have hw := within_beg (a := a) (b := b) h.from_ hne (by omega)
  unfold cutR partR
  rw [← within_kinds h ha, ← norm_of (within_tl hab h), hw.2, show up2 (beg l) a = a by omega]

theorem slc_more {at_ a e : Int} {ks : List Int} {k : Int} (ha : at_ ≤ a) (he : a ≤ e) (hk : ks[(e - at_).toNat]? = some k) : partR at_ ks (a, e + 1) = put (partR at_ ks (a, e)) k e (e + 1) := by
  unfold partR slc
  have h2 : (ks.drop (a - at_).toNat)[(e - a).toNat]? = some k := by
    rw [List.getElem?_drop, show (a - at_).toNat + (e - a).toNat = (e - at_).toNat by omega]
    exact hk
  have h3 := of_more (at_ := a) h2
  rw [show a + (((e - a).toNat : Nat) : Int) = e by omega] at h3
  dsimp only
  rw [show (e + 1 - a).toNat = (e - a).toNat + 1 by omega]
  exact h3

theorem put_last (out : List Rc) (k f t : Int) : ∃ o b, put out k f t = o ++ [(k, b, t)] := by
  rcases List.eq_nil_or_concat out with rfl | ⟨o, ⟨a, b, c⟩, rfl⟩
  · exact ⟨[], f, rfl⟩
  · by_cases h : a = k
    · subst h; simp only [List.concat_eq_append]; exact ⟨o, b, put_same o b c a f t⟩
    · simp only [List.concat_eq_append]; exact ⟨_, f, put_other o h⟩

/-! ### The bytes of a timeline -/

def daysT (ds : List (Int × Int)) (f : Int × Int → List Rc) : List UInt8 := ds.flatMap fun s => dayT (f s)
def bodyV (a b : Int) (f : Int × Int → List Rc) : List UInt8 := [72, 68] ++ two a ++ two b ++ daysT (daysV a b) f
def bodyL (l : List Rc) : List UInt8 := bodyV (beg l) (fin l) (cutR l)

theorem daysT_cons (s : Int × Int) (ds : List (Int × Int)) (f : Int × Int → List Rc) : daysT (s :: ds) f = dayT (f s) ++ daysT ds f := rfl
theorem daysT_append (a b : List (Int × Int)) (f : Int × Int → List Rc) : daysT (a ++ b) f = daysT a f ++ daysT b f := by simp [daysT]

theorem chn_congr {f g : Int × Int → List Rc} : ∀ {ds : List (Int × Int)} {a b lo hi : Int}, Chn a b ds → lo ≤ a → b ≤ hi → (∀ x y, lo ≤ x → x < y → y ≤ hi → f (x, y) = g (x, y)) → daysT ds f = daysT ds g
  | [], _, _, _, _, _, _, _, _ => rfl
  | (x, y) :: ds, a, b, lo, hi, h, hl, hh, hf => by
    obtain ⟨h1, h2, _, h4, h5⟩ := h
    dsimp only at h1 h2 h4 h5
    subst h1
    rw [daysT_cons, daysT_cons, hf x y hl h2 (by omega), chn_congr h5 (by omega : lo ≤ y) hh hf]

/-- What Encode tells. -/
def encV (l : List Rc) : ByteArray × Int := if (checkV l).2 = 0 then (if l = [] then (⟨#[]⟩, 13) else (sealB ⟨(bodyL l).toArray⟩, 0)) else (⟨#[]⟩, (checkV l).2)

theorem enc_bad {l : List Rc} (h : (checkV l).2 ≠ 0) : encV l = (⟨#[]⟩, (checkV l).2) := if_neg h
theorem enc_none : encV [] = (⟨#[]⟩, 13) := rfl
theorem enc_ok {l : List Rc} (h : (checkV l).2 = 0) (hne : l ≠ []) : encV l = (sealB ⟨(bodyL l).toArray⟩, 0) := by
  unfold encV
  rw [if_pos h, if_neg hne]

end Go.Proofs.Ytgmcikajhnnaaaa

/- Bytes as timelines in plain words: what is decoded, and that it is there and back. Conditions: none beyond each lemma's own premises. -/
namespace Go.Proofs.Ytgmcikajhnnaaaa

/-! ### Reading -/

def toldOk (n : Int) : Prop := 0 ≤ n ∧ n < 8192 ∧ n % 2048 < 1440
instance (n : Int) : Decidable (toldOk n) := by unfold toldOk; infer_instance

/-- A day's records behind one more change, or that it may not be. -/
def stepV (a b : Int) (l : List Rc) (n : Int) : Option (List Rc) :=
  if toldOk n then
    match l.getLast? with
    | none => if a - a % 1440 + n % 2048 = a then some [(n / 2048, a - a % 1440 + n % 2048, b)] else none
    | some (k, f, _) => if f < a - a % 1440 + n % 2048 ∧ a - a % 1440 + n % 2048 < b ∧ k ≠ n / 2048 then some (l.dropLast ++ [(k, f, a - a % 1440 + n % 2048)] ++ [(n / 2048, a - a % 1440 + n % 2048, b)]) else none
  else none

theorem step_bad {a b n : Int} {l : List Rc} (h : ¬ toldOk n) : stepV a b l n = none := if_neg h
theorem step_nil {a b n : Int} (h : toldOk n) : stepV a b [] n = if a - a % 1440 + n % 2048 = a then some [(n / 2048, a - a % 1440 + n % 2048, b)] else none := if_pos h
theorem step_snoc {a b n k f e : Int} {o : List Rc} (h : toldOk n) : stepV a b (o ++ [(k, f, e)]) n =
    if f < a - a % 1440 + n % 2048 ∧ a - a % 1440 + n % 2048 < b ∧ k ≠ n / 2048 then some (o ++ [(k, f, a - a % 1440 + n % 2048)] ++ [(n / 2048, a - a % 1440 + n % 2048, b)]) else none := by
  unfold stepV
  rw [if_pos h]
  simp

def rdN (a b : Int) : Nat → List Rc → List UInt8 → Option (List Rc × List UInt8)
  | 0, l, u => some (l, u)
  | n + 1, l, x :: y :: u => (stepV a b l (val x y)).bind fun l' => rdN a b n l' u
  | _ + 1, _, [_] => none
  | _ + 1, _, [] => none

def rdDay (a b : Int) : List UInt8 → Option (List Rc × List UInt8)
  | x :: y :: u => if val x y = 0 then none else rdN a b (val x y).toNat [] u
  | [_] => none
  | [] => none

def rdDays : List (Int × Int) → List UInt8 → Option (List (List Rc) × List UInt8)
  | [], u => some ([], u)
  | s :: ss, u => (rdDay s.1 s.2 u).bind fun q => (rdDays ss q.2).map fun r => (q.1 :: r.1, r.2)

/-- What the bytes ahead of the sum are decoded as. -/
def decT : List UInt8 → Option (List Rc)
  | h :: d :: a1 :: a2 :: b1 :: b2 :: u =>
    if h = 72 ∧ d = 68 ∧ val a1 a2 < val b1 b2 ∧ val b1 b2 ≤ 40320 then
      match rdDays (daysV (val a1 a2) (val b1 b2)) u with
      | some (P, []) => some (normV P.flatten)
      | _ => none
    else none
  | _ => none

/-! ### What is right on a day -/

structure VD (a b : Int) (R : List Rc) : Prop where
  tl : Tl a R
  ne : R ≠ []
  en : fin R = b
  nm : normV R = R

theorem norm_snoc (l : List Rc) (r : Rc) : normV (l ++ [r]) = put (normV l) r.1 r.2.1 r.2.2 := by
  unfold normV
  rw [List.foldl_append]
  rfl

theorem put_inv {X Q : List Rc} {k f t k' f' t' : Int} (h : put X k f t = Q ++ [(k', f', t')]) (hX : X.length ≤ Q.length) : X = Q ∧ k' = k ∧ f' = f ∧ t' = t ∧ (∀ o a b c, X = o ++ [(a, b, c)] → a ≠ k) := by
  rcases List.eq_nil_or_concat X with rfl | ⟨o, ⟨a, b, c⟩, rfl⟩
  · rw [put_nil] at h
    have hq : Q = [] := by
      have := congrArg List.length h
      simpa using this
    subst hq
    simp at h
    exact ⟨rfl, h.1.symm, h.2.1.symm, h.2.2.symm, fun o a b c e => by simp at e⟩
  · simp only [List.concat_eq_append] at *
    by_cases hk : a = k
    · subst hk
      rw [put_same] at h
      have := congrArg List.length h
      simp at this hX
      omega
    · rw [put_other o hk] at h
      have h2 := List.append_inj' h rfl
      have h3 := h2.2
      simp at h3
      refine ⟨h2.1, h3.1.symm, h3.2.1.symm, h3.2.2.symm, fun o' a' b' c' e => ?_⟩
      have e2 := (List.append_inj' e rfl).2
      simp at e2
      rw [← e2.1]; exact hk

theorem put_end {X o : List Rc} {k f e e' f' : Int} (h : put X k f e = o ++ [(k, f', e)]) : put X k f e' = o ++ [(k, f', e')] := by
  rcases List.eq_nil_or_concat X with rfl | ⟨p, ⟨a, b, c⟩, rfl⟩
  · rw [put_nil] at h ⊢
    have h2 := List.append_inj' (show [] ++ [(k, f, e)] = o ++ [(k, f', e)] from h) rfl
    rw [← h2.1]
    have := h2.2
    simp at this
    rw [this]; rfl
  · simp only [List.concat_eq_append] at *
    by_cases hk : a = k
    · subst hk
      rw [put_same] at h ⊢
      have h2 := List.append_inj' h rfl
      have := h2.2
      simp at this
      rw [h2.1, this]
    · rw [put_other p hk] at h ⊢
      have h2 := List.append_inj' h rfl
      have := h2.2
      simp at this
      rw [h2.1, this]

/-- A day's records taken apart: ahead of the last one they are right up to its begin. -/
theorem vd_snoc {a b : Int} {Q : List Rc} {r : Rc} (h : VD a b (Q ++ [r])) : r.2.2 = b ∧ ((0 ≤ r.1 ∧ r.1 < 4) ∧ (0 ≤ r.2.1 ∧ r.2.1 < r.2.2 ∧ r.2.2 ≤ 40320)) ∧ Tl a Q ∧ normV Q = Q ∧ r.2.1 = (if Q = [] then a else fin Q) ∧ (∀ o k x y, Q = o ++ [(k, x, y)] → k ≠ r.1) := by
  have hi := h.tl.init
  have hf := (Tl.snoc hi.1 hi.2.1 hi.2.2).2
  have hn := h.nm
  rw [norm_snoc] at hn
  obtain ⟨r1, r2, r3⟩ := r
  have hp := put_inv hn (norm_len Q)
  refine ⟨by rw [← hf]; exact h.en, hi.2.1, hi.1, hp.1, hi.2.2, fun o k x y e => hp.2.2.2.2 o k x y (by rw [hp.1]; exact e)⟩

theorem vd_move {a b : Int} {o : List Rc} {k x y : Int} (h : Tl a (o ++ [(k, x, y)])) (hn : normV (o ++ [(k, x, y)]) = o ++ [(k, x, y)]) (hb : x < b) (hm : b ≤ 40320) : VD a b (o ++ [(k, x, b)]) := by
  have hi := h.init
  obtain ⟨h1, ⟨h2, h3⟩, h4⟩ := hi
  dsimp only at h2 h3 h4
  have hs := Tl.snoc (r := (k, x, b)) h1 ⟨h2, by dsimp only; omega⟩ h4
  refine ⟨hs.1, by simp, hs.2, ?_⟩
  rw [norm_snoc] at hn ⊢
  exact put_end hn

theorem vd_one {a b k : Int} (hk : 0 ≤ k ∧ k < 4) (ha : 0 ≤ a) (hab : a < b) (hb : b ≤ 40320) : VD a b [(k, a, b)] :=
  ⟨⟨⟨hk, by dsimp only; omega⟩, rfl, trivial⟩, by simp, rfl, rfl⟩

theorem vd_two {a b : Int} {o : List Rc} {k f m k2 : Int} (h : VD a m (o ++ [(k, f, m)])) (hk : 0 ≤ k2 ∧ k2 < 4) (hne : k ≠ k2) (hm : m < b) (hb : b ≤ 40320) : VD a b (o ++ [(k, f, m)] ++ [(k2, m, b)]) := by
  have hl := h.tl.len (by simp)
  have hf : fin (o ++ [(k, f, m)]) = m := h.en
  have hs := Tl.snoc (r := (k2, m, b)) h.tl ⟨hk, by dsimp only; omega⟩ (by rw [if_neg (by simp)]; exact hf.symm)
  refine ⟨hs.1, by simp, hs.2, ?_⟩
  rw [norm_snoc, h.nm]
  exact put_other o hne

/-! ### What is read is right -/

theorem num_of {k f n a : Int} (hk : k = n / 2048) (hf : f = a - a % 1440 + n % 2048) (hn : toldOk n) : 2048 * k + f % 1440 = n := by
  unfold toldOk at hn
  omega

theorem step_sound {a b n : Int} {l l' : List Rc} (h : stepV a b l n = some l') (ha : 0 ≤ a) (hab : a < b) (hb : b ≤ 40320) (hl : l = [] ∨ VD a b l) : VD a b l' ∧ nums l' = nums l ++ [n] := by
  by_cases hn : toldOk n
  · have hn' := hn
    unfold toldOk at hn'
    rcases List.eq_nil_or_concat l with rfl | ⟨o, ⟨k, f, e⟩, rfl⟩
    · rw [step_nil hn] at h
      by_cases hc : a - a % 1440 + n % 2048 = a
      · rw [if_pos hc] at h
        injection h with h
        subst h
        rw [hc]
        refine ⟨vd_one (by omega) ha hab hb, ?_⟩
        show [2048 * (n / 2048) + a % 1440] = [n]
        rw [num_of rfl hc.symm hn]
      · rw [if_neg hc] at h; cases h
    · simp only [List.concat_eq_append] at *
      rw [step_snoc hn] at h
      by_cases hc : f < a - a % 1440 + n % 2048 ∧ a - a % 1440 + n % 2048 < b ∧ k ≠ n / 2048
      · rw [if_pos hc] at h
        injection h with h
        subst h
        rcases hl with hl | hl
        · simp at hl
        · have hv := vd_snoc hl
          dsimp only at hv
          obtain ⟨rfl, h2, h3, h4, h5, h6⟩ := hv
          have hm := vd_move (b := a - a % 1440 + n % 2048) hl.tl hl.nm hc.1 (by omega)
          refine ⟨vd_two hm (by omega) hc.2.2 hc.2.1 hb, ?_⟩
          rw [nums_append, nums_append, nums_append]
          show nums o ++ [2048 * k + f % 1440] ++ [2048 * (n / 2048) + (a - a % 1440 + n % 2048) % 1440] = nums o ++ [2048 * k + f % 1440] ++ [n]
          rw [num_of rfl rfl hn]
      · rw [if_neg hc] at h; cases h
  · rw [step_bad hn] at h; cases h

theorem rdN_sound {a b : Int} (ha : 0 ≤ a) (hab : a < b) (hb : b ≤ 40320) (n : Nat) : ∀ (l : List Rc) (u : List UInt8) (l' : List Rc) (v : List UInt8), rdN a b n l u = some (l', v) → (l = [] ∨ VD a b l) →
    ∃ ns, u = twos ns ++ v ∧ ns.length = n ∧ nums l' = nums l ++ ns ∧ (l' = [] ∨ VD a b l') := by
  induction n with
  | zero =>
    intro l u l' v h hl
    have e : some (l, u) = some (l', v) := h
    injection e with e
    injection e with e1 e2
    subst e1 e2
    exact ⟨[], rfl, rfl, by simp, hl⟩
  | succ n ih =>
    intro l u l' v h hl
    rcases u with _ | ⟨x, _ | ⟨y, u⟩⟩
    · cases h
    · cases h
    · have h' : ((stepV a b l (val x y)).bind fun l' => rdN a b n l' u) = some (l', v) := h
      obtain ⟨l1, h1, h2⟩ := Option.bind_eq_some_iff.1 h'
      have hs := step_sound h1 ha hab hb hl
      obtain ⟨ns, e1, e2, e3, e4⟩ := ih l1 u l' v h2 (.inr hs.1)
      refine ⟨val x y :: ns, ?_, by simp [e2], by rw [e3, hs.2]; simp, e4⟩
      rw [twos_cons, two_val, e1]
      rfl

theorem rdDay_sound {a b : Int} (ha : 0 ≤ a) (hab : a < b) (hb : b ≤ 40320) {u v : List UInt8} {R : List Rc} (h : rdDay a b u = some (R, v)) : VD a b R ∧ u = dayT R ++ v := by
  match u, h with
  | [], h => simp [rdDay] at h
  | [_], h => simp [rdDay] at h
  | x :: y :: u, h =>
    rw [rdDay] at h
    have hv := val_bd x y
    by_cases h0 : val x y = 0
    · rw [if_pos h0] at h; cases h
    · rw [if_neg h0] at h
      obtain ⟨ns, e1, e2, e3, e4⟩ := rdN_sound ha hab hb _ _ _ _ _ h (.inl rfl)
      have hl : R.length = (val x y).toNat := by
        have := congrArg List.length e3
        rw [nums_len] at this
        simp [nums, e2] at this
        exact this
      refine ⟨e4.resolve_left (fun e => ?_), ?_⟩
      · rw [e] at hl; simp at hl; omega
      · unfold dayT
        rw [hl, show (((val x y).toNat : Nat) : Int) = val x y by omega, two_val, e1, e3]
        simp [nums]

/-- Each day's records are right. -/
def AllV : List (Int × Int) → List (List Rc) → Prop
  | [], [] => True
  | s :: ss, R :: P => VD s.1 s.2 R ∧ AllV ss P
  | _, _ => False

theorem rdDays_sound : ∀ (ss : List (Int × Int)) (a b : Int) (u v : List UInt8) (P : List (List Rc)), Chn a b ss → 0 ≤ a → b ≤ 40320 → rdDays ss u = some (P, v) → AllV ss P ∧ u = P.flatMap dayT ++ v
  | [], a, b, u, v, P, _, _, _, h => by
    simp [rdDays] at h
    obtain ⟨rfl, rfl⟩ := h
    exact ⟨trivial, rfl⟩
  | s :: ss, a, b, u, v, P, hc, h0, h1, h => by
    obtain ⟨hc1, hc2, hc3, hc4, hc5⟩ := hc
    subst hc1
    rw [rdDays] at h
    obtain ⟨⟨R, u'⟩, hd, h⟩ := Option.bind_eq_some_iff.1 h
    obtain ⟨⟨P', v'⟩, hr, h⟩ := Option.map_eq_some_iff.1 h
    simp at h
    obtain ⟨rfl, rfl⟩ := h
    have h2 := rdDay_sound h0 hc2 (by omega) hd
    have h3 := rdDays_sound ss s.2 b u' v' P' hc5 (by omega) h1 hr
    refine ⟨⟨h2.1, h3.1⟩, ?_⟩
    rw [h2.2, h3.2]
    simp

theorem all_tl : ∀ (ss : List (Int × Int)) (P : List (List Rc)) (a b : Int), Chn a b ss → AllV ss P → Tl a P.flatten ∧ (ss ≠ [] → P.flatten ≠ [] ∧ fin P.flatten = b)
  | [], [], a, b, _, _ => ⟨trivial, fun h => absurd rfl h⟩
  | [], _ :: _, _, _, _, h => by cases h
  | _ :: _, [], _, _, _, h => by cases h
  | s :: ss, R :: P, a, b, hc, h => by
    obtain ⟨hc1, hc2, hc3, hc4, hc5⟩ := hc
    subst hc1
    have ih := all_tl ss P s.2 b hc5 h.2
    have hR := h.1
    have key : ∀ (R : List Rc) (e m : Int) (L : List Rc), Tl e R → R ≠ [] → fin R = m → Tl m L → Tl e (R ++ L) ∧ fin (R ++ L) = (if L = [] then m else fin L) := by
      intro R
      induction R with
      | nil => intro e m L _ h; exact absurd rfl h
      | cons r R ih =>
        intro e m L h1 _ h3 h4
        cases R with
        | nil =>
          have h3' : r.2.2 = m := h3
          refine ⟨⟨h1.1, h1.2.1, by rw [h3']; exact h4⟩, ?_⟩
          cases L with
          | nil => rw [if_pos rfl]; exact h3
          | cons x L => rw [if_neg (by simp)]; rfl
        | cons q R =>
          have := ih r.2.2 m L h1.2.2 (by simp) h3 h4
          exact ⟨⟨h1.1, h1.2.1, this.1⟩, this.2⟩
    have hk := key R s.1 s.2 P.flatten hR.tl hR.ne hR.en ih.1
    rw [List.flatten_cons]
    refine ⟨hk.1, fun _ => ⟨by have := hR.ne; simp [this], ?_⟩⟩
    rw [hk.2]
    by_cases hs : ss = []
    · subst hs
      have hP : P = [] := by
        cases P with
        | nil => rfl
        | cons x P => exact absurd h.2 (by intro h; cases h)
      subst hP
      rw [List.flatten_nil, if_pos rfl]
      exact hc5
    · have := ih.2 hs
      rw [if_neg this.1]
      exact this.2

theorem all_part : ∀ (ss : List (Int × Int)) (P : List (List Rc)) (c b at_ : Int) (ks0 ks1 : List Int), Chn c b ss → AllV ss P → at_ + (ks0.length : Int) = c →
    ss.map (partR at_ (ks0 ++ kindsV P.flatten ++ ks1)) = P
  | [], [], _, _, _, _, _, _, _, _ => rfl
  | [], _ :: _, _, _, _, _, _, _, h, _ => by cases h
  | _ :: _, [], _, _, _, _, _, _, h, _ => by cases h
  | s :: ss, R :: P, c, b, at_, ks0, ks1, hc, h, hk => by
    obtain ⟨hc1, hc2, hc3, hc4, hc5⟩ := hc
    subst hc1
    have hR := h.1
    have hl := hR.tl.len hR.ne
    rw [hR.en] at hl
    have hbeg : beg R = s.1 := by
      cases R with
      | nil => exact absurd rfl hR.ne
      | cons r R => exact hR.tl.2.1
    have e1 : partR at_ (ks0 ++ kindsV (R :: P).flatten ++ ks1) s = R := by
      unfold partR slc
      rw [List.flatten_cons, kinds_append, show (s.1 - at_).toNat = ks0.length by omega, show (s.2 - s.1).toNat = (kindsV R).length by omega]
      rw [List.append_assoc, List.append_assoc, List.drop_left, List.take_left]
      have := norm_of hR.tl
      rw [hbeg] at this
      rw [this]
      exact hR.nm
    have ih := all_part ss P s.2 b at_ (ks0 ++ kindsV R) ks1 hc5 h.2 (by rw [List.length_append]; omega)
    rw [List.map_cons, e1]
    congr 1
    rw [List.flatten_cons, kinds_append, ← List.append_assoc]
    exact ih

theorem map_days (ds : List (Int × Int)) (f : Int × Int → List Rc) : daysT ds f = (ds.map f).flatMap dayT := by
  unfold daysT
  rw [List.flatMap_map]

/-- What is decoded is encoded as it was. -/
theorem dec_sound {u : List UInt8} {l : List Rc} (h : decT u = some l) : (checkV l).2 = 0 ∧ l ≠ [] ∧ bodyL l = u := by
  match u, h with
  | h_ :: d :: a1 :: a2 :: b1 :: b2 :: u, h =>
    rw [decT] at h
    by_cases hc : h_ = 72 ∧ d = 68 ∧ val a1 a2 < val b1 b2 ∧ val b1 b2 ≤ 40320
    · rw [if_pos hc] at h
      obtain ⟨rfl, rfl, hab, hb⟩ := hc
      have ha := val_bd a1 a2
      rcases hr : rdDays (daysV (val a1 a2) (val b1 b2)) u with _ | ⟨P, v⟩
      · rw [hr] at h; cases h
      · rw [hr] at h
        cases v with
        | cons x v => cases h
        | nil =>
          injection h with h
          have hch := chn_daysV (a := val a1 a2) (b := val b1 b2) (by omega)
          have hs := rdDays_sound _ _ _ _ _ _ hch ha.1 hb hr
          have hdn : daysV (val a1 a2) (val b1 b2) ≠ [] := by
            obtain ⟨k, _, _, e⟩ := days_one (n := (val b1 b2 - val a1 a2).toNat) hab (by omega)
            unfold daysV
            rw [e]; simp
          have ht := all_tl _ _ _ _ hch hs.1
          obtain ⟨hne, hfin⟩ := ht.2 hdn
          have hbeg : beg P.flatten = val a1 a2 := by
            have := ht.1
            cases hq : P.flatten with
            | nil => exact absurd hq hne
            | cons r L => rw [hq] at this; exact this.2.1
          have hnt := norm_tl ht.1
          rw [hbeg, h] at hnt
          have hlne : l ≠ [] := fun e => hne (hnt.2.2.1 e)
          have hlbeg : beg l = val a1 a2 := by
            cases l with
            | nil => exact absurd rfl hlne
            | cons r L => exact hnt.1.2.1
          have hlen := hnt.1.len hlne
          have hlen2 := ht.1.len hne
          rw [hnt.2.1] at hlen
          have hlfin : fin l = val b1 b2 := by omega
          refine ⟨by rw [tl_check hnt.1], hlne, ?_⟩
          have hp := all_part _ _ _ _ (val a1 a2) [] [] hch hs.1 (by simp)
          simp only [List.nil_append, List.append_nil] at hp
          unfold bodyL bodyV
          rw [hlbeg, hlfin, two_val, two_val, chn_congr (g := partR (val a1 a2) (kindsV P.flatten)) hch (Int.le_refl _) (Int.le_refl _) (fun x y h1 h2 h3 => ?_), map_days, hp, hs.2]
          · simp
          · have := cut_part (a := x) (b := y) hnt.1 hlne (by rw [hlbeg]; exact h1) h2 (by rw [hlfin]; exact h3)
            rw [hlbeg, hnt.2.1] at this
            exact this
    · rw [if_neg hc] at h; cases h

/-! ### What is right is read -/

def runN (a b : Int) : List Int → List Rc → Option (List Rc)
  | [], l => some l
  | n :: ns, l => (stepV a b l n).bind fun l' => runN a b ns l'

theorem runN_snoc (a b : Int) (n : Int) : ∀ (ns : List Int) (l : List Rc), runN a b (ns ++ [n]) l = (runN a b ns l).bind fun l' => stepV a b l' n
  | [], l => by simp [runN]
  | m :: ns, l => by
    rw [List.cons_append, runN, runN]
    cases stepV a b l m with
    | none => rfl
    | some l' => exact runN_snoc a b n ns l'

theorem rdN_run {a b : Int} {v : List UInt8} : ∀ (ns : List Int) (l : List Rc), (∀ n ∈ ns, 0 ≤ n ∧ n ≤ 65535) → rdN a b ns.length l (twos ns ++ v) = (runN a b ns l).map fun l' => (l', v)
  | [], l, _ => rfl
  | n :: ns, l, h => by
    obtain ⟨h0, h1⟩ := h n List.mem_cons_self
    obtain ⟨x, y, e, hv⟩ := two_is h0 h1
    rw [twos_cons, e, List.length_cons]
    show rdN a b (ns.length + 1) l (x :: y :: (twos ns ++ v)) = _
    rw [rdN, hv, runN]
    cases stepV a b l n with
    | none => rfl
    | some l' => exact rdN_run ns l' (fun m hm => h m (List.mem_cons_of_mem _ hm))

theorem vd_run {a b : Int} (ha : 0 ≤ a) (hab : a < b) (hb : b ≤ 40320) (hd : b ≤ dEnd a) : ∀ (m : Nat) (R : List Rc), R.length = m → VD a b R → runN a b (nums R) [] = some R
  | 0, R, hm, h => absurd (List.eq_nil_of_length_eq_zero hm) h.ne
  | m + 1, R, hm, h => by
    rcases List.eq_nil_or_concat R with rfl | ⟨Q, ⟨k, f, e⟩, rfl⟩
    · cases hm
    · simp only [List.concat_eq_append] at *
      obtain ⟨he, ⟨hk, hf⟩, hQ, hn, hq, hkk⟩ := vd_snoc h
      dsimp only at he hk hf hq
      subst he
      unfold dEnd at hd
      have haf : a ≤ f := by
        by_cases hQn : Q = []
        · rw [if_pos hQn] at hq; omega
        · rw [if_neg hQn] at hq
          have := hQ.len hQn
          omega
      have hnum : num (k, f, e) = 2048 * k + f % 1440 := rfl
      have hday : f - f % 1440 = a - a % 1440 := by omega
      have hmod : (2048 * k + f % 1440) % 2048 = f % 1440 := by omega
      have hdiv : (2048 * k + f % 1440) / 2048 = k := by omega
      have hok : toldOk (num (k, f, e)) := by rw [hnum]; unfold toldOk; omega
      have hfe : a - a % 1440 + num (k, f, e) % 2048 = f := by rw [hnum, hmod]; omega
      rw [nums_append]
      show runN a e (nums Q ++ [num (k, f, e)]) [] = _
      rw [runN_snoc]
      rcases List.eq_nil_or_concat Q with rfl | ⟨o, ⟨k0, f0, e0⟩, rfl⟩
      · rw [if_pos rfl] at hq
        show stepV a e [] (num (k, f, e)) = _
        rw [step_nil hok, hfe, if_pos hq, hnum, hdiv]
        rfl
      · simp only [List.concat_eq_append] at *
        rw [if_neg (by simp)] at hq
        have hi := hQ.init
        obtain ⟨hi1, ⟨hi2, hi3⟩, hi4⟩ := hi
        dsimp only at hi2 hi3 hi4
        have hfq := (Tl.snoc (r := (k0, f0, e0)) hi1 ⟨hi2, by dsimp only; exact hi3⟩ hi4).2
        rw [hfq] at hq
        dsimp only at hq
        subst hq
        have hv := vd_move (b := e) hQ hn (by omega) (by omega)
        have ih := vd_run ha hab hb (by unfold dEnd; exact hd) m _ (by simp at hm ⊢; omega) hv
        have e1 : nums (o ++ [(k0, f0, f)]) = nums (o ++ [(k0, f0, e)]) := by rw [nums_append, nums_append]; rfl
        rw [e1, ih]
        show stepV a e (o ++ [(k0, f0, e)]) (num (k, f, e)) = _
        rw [step_snoc hok, hfe, hnum, hdiv, if_pos ⟨by omega, by omega, hkk o k0 f0 f rfl⟩]

theorem kinds_ge : ∀ (l : List Rc) (e : Int), Tl e l → l.length ≤ (kindsV l).length
  | [], _, _ => by simp
  | r :: l, e, h => by
    have ih := kinds_ge l r.2.2 h.2.2
    have := h.1.2
    rw [kinds_cons, List.length_append, List.length_replicate, List.length_cons]
    omega

theorem rdDay_full {a b : Int} (ha : 0 ≤ a) (hab : a < b) (hb : b ≤ 40320) (hd : b ≤ dEnd a) {R : List Rc} (h : VD a b R) (v : List UInt8) : rdDay a b (dayT R ++ v) = some (R, v) := by
  have hl := h.tl.len h.ne
  have hg := kinds_ge R a h.tl
  rw [h.en] at hl
  have hd' := hd
  unfold dEnd at hd'
  have h0 : 0 < R.length := List.length_pos_iff.2 h.ne
  obtain ⟨x, y, e, hv⟩ := two_is (n := (R.length : Nat)) (by omega) (by omega)
  unfold dayT
  rw [e]
  show rdDay a b (x :: y :: (twos (nums R) ++ v)) = _
  rw [rdDay, hv, if_neg (by omega), show ((R.length : Nat) : Int).toNat = (nums R).length by rw [nums_len]; omega]
  rw [rdN_run, vd_run ha hab hb hd _ R rfl h]
  · rfl
  · intro n hn
    obtain ⟨r, hr, rfl⟩ := List.mem_map.1 hn
    obtain ⟨j, hj, hjr⟩ := List.getElem_of_mem hr
    have := h.tl.at_ j hj
    rw [List.getD_eq_getElem?_getD, List.getElem?_eq_getElem hj, Option.getD_some, hjr] at this
    show 0 ≤ 2048 * r.1 + r.2.1 % 1440 ∧ 2048 * r.1 + r.2.1 % 1440 ≤ 65535
    omega

theorem rdDays_full : ∀ (ss : List (Int × Int)) (P : List (List Rc)) (a b : Int) (v : List UInt8), Chn a b ss → 0 ≤ a → b ≤ 40320 → AllV ss P → rdDays ss (P.flatMap dayT ++ v) = some (P, v)
  | [], [], _, _, _, _, _, _, _ => rfl
  | [], _ :: _, _, _, _, _, _, _, h => by cases h
  | _ :: _, [], _, _, _, _, _, _, h => by cases h
  | s :: ss, R :: P, a, b, v, hc, h0, h1, h => by
    obtain ⟨hc1, hc2, hc3, hc4, hc5⟩ := hc
    subst hc1
    rw [List.flatMap_cons, List.append_assoc, rdDays, rdDay_full h0 hc2 (by omega) hc3 h.1]
    show (rdDays ss (P.flatMap dayT ++ v)).map _ = _
    rw [rdDays_full ss P s.2 b v hc5 (by omega) h1 h.2]
    rfl

theorem slc_len {at_ a b : Int} {ks : List Int} (h0 : at_ ≤ a) (h1 : a ≤ b) (h2 : b ≤ at_ + (ks.length : Int)) : ((slc at_ ks a b).length : Int) = b - a := by
  unfold slc
  rw [List.length_take, List.length_drop]
  omega

theorem slc_join {at_ a b c : Int} {ks : List Int} (h0 : at_ ≤ a) (h1 : a ≤ b) (h2 : b ≤ c) : slc at_ ks a b ++ slc at_ ks b c = slc at_ ks a c := by
  unfold slc
  have e : ks.drop (b - at_).toNat = (ks.drop (a - at_).toNat).drop (b - a).toNat := by
    rw [List.drop_drop]
    congr 1
    omega
  rw [e, show (c - a).toNat = (b - a).toNat + (c - b).toNat by omega, List.take_add]

theorem cut_vd {l : List Rc} {a b : Int} (h : (checkV l).2 = 0) (hne : l ≠ []) (ha : beg l ≤ a) (hab : a < b) (hb : b ≤ fin l) : VD a b (cutR l (a, b)) ∧ kindsV (cutR l (a, b)) = slc (beg l) (kindsV l) a b := by
  have ht := check_tl h
  have hu := up2_is (beg l) a
  have hv := lo2_is (fin l) b
  have hw := within_beg (a := a) (b := b) ht hne (by omega)
  have htw := within_tl (a := a) (b := b) hab ht
  rw [hw.2, show up2 (beg l) a = a by omega] at htw
  have hk := within_kinds (b := b) ht ha
  have hl := ht.len hne
  have hlen := slc_len (at_ := beg l) (ks := kindsV l) ha (by omega : a ≤ b) (by omega)
  have hnt := norm_tl htw
  rw [hw.2, show up2 (beg l) a = a by omega] at hnt
  have hnn : normV (withinV a b l) ≠ [] := fun e => hw.1 (hnt.2.2.1 e)
  have hfl := hnt.1.len hnn
  rw [hnt.2.1, hk] at hfl
  have hnb : beg (normV (withinV a b l)) = a := by
    have := hnt.1
    cases hq : normV (withinV a b l) with
    | nil => exact absurd hq hnn
    | cons r L => rw [hq] at this; exact this.2.1
  refine ⟨⟨hnt.1, hnn, by show fin (normV (withinV a b l)) = b; omega, ?_⟩, by show kindsV (normV (withinV a b l)) = _; rw [hnt.2.1, hk]⟩
  show normV (normV (withinV a b l)) = normV (withinV a b l)
  rw [← norm_of hnt.1, hnb, hnt.2.1]
  have := norm_of htw
  rw [hw.2, show up2 (beg l) a = a by omega] at this
  exact this

theorem cut_all_vd {l : List Rc} (h : (checkV l).2 = 0) (hne : l ≠ []) : ∀ (ss : List (Int × Int)) (a : Int), beg l ≤ a → Chn a (fin l) ss → AllV ss (ss.map (cutR l)) ∧ kindsV (ss.map (cutR l)).flatten = slc (beg l) (kindsV l) a (fin l)
  | [], a, h0, hc => by
    have hc' : a = fin l := hc
    subst hc'
    refine ⟨trivial, ?_⟩
    unfold slc
    rw [show (fin l - fin l).toNat = 0 by omega]
    rfl
  | (x, y) :: ss, a, h0, hc => by
    obtain ⟨hc1, hc2, hc3, hc4, hc5⟩ := hc
    dsimp only at hc1 hc2 hc4 hc5
    subst hc1
    have hv := cut_vd h hne h0 hc2 hc4
    have ih := cut_all_vd h hne ss y (by omega) hc5
    refine ⟨⟨hv.1, ih.1⟩, ?_⟩
    rw [List.map_cons, List.flatten_cons, kinds_append, hv.2, ih.2]
    exact slc_join h0 (by omega) hc4

/-- A timeline's bytes are decoded as its normal one. -/
theorem dec_full {l : List Rc} (h : (checkV l).2 = 0) (hne : l ≠ []) : decT (bodyL l) = some (normV l) := by
  have ht := check_tl h
  have hl := ht.len hne
  have hpos : 0 < (kindsV l).length := by
    have := kinds_ge l _ ht
    have := List.length_pos_iff.2 hne
    omega
  obtain ⟨a1, a2, ea, va⟩ := two_is (n := beg l) (by omega) (by omega)
  obtain ⟨b1, b2, eb, vb⟩ := two_is (n := fin l) (by omega) (by omega)
  have hch := chn_daysV (a := beg l) (b := fin l) (by omega)
  have hc := cut_all_vd h hne _ _ (Int.le_refl _) hch
  have hrd := rdDays_full _ _ _ _ [] hch hl.2.1 hl.2.2 hc.1
  rw [List.append_nil] at hrd
  unfold bodyL bodyV
  rw [ea, eb, map_days]
  show decT (72 :: 68 :: a1 :: a2 :: b1 :: b2 :: ((daysV (beg l) (fin l)).map (cutR l)).flatMap dayT) = _
  rw [decT, va, vb, if_pos ⟨rfl, rfl, by omega, hl.2.2⟩, hrd]
  dsimp only
  congr 1
  have hdn : daysV (beg l) (fin l) ≠ [] := by
    obtain ⟨k, _, _, e⟩ := days_one (n := (fin l - beg l).toNat) (a := beg l) (b := fin l) (by omega) (by omega)
    unfold daysV
    rw [e]; simp
  have htp := all_tl _ _ _ _ hch hc.1
  have hbeg : beg ((daysV (beg l) (fin l)).map (cutR l)).flatten = beg l := by
    have h1 := htp.1
    have h2 := (htp.2 hdn).1
    cases hq : ((daysV (beg l) (fin l)).map (cutR l)).flatten with
    | nil => exact absurd hq h2
    | cons r L => rw [hq] at h1; exact h1.2.1
  rw [← norm_of htp.1, hbeg, hc.2, ← norm_of ht]
  congr 1
  unfold slc
  rw [show (beg l - beg l).toNat = 0 by omega, List.drop_zero, List.take_of_length_le (by omega)]

end Go.Proofs.Ytgmcikajhnnaaaa

/- The bytes of a timeline minute by minute: how the document's own Encode stands behind each minute. Conditions: none beyond each lemma's own premises. -/
namespace Go.Proofs.Ytgmcikajhnnaaaa

theorem ba_of {a : ByteArray} {l : List UInt8} (h : a.data.toList = l) : a = ⟨l.toArray⟩ := by
  subst h
  apply ByteArray.ext
  simp

theorem ba_app (a b : ByteArray) : (a ++ b).data.toList = a.data.toList ++ b.data.toList := by
  rw [ByteArray.data_append, Array.toList_append]

/-- How it stands behind i minutes: the text, the day's text, how many changes the day has. -/
structure EncS (p : Int) (ks : List Int) (i : Nat) (S D : ByteArray) (n : Nat) : Prop where
  size : S.size + D.size ≤ 6 + 4 * i
  le : n ≤ i
  st : (i = 0 ∧ S.data.toList = [72, 68] ++ two p ++ two (p + (ks.length : Int)) ∧ D.data.toList = [] ∧ n = 0) ∨
    (0 < i ∧ ∃ (done : List (Int × Int)) (k : Nat) (a : Int), S.data.toList = [72, 68] ++ two p ++ two (p + (ks.length : Int)) ++ daysT done (partR p ks) ∧
      done ++ days k a (p + (ks.length : Int)) = daysV p (p + (ks.length : Int)) ∧ p + (ks.length : Int) - a ≤ (k : Int) ∧ p ≤ a ∧ a < p + (i : Int) ∧ p + (i : Int) ≤ dEnd a ∧
      D.data.toList = twos (nums (partR p ks (a, p + (i : Int)))) ∧ n = (partR p ks (a, p + (i : Int))).length)

theorem size_of (b : ByteArray) : b.size = b.data.toList.length := by rw [Array.length_toList]; rfl

theorem part_nil (p : Int) (ks : List Int) (a : Int) : partR p ks (a, a) = [] := by
  unfold partR slc
  rw [show (a - a).toNat = 0 by omega]
  rfl

theorem lay_list (n : Int) : (layB n).data.toList = two n := rfl

theorem encS_zero {p : Int} {ks : List Int} {S : ByteArray} (h : S.data.toList = [72, 68] ++ two p ++ two (p + (ks.length : Int))) : EncS p ks 0 S ⟨#[]⟩ 0 :=
  ⟨by rw [size_of, h]; simp [two_len]; exact Nat.le_refl _, Nat.le_refl _, .inl ⟨rfl, h, rfl, rfl⟩⟩

theorem encS_first {p : Int} {ks : List Int} {S D : ByteArray} {n : Nat} {x : Int} (h : EncS p ks 0 S D n) (hx : ks[0]? = some x) : EncS p ks 1 S (D ++ layB (2048 * x + (p + ((0 : Nat) : Int)) % 1440)) (n + 1) := by
  obtain ⟨h1, h2, h3⟩ := h
  rcases h3 with ⟨_, hS, hD, hn⟩ | ⟨h0, _⟩
  · have hm := slc_more (at_ := p) (a := p) (e := p) (ks := ks) (k := x) (Int.le_refl _) (Int.le_refl _) (by rw [show (p - p).toNat = 0 by omega]; exact hx)
    rw [part_nil, put_nil] at hm
    refine ⟨by rw [ByteArray.size_append, layB_size]; omega, by omega, .inr ⟨by omega, [], _, p, by rw [hS]; simp [daysT], rfl, by omega, by omega, by omega, by unfold dEnd; omega, ?_, ?_⟩⟩
    · rw [ba_app, hD, lay_list]
      rw [show p + ((1 : Nat) : Int) = p + 1 by omega, hm, show p + ((0 : Nat) : Int) = p by omega]
      simp [nums, num, twos]
    · rw [show p + ((1 : Nat) : Int) = p + 1 by omega, hm, hn]
      rfl
  · omega

theorem enc_last {p : Int} {ks : List Int} {a : Int} {i : Nat} {y : Int} (hp : p ≤ a) (ha : a < p + ((i + 1 : Nat) : Int)) (hy : ks[i]? = some y) : ∃ o b, partR p ks (a, p + ((i + 1 : Nat) : Int)) = o ++ [(y, b, p + ((i + 1 : Nat) : Int))] := by
  have hm := slc_more (at_ := p) (a := a) (e := p + (i : Int)) (ks := ks) (k := y) hp (by omega) (by rw [show (p + (i : Int) - p).toNat = i by omega]; exact hy)
  rw [show p + (i : Int) + 1 = p + ((i + 1 : Nat) : Int) by omega] at hm
  rw [hm]
  exact put_last _ _ _ _

theorem encS_same {p : Int} {ks : List Int} {S D : ByteArray} {n i : Nat} {x : Int} (h : EncS p ks (i + 1) S D n) (hm : (p + ((i + 1 : Nat) : Int)) % 1440 ≠ 0) (hx : ks[i + 1]? = some x) (hy : ks[i]? = some x) : EncS p ks (i + 2) S D n := by
  obtain ⟨h1, h2, h3⟩ := h
  rcases h3 with ⟨h0, _⟩ | ⟨_, done, k, a, hS, hd, hk, hp, ha, he, hD, hn⟩
  · cases h0
  · obtain ⟨o, b, e⟩ := enc_last hp ha hy
    have hp2 := slc_more (at_ := p) (a := a) (e := p + ((i + 1 : Nat) : Int)) (ks := ks) (k := x) hp (by omega) (by rw [show (p + ((i + 1 : Nat) : Int) - p).toNat = i + 1 by omega]; exact hx)
    rw [e, put_same, show p + ((i + 1 : Nat) : Int) + 1 = p + ((i + 2 : Nat) : Int) by omega] at hp2
    refine ⟨by omega, by omega, .inr ⟨by omega, done, k, a, hS, hd, hk, hp, by omega, by unfold dEnd at *; omega, ?_, ?_⟩⟩
    · rw [hD, e, hp2, nums_append, nums_append]
      rfl
    · rw [hn, e, hp2]
      simp

theorem encS_other {p : Int} {ks : List Int} {S D : ByteArray} {n i : Nat} {x y : Int} (h : EncS p ks (i + 1) S D n) (hm : (p + ((i + 1 : Nat) : Int)) % 1440 ≠ 0) (hx : ks[i + 1]? = some x) (hy : ks[i]? = some y) (hxy : y ≠ x) :
    EncS p ks (i + 2) S (D ++ layB (2048 * x + (p + ((i + 1 : Nat) : Int)) % 1440)) (n + 1) := by
  obtain ⟨h1, h2, h3⟩ := h
  rcases h3 with ⟨h0, _⟩ | ⟨_, done, k, a, hS, hd, hk, hp, ha, he, hD, hn⟩
  · cases h0
  · obtain ⟨o, b, e⟩ := enc_last hp ha hy
    have hp2 := slc_more (at_ := p) (a := a) (e := p + ((i + 1 : Nat) : Int)) (ks := ks) (k := x) hp (by omega) (by rw [show (p + ((i + 1 : Nat) : Int) - p).toNat = i + 1 by omega]; exact hx)
    rw [e, put_other o hxy, ← e, show p + ((i + 1 : Nat) : Int) + 1 = p + ((i + 2 : Nat) : Int) by omega] at hp2
    refine ⟨by rw [ByteArray.size_append, layB_size]; omega, by omega, .inr ⟨by omega, done, k, a, hS, hd, hk, hp, by omega, by unfold dEnd at *; omega, ?_, ?_⟩⟩
    · rw [ba_app, hD, hp2, nums_append, twos_append, lay_list]
      simp [nums, num, twos]
    · rw [hn, hp2]
      simp

theorem encS_flush {p : Int} {ks : List Int} {S D : ByteArray} {n i : Nat} {x : Int} (h : EncS p ks (i + 1) S D n) (hm : (p + ((i + 1 : Nat) : Int)) % 1440 = 0) (hx : ks[i + 1]? = some x) :
    EncS p ks (i + 2) (S ++ layB n ++ D) (layB (2048 * x + (p + ((i + 1 : Nat) : Int)) % 1440)) 1 := by
  obtain ⟨h1, h2, h3⟩ := h
  have hlen : i + 1 < ks.length := (List.getElem?_eq_some_iff.1 hx).1
  rcases h3 with ⟨h0, _⟩ | ⟨_, done, k, a, hS, hd, hk, hp, ha, he, hD, hn⟩
  · cases h0
  · have hend : dEnd a = p + ((i + 1 : Nat) : Int) := by unfold dEnd at *; omega
    have hm2 := slc_more (at_ := p) (a := p + ((i + 1 : Nat) : Int)) (e := p + ((i + 1 : Nat) : Int)) (ks := ks) (k := x) (by omega) (Int.le_refl _) (by rw [show (p + ((i + 1 : Nat) : Int) - p).toNat = i + 1 by omega]; exact hx)
    rw [part_nil, put_nil, show p + ((i + 1 : Nat) : Int) + 1 = p + ((i + 2 : Nat) : Int) by omega] at hm2
    obtain ⟨k', hk1, hk2, hk3⟩ := days_one (n := k) (a := a) (b := p + (ks.length : Int)) (by omega) hk
    have hl := lo2_is (dEnd a) (p + (ks.length : Int))
    rw [hend] at hl
    rw [hend, show lo2 (p + ((i + 1 : Nat) : Int)) (p + (ks.length : Int)) = p + ((i + 1 : Nat) : Int) by omega] at hk3 hk2
    refine ⟨by rw [ByteArray.size_append, ByteArray.size_append, layB_size, layB_size]; omega, by omega, .inr ⟨by omega, done ++ [(a, p + ((i + 1 : Nat) : Int))], k', p + ((i + 1 : Nat) : Int), ?_, ?_, hk2, by omega, by omega, by unfold dEnd; omega, ?_, ?_⟩⟩
    · rw [ba_app, ba_app, hS, hD, lay_list, daysT_append, daysT_cons, hn]
      simp [daysT, dayT]
    · rw [← hd, hk3]; simp
    · rw [hm2, lay_list]; simp [nums, num, twos]
    · rw [hm2]; rfl

theorem encS_end {p : Int} {ks : List Int} {S D : ByteArray} {n : Nat} (h : EncS p ks ks.length S D n) (h0 : 0 < ks.length) : S ++ layB n ++ D = ⟨(bodyV p (p + (ks.length : Int)) (partR p ks)).toArray⟩ := by
  obtain ⟨h1, h2, h3⟩ := h
  rcases h3 with ⟨h0', _⟩ | ⟨_, done, k, a, hS, hd, hk, hp, ha, he, hD, hn⟩
  · omega
  · obtain ⟨k', hk1, hk2, hk3⟩ := days_one (n := k) (a := a) (b := p + (ks.length : Int)) ha hk
    have hl := lo2_is (dEnd a) (p + (ks.length : Int))
    rw [show lo2 (dEnd a) (p + (ks.length : Int)) = p + (ks.length : Int) by omega, days_end (n := k') (Int.le_refl _)] at hk3
    apply ba_of
    rw [ba_app, ba_app, hS, hD, lay_list]
    unfold bodyV
    rw [← hd, hk3, daysT_append, daysT_cons, hn]
    simp [daysT, dayT]

end Go.Proofs.Ytgmcikajhnnaaaa
