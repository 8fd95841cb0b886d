/- Plain facts on numbers as texts: which texts are a number's, which number that is, how a number is told; spans' texts. Conditions: none beyond each lemma's own premises. -/
import Derived.Test.YtdepglceffpfhaaDoorWordMath
namespace Go.Proofs.YtdepglceffpfhaaDoor
open Go.RowKit

/-- The number that digits come to, behind another. -/
def valF (n : Nat) (l : List UInt8) : Nat := l.foldl (fun n b => 10 * n + (b.toNat - 48)) n

theorem valF_cons (n : Nat) (b : UInt8) (l : List UInt8) : valF n (b :: l) = valF (10 * n + (b.toNat - 48)) l := by unfold valF; rw [List.foldl_cons]
theorem valF_snoc (n : Nat) (b : UInt8) (l : List UInt8) : valF n (l ++ [b]) = 10 * valF n l + (b.toNat - 48) := by simp [valF]

theorem valF_ge : ∀ (l : List UInt8) (n : Nat), n ≤ valF n l
  | [], n => Nat.le_refl _
  | b :: l, n => by
    have := valF_ge l (10 * n + (b.toNat - 48))
    rw [valF_cons]
    omega

def digL (l : List UInt8) : Prop := ∀ b ∈ l, 48 ≤ b.toNat ∧ b.toNat ≤ 57

/-- Is it a number's text? -/
def numOk (s : ByteArray) : Prop := s.size ≠ 0 ∧ digL s.data.toList ∧ (s.size = 1 ∨ bt s 0 ≠ 48)

/-- The number whose text it is. -/
def numV (s : ByteArray) : Nat := valF 0 s.data.toList

theorem dig_at {s : ByteArray} (h : digL s.data.toList) {i : Nat} (hi : i < s.size) : 48 ≤ bt s i ∧ bt s i ≤ 57 := by
  obtain ⟨b, hb, hbt⟩ := byte_list s i hi
  have := h b (List.mem_of_getElem? hb)
  omega

theorem dig_of {s : ByteArray} (h : ∀ i, i < s.size → 48 ≤ bt s i ∧ bt s i ≤ 57) : digL s.data.toList := by
  intro b hb
  obtain ⟨i, hi, rfl⟩ := List.getElem_of_mem hb
  have hi' : i < s.size := by rw [← size_list]; exact hi
  obtain ⟨b, hb, hbt⟩ := byte_list s i hi'
  have := h i hi'
  rw [List.getElem?_eq_getElem hi] at hb
  injection hb with hb
  rw [hb]
  omega

theorem parse_val : ∀ (l : List UInt8) (acc : Nat), digL l → acc < 18446744073709551616 → Lib.parseUint10 acc l = if valF acc l < 18446744073709551616 then .ok (valF acc l) else .range
  | [], acc, _, ha => by simp [Lib.parseUint10, valF, ha]
  | b :: l, acc, hd, ha => by
    have hb := hd b (List.mem_cons_self ..)
    have hl : digL l := fun x hx => hd x (List.mem_cons_of_mem _ hx)
    have hg := valF_ge l (10 * acc + (b.toNat - 48))
    rw [Lib.parseUint10, if_pos hb, valF_cons]
    have e : acc * 10 + (b.toNat - 48) = 10 * acc + (b.toNat - 48) := by omega
    by_cases h1 : 1844674407370955162 ≤ acc
    · rw [if_pos h1, if_neg (by omega)]
    · rw [if_neg h1, e]
      by_cases h2 : 18446744073709551616 ≤ 10 * acc + (b.toNat - 48)
      · rw [if_pos h2, if_neg (by omega)]
      · rw [if_neg h2]
        exact parse_val l _ hl (by omega)

/-- What the library's Atoi makes of a number's text. -/
theorem atoi_val {s : ByteArray} (h : numOk s) : Lib.atoiAll s.data.toList = if numV s < 9223372036854775808 then .ok (numV s : Int) else .range := by
  obtain ⟨h0, hd, _⟩ := h
  unfold numV
  cases hl : s.data.toList with
  | nil => have := size_list s; rw [hl] at this; exact absurd this.symm h0
  | cons b r =>
    rw [hl] at hd
    have hb := hd b (List.mem_cons_self ..)
    rw [Lib.atoiAll_plain b r (by omega) (by omega)]
    have hm : Lib.parseMag (b :: r) = Lib.parseUint10 0 (b :: r) := by unfold Lib.parseMag; rw [if_neg (by simp)]
    rw [hm, parse_val _ 0 hd (by omega)]
    generalize valF 0 (b :: r) = v
    by_cases h1 : v < 18446744073709551616
    · rw [if_pos h1]
      simp only [Lib.signless]
      by_cases h2 : v < 9223372036854775808
      · rw [if_pos h2, if_neg (by omega)]
      · rw [if_neg h2, if_pos (by omega)]
    · rw [if_neg h1, if_neg (by omega)]
      rfl

open Classical in
/-- The number whose text it is, from 0 to most, or the error. -/
noncomputable def numberV (s : ByteArray) (most : Int) : Int × Int := if numOk s then (if most < (numV s : Int) then (0, 4) else ((numV s : Int), 0)) else (0, 7)

theorem number_form {s : ByteArray} {most : Int} (h : ¬ numOk s) : numberV s most = (0, 7) := by unfold numberV; rw [if_neg h]
theorem number_far {s : ByteArray} {most : Int} (h : numOk s) (h2 : most < (numV s : Int)) : numberV s most = (0, 4) := by unfold numberV; rw [if_pos h, if_pos h2]
theorem number_good {s : ByteArray} {most : Int} (h : numOk s) (h2 : (numV s : Int) ≤ most) : numberV s most = ((numV s : Int), 0) := by unfold numberV; rw [if_pos h, if_neg (by omega)]

/-! ### How a number is told -/

theorem ofNat_nat {n : Nat} (h : n < 256) : (UInt8.ofNat n).toNat = n := UInt8.toNat_ofNat_of_lt' h

theorem dec_small {u : Nat} (h : u < 10) : Lib.decDigits u = [UInt8.ofNat (48 + u)] := by rw [Lib.decDigits, dif_pos h]
theorem dec_big {u : Nat} (h : ¬ u < 10) : Lib.decDigits u = Lib.decDigits (u / 10) ++ [UInt8.ofNat (48 + u % 10)] := by rw [Lib.decDigits, dif_neg h]

theorem dec_dig (u : Nat) : digL (Lib.decDigits u) ∧ Lib.decDigits u ≠ [] ∧ valF 0 (Lib.decDigits u) = u := by
  induction u using Nat.strongRecOn with
  | _ u ih =>
    by_cases h : u < 10
    · rw [dec_small h]
      refine ⟨fun b hb => ?_, by simp, ?_⟩
      · simp only [List.mem_singleton] at hb
        subst hb
        rw [ofNat_nat (by omega)]
        omega
      · unfold valF
        rw [List.foldl_cons, List.foldl_nil, ofNat_nat (by omega)]
        omega
    · obtain ⟨h1, h2, h3⟩ := ih (u / 10) (by omega)
      rw [dec_big h]
      refine ⟨fun b hb => ?_, by simp, ?_⟩
      · rcases List.mem_append.1 hb with hb | hb
        · exact h1 b hb
        · simp only [List.mem_singleton] at hb
          subst hb
          rw [ofNat_nat (by omega)]
          omega
      · rw [valF_snoc, h3, ofNat_nat (by omega)]
        omega

theorem dec_head (u : Nat) (h0 : u ≠ 0) : ∃ b r, Lib.decDigits u = b :: r ∧ b.toNat ≠ 48 := by
  induction u using Nat.strongRecOn with
  | _ u ih =>
    by_cases h : u < 10
    · rw [dec_small h]
      exact ⟨_, _, rfl, by rw [ofNat_nat (by omega)]; omega⟩
    · obtain ⟨b, r, he, hb⟩ := ih (u / 10) (by omega) (by omega)
      rw [dec_big h, he]
      exact ⟨b, r ++ [UInt8.ofNat (48 + u % 10)], rfl, hb⟩

/-- A number's text as bytes. -/
def itoaB (n : Int) : ByteArray := ⟨(Lib.itoa n).toArray⟩

theorem itoaB_list (n : Int) : (itoaB n).data.toList = Lib.itoa n := by simp [itoaB]

theorem itoa_pos {n : Int} (h : 0 ≤ n) : Lib.itoa n = Lib.decDigits n.toNat := by unfold Lib.itoa; rw [if_neg (by omega)]
theorem itoa_neg {n : Int} (h : n < 0) : Lib.itoa n = 45 :: Lib.decDigits n.natAbs := by unfold Lib.itoa; rw [if_pos h]

theorem bt_head {s : ByteArray} {b : UInt8} {r : List UInt8} (h : s.data.toList = b :: r) : bt s 0 = (b.toNat : Int) := by
  have hs : 0 < s.size := by rw [← size_list, h]; simp
  obtain ⟨c, hc, hct⟩ := byte_list s 0 hs
  rw [h] at hc
  simp only [List.getElem?_cons_zero, Option.some.injEq] at hc
  rw [hc, hct]

/-- A text that begins with a minus is no number's. -/
theorem num_minus {s : ByteArray} {r : List UInt8} (h : s.data.toList = 45 :: r) : ¬ numOk s := by
  intro hs
  have := hs.2.1 45 (by rw [h]; exact List.mem_cons_self ..)
  have e : (45 : UInt8).toNat = 45 := rfl
  omega

theorem num_itoa {s : ByteArray} {n : Int} (h : 0 ≤ n) (hs : s.data.toList = Lib.itoa n) : numOk s ∧ (numV s : Int) = n := by
  rw [itoa_pos h] at hs
  obtain ⟨h1, h2, h3⟩ := dec_dig n.toNat
  have hz := size_list s
  rw [hs] at hz
  refine ⟨⟨fun e => ?_, by rw [hs]; exact h1, ?_⟩, ?_⟩
  · rw [e] at hz
    exact h2 (List.eq_nil_of_length_eq_zero hz)
  · by_cases h0 : n.toNat = 0
    · left
      rw [h0, dec_small (by omega)] at hz
      exact hz.symm
    · right
      obtain ⟨b, r, he, hb⟩ := dec_head n.toNat h0
      rw [he] at hs
      rw [bt_head hs]
      omega
  · unfold numV
    rw [hs, h3]
    omega

/-! ### Spans -/

open Classical in
/-- The span of two texts. -/
noncomputable def pairV (a b : ByteArray) : Int × Int × Int :=
  if ¬ numOk a ∨ ¬ numOk b then (0, 0, 7) else if 40320 < numV a ∨ 40320 < numV b then (0, 0, 4) else if numV b ≤ numV a then (0, 0, 3) else ((numV a : Int), (numV b : Int), 0)

theorem pair_form {a b : ByteArray} (h : ¬ numOk a ∨ ¬ numOk b) : pairV a b = (0, 0, 7) := by unfold pairV; rw [if_pos h]
theorem pair_far {a b : ByteArray} (ha : numOk a) (hb : numOk b) (h : 40320 < numV a ∨ 40320 < numV b) : pairV a b = (0, 0, 4) := by
  unfold pairV; rw [if_neg (by rintro (h | h) <;> exact h (by assumption)), if_pos h]
theorem pair_span {a b : ByteArray} (ha : numOk a) (hb : numOk b) (h1 : numV a ≤ 40320) (h2 : numV b ≤ 40320) (h : numV b ≤ numV a) : pairV a b = (0, 0, 3) := by
  unfold pairV; rw [if_neg (by rintro (h | h) <;> exact h (by assumption)), if_neg (by omega), if_pos h]
theorem pair_good {a b : ByteArray} (ha : numOk a) (hb : numOk b) (h1 : numV a ≤ 40320) (h2 : numV b ≤ 40320) (h : numV a < numV b) : pairV a b = ((numV a : Int), (numV b : Int), 0) := by
  unfold pairV; rw [if_neg (by rintro (h | h) <;> exact h (by assumption)), if_neg (by omega), if_neg (by omega)]

/-- What is ahead of the first minus, and behind it. -/
def ahead (s : ByteArray) : ByteArray := ⟨(Lib.cut s.data.toList [45]).1.toArray⟩
def behind (s : ByteArray) : ByteArray := ⟨(Lib.cut s.data.toList [45]).2.1.toArray⟩

noncomputable def spanV (s : ByteArray) : Int × Int × Int := pairV (ahead s) (behind s)

theorem occ_one (l : List UInt8) (i : Nat) : Lib.occAt l [45] i = true ↔ l[i]? = some 45 := by
  unfold Lib.occAt
  constructor
  · intro h
    obtain ⟨r, hr⟩ := List.isPrefixOf_iff_prefix.1 h
    have : (l.drop i)[0]? = some 45 := by rw [← hr]; rfl
    simpa using this
  · intro h
    obtain ⟨hi, he⟩ := List.getElem?_eq_some_iff.1 h
    rw [List.drop_eq_getElem_cons hi, he]
    simp

theorem bt_is {s : ByteArray} {i : Nat} (hi : i < s.size) {c : UInt8} : s.data.toList[i]? = some c ↔ bt s i = (c.toNat : Int) := by
  obtain ⟨b, hb, hbt⟩ := byte_list s i hi
  rw [hb, Option.some.injEq]
  constructor
  · rintro rfl; omega
  · intro h; exact UInt8.toNat_inj.1 (by omega)

theorem cut_none {s : ByteArray} (h : ∀ j, j < s.size → bt s j ≠ 45) : ahead s = s ∧ behind s = ⟨#[]⟩ := by
  have hi : Lib.indexB s ⟨#[45]⟩ = -1 := by
    refine Lib.index_none (fun j _ => ?_)
    cases hj : Lib.occAt s.data.toList [45] j with
    | false => rfl
    | true =>
      have he := (occ_one _ _).1 hj
      have hjs : j < s.size := by rw [← size_list]; exact (List.getElem?_eq_some_iff.1 he).1
      exact absurd ((bt_is hjs).1 he) (h j hjs)
  have := Lib.cutB_miss s ⟨#[45]⟩ hi
  exact ⟨this.1, this.2.1⟩

theorem cut_at {s : ByteArray} {p : Nat} (hp : p < s.size) (h : bt s p = 45) (hn : ∀ j, j < p → bt s j ≠ 45) : ahead s = s.extract 0 p ∧ behind s = s.extract (p + 1) s.size := by
  have hi : Lib.indexB s ⟨#[45]⟩ = p := by
    refine Lib.index_first (by rw [size_list]; omega) ((occ_one _ _).2 ((bt_is hp).2 h)) (fun j hj => ?_)
    cases hj' : Lib.occAt s.data.toList [45] j with
    | false => rfl
    | true => exact absurd ((bt_is (by omega)).1 ((occ_one _ _).1 hj')) (hn j hj)
  have := Lib.cutB_hit s ⟨#[45]⟩ p hi
  exact ⟨this.1, this.2.1⟩

theorem num_empty : ¬ numOk ⟨#[]⟩ := fun h => h.1 rfl

theorem bt_ext {s : ByteArray} {i j k : Nat} (h : i + k < j) (hj : j ≤ s.size) : bt (s.extract i j) k = bt s (i + k) := by
  have h1 : k < (s.extract i j).size := by rw [ByteArray.size_extract]; omega
  obtain ⟨b, hb, hbt⟩ := byte_list (s.extract i j) k h1
  obtain ⟨c, hc, hct⟩ := byte_list s (i + k) (by omega)
  rw [ext_list, List.getElem?_drop, List.getElem?_take_of_lt (by omega), hc] at hb
  injection hb with hb
  rw [← hbt, ← hct, hb]

/-- With a second minus behind the first one the span's text is none. -/
theorem span_two {s : ByteArray} {p q : Nat} (hq : q < s.size) (hpq : p < q) (h : bt s p = 45) (hn : ∀ j, j < p → bt s j ≠ 45) (h2 : bt s q = 45) : spanV s = (0, 0, 7) := by
  unfold spanV
  obtain ⟨_, e⟩ := cut_at (by omega) h hn
  rw [e]
  refine pair_form (.inr fun hb => ?_)
  have hz : (s.extract (p + 1) s.size).size = s.size - (p + 1) := by rw [ByteArray.size_extract]; omega
  have := dig_at hb.2.1 (i := q - (p + 1)) (by omega)
  rw [bt_ext (by omega) (Nat.le_refl _)] at this
  have e2 : p + 1 + (q - (p + 1)) = q := by omega
  rw [e2] at this
  omega

theorem span_none {s : ByteArray} (h : ∀ j, j < s.size → bt s j ≠ 45) : spanV s = (0, 0, 7) := by
  unfold spanV
  rw [(cut_none h).2]
  exact pair_form (.inr num_empty)

theorem span_at {s : ByteArray} {p : Nat} (hp : p < s.size) (h : bt s p = 45) (hn : ∀ j, j < p → bt s j ≠ 45) : spanV s = pairV (s.extract 0 p) (s.extract (p + 1) s.size) := by
  unfold spanV
  obtain ⟨e1, e2⟩ := cut_at hp h hn
  rw [e1, e2]

/-- A span's text. -/
def toldB (x y : Int) : ByteArray := (itoaB x ++ ⟨#[45]⟩) ++ itoaB y

end Go.Proofs.YtdepglceffpfhaaDoor
