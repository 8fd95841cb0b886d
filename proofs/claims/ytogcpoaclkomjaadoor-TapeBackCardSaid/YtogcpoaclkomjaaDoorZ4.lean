/- Plain facts, several texts in one: WordBackM, TapeMath, TapeMath2. Conditions: none beyond each lemma's own premises. -/
import Derived.Test.YtogcpoaclkomjaaDoorWordSpan
import Derived.Test.YtogcpoaclkomjaaDoorZ3
import Derived.Test.YtogcpoaclkomjaaDoorZ2

/- Numbers and spans are read as they were told. Conditions: none beyond each lemma's own premises. -/
namespace Go.Proofs.YtogcpoaclkomjaaDoor
open Go.RowKit

theorem number_back {n : Int} (h : 0 ≤ n) : numberV (itoaB n) n = (n, 0) := by
  obtain ⟨h1, h2⟩ := num_itoa h (itoaB_list n)
  rw [number_good h1 (by omega), h2]

theorem number_below {n m : Int} (h : n < 0) : numberV (itoaB n) m = (0, 7) :=
  number_form (num_minus (by rw [itoaB_list, itoa_neg h]))

theorem told_list (x y : Int) : (toldB x y).data.toList = Lib.itoa x ++ 45 :: Lib.itoa y := by
  unfold toldB
  rw [ByteArray.data_append, ByteArray.data_append, Array.toList_append, Array.toList_append, itoaB_list, itoaB_list]
  simp

theorem told_ahead (x y : Int) : (toldB x y).extract 0 (Lib.itoa x).length = itoaB x := by
  apply ba_ext
  rw [ext_list, told_list, itoaB_list]
  simp

theorem told_behind (x y : Int) : (toldB x y).extract ((Lib.itoa x).length + 1) (toldB x y).size = itoaB y := by
  apply ba_ext
  rw [ext_list, itoaB_list, List.take_of_length_le (Nat.le_of_eq (size_list _)), told_list]
  rw [← List.drop_drop]
  simp

theorem told_lt (x y : Int) : (Lib.itoa x).length < (toldB x y).size := by
  rw [← size_list, told_list]
  simp

theorem told_minus (x y : Int) : bt (toldB x y) (Lib.itoa x).length = 45 := by
  have h := (bt_is (told_lt x y) (c := 45)).1 (by rw [told_list]; simp)
  exact h

theorem told_digits {x : Int} (y : Int) (h : 0 ≤ x) {j : Nat} (hj : j < (Lib.itoa x).length) : bt (toldB x y) j ≠ 45 := by
  have hlt := told_lt x y
  obtain ⟨b, hb, hbt⟩ := byte_list (toldB x y) j (by omega)
  rw [told_list, List.getElem?_append_left hj] at hb
  have hm := List.mem_of_getElem? hb
  rw [itoa_pos h] at hm
  have := (dec_dig x.toNat).1 b hm
  omega

theorem told_pair {x y : Int} (h : 0 ≤ x) : spanV (toldB x y) = pairV (itoaB x) (itoaB y) := by
  rw [span_at (told_lt x y) (told_minus x y) (fun j hj => told_digits y h hj), told_ahead, told_behind]

theorem told_neg {x y : Int} (h : x < 0) : spanV (toldB x y) = (0, 0, 7) := by
  have hz : 0 < (toldB x y).size := by have := told_lt x y; omega
  have h0 : bt (toldB x y) 0 = 45 := (bt_is hz (c := 45)).1 (by rw [told_list, itoa_neg h]; rfl)
  rw [span_at hz h0 (fun j hj => by omega)]
  refine pair_form (.inl ?_)
  have e : (toldB x y).extract 0 0 = ⟨#[]⟩ := ba_ext (by rw [ext_list]; simp)
  rw [e]
  exact num_empty

/-- A span that is told is read again, if it is right and ends in time; else none is read. -/
theorem span_back (x y : Int) : (0 ≤ x ∧ x < y ∧ y ≤ 40320 ∧ spanV (toldB x y) = (x, y, 0)) ∨ (¬ (0 ≤ x ∧ x < y ∧ y ≤ 40320) ∧ ∃ g, spanV (toldB x y) = (0, 0, g) ∧ (g != 0) = true) := by
  rcases Int.lt_or_le x 0 with hx | hx
  · exact .inr ⟨by omega, 7, told_neg hx, rfl⟩
  · rw [told_pair hx]
    obtain ⟨a1, a2⟩ := num_itoa hx (itoaB_list x)
    rcases Int.lt_or_le y 0 with hy | hy
    · exact .inr ⟨by omega, 7, pair_form (.inr (num_minus (by rw [itoaB_list, itoa_neg hy]))), rfl⟩
    · obtain ⟨b1, b2⟩ := num_itoa hy (itoaB_list y)
      by_cases hf : 40320 < numV (itoaB x) ∨ 40320 < numV (itoaB y)
      · exact .inr ⟨by omega, 4, pair_far a1 b1 hf, rfl⟩
      · by_cases hs : numV (itoaB y) ≤ numV (itoaB x)
        · exact .inr ⟨by omega, 3, pair_span a1 b1 (by omega) (by omega) hs, rfl⟩
        · refine .inl ⟨by omega, by omega, by omega, ?_⟩
          rw [pair_good a1 b1 (by omega) (by omega) (by omega), a2, b2]

end Go.Proofs.YtogcpoaclkomjaaDoor

/- Plain facts on the lines of records, and on texts of such lines: what a line is read as, what a text is parsed as, and that both come back. Conditions: none beyond each lemma's own premises. -/
namespace Go.Proofs.YtogcpoaclkomjaaDoor
open Go.RowKit

/-! ### Numbers and spans that are read are told as they were -/

theorem dec_val : ∀ (n : Nat) (l : List UInt8), l.length = n → digL l → l ≠ [] → (l.length = 1 ∨ ∃ b r, l = b :: r ∧ b.toNat ≠ 48) → Lib.decDigits (valF 0 l) = l := by
  intro n
  induction n with
  | zero => intro l h _ hne; exact absurd (List.eq_nil_of_length_eq_zero h) hne
  | succ n ih =>
    intro l hlen hd hne hh
    rcases List.eq_nil_or_concat l with h | ⟨r, b, h⟩
    · exact absurd h hne
    rw [List.concat_eq_append] at h
    subst h
    have hb := hd b (by simp)
    have hr : digL r := fun x hx => hd x (by simp [hx])
    have eb : UInt8.ofNat (48 + (b.toNat - 48)) = b := by
      rw [show 48 + (b.toNat - 48) = b.toNat by omega]
      exact UInt8.ofNat_toNat
    by_cases h0 : r = []
    · subst h0
      rw [List.nil_append]
      have e : valF 0 [b] = b.toNat - 48 := by unfold valF; simp
      rw [e, dec_small (by omega), eb]
    · have hhead : ∃ c q, r = c :: q ∧ c.toNat ≠ 48 := by
        rcases hh with h1 | ⟨c, q, hc, hcn⟩
        · rw [List.length_append] at h1
          have := List.length_pos_iff.2 h0
          simp at h1
          exact absurd h1 h0
        · cases r with
          | nil => exact absurd rfl h0
          | cons c' q' =>
            rw [List.cons_append] at hc
            injection hc with h1 h2
            exact ⟨c', q', rfl, by rw [h1]; exact hcn⟩
      have ihr := ih r (by simpa using hlen) hr h0 (.inr hhead)
      obtain ⟨c, q, hq, hne⟩ := hhead
      have hc := hr c (by rw [hq]; exact List.mem_cons_self ..)
      have hge : 1 ≤ valF 0 r := by
        have := valF_ge q (10 * 0 + (c.toNat - 48))
        rw [hq, valF_cons]
        omega
      rw [valF_snoc, dec_big (by omega), show (10 * valF 0 r + (b.toNat - 48)) / 10 = valF 0 r by omega, show (10 * valF 0 r + (b.toNat - 48)) % 10 = b.toNat - 48 by omega, ihr, eb]

theorem itoa_num {s : ByteArray} (h : numOk s) : itoaB (numV s : Int) = s := by
  apply ba_ext
  obtain ⟨h0, hd, hz⟩ := h
  rw [itoaB_list, itoa_pos (by omega)]
  unfold numV
  rw [Int.toNat_natCast]
  have hne : s.data.toList ≠ [] := fun e => h0 (by rw [← size_list, e]; rfl)
  refine dec_val _ _ rfl hd hne ?_
  rcases hz with hz | hz
  · left; rw [size_list]; exact hz
  · right
    cases hl : s.data.toList with
    | nil => exact absurd hl hne
    | cons b r =>
      refine ⟨b, r, rfl, fun e => hz ?_⟩
      rw [bt_head hl, e]; rfl

theorem cat_minus {s : ByteArray} {p : Nat} (hp : p < s.size) (h : bt s p = 45) : (s.extract 0 p ++ ⟨#[45]⟩) ++ s.extract (p + 1) s.size = s := by
  apply ba_ext
  rw [ByteArray.data_append, ByteArray.data_append, Array.toList_append, Array.toList_append, ext_list, ext_list]
  have e1 : s.data.toList[p]? = some 45 := (bt_is hp).2 h
  have hl := size_list s
  have e2 : List.take s.size s.data.toList = s.data.toList := List.take_of_length_le (by omega)
  obtain ⟨hp', e3⟩ := List.getElem?_eq_some_iff.1 e1
  rw [e2, List.drop_zero]
  have e4 := List.drop_eq_getElem_cons hp'
  rw [e3] at e4
  have e5 : (⟨#[45]⟩ : ByteArray).data.toList = [45] := rfl
  rw [e5, List.append_assoc, List.singleton_append, ← e4, List.take_append_drop]

/-- A span that is read is told as it was. -/
theorem told_span {s : ByteArray} (h : (spanV s).2.2 = 0) : toldB (spanV s).1 (spanV s).2.1 = s ∧ 0 ≤ (spanV s).1 ∧ (spanV s).1 < (spanV s).2.1 ∧ (spanV s).2.1 ≤ 40320 := by
  by_cases hm : ∃ p, p < s.size ∧ bt s p = 45
  · obtain ⟨p, hp, hb, hn⟩ : ∃ p, p < s.size ∧ bt s p = 45 ∧ ∀ j, j < p → bt s j ≠ 45 := by
      obtain ⟨p, hp, hb⟩ := hm
      induction p using Nat.strongRecOn with
      | _ p ih =>
        by_cases hx : ∃ j, j < p ∧ bt s j = 45
        · obtain ⟨j, j1, j2⟩ := hx
          exact ih j j1 (by omega) j2
        · exact ⟨p, hp, hb, fun j j1 j2 => hx ⟨j, j1, j2⟩⟩
    rw [span_at hp hb hn] at h ⊢
    by_cases ha : numOk (s.extract 0 p)
    · by_cases hc : numOk (s.extract (p + 1) s.size)
      · by_cases hf : 40320 < numV (s.extract 0 p) ∨ 40320 < numV (s.extract (p + 1) s.size)
        · rw [pair_far ha hc hf] at h; cases h
        · by_cases hs : numV (s.extract (p + 1) s.size) ≤ numV (s.extract 0 p)
          · rw [pair_span ha hc (by omega) (by omega) hs] at h; cases h
          · rw [pair_good ha hc (by omega) (by omega) (by omega)]
            refine ⟨?_, by simp, by simp; omega, by simp; omega⟩
            show (itoaB _ ++ ⟨#[45]⟩) ++ itoaB _ = s
            rw [itoa_num ha, itoa_num hc]
            exact cat_minus hp hb
      · rw [pair_form (.inr hc)] at h; cases h
    · rw [pair_form (.inl ha)] at h; cases h
  · rw [span_none (fun j hj hb => hm ⟨j, hj, hb⟩)] at h; cases h

/-! ### A record's line -/

def lineB (k x y : Int) : ByteArray := (⟨#[ltB k]⟩ ++ ⟨#[32]⟩) ++ toldB x y

theorem line_list (k x y : Int) : (lineB k x y).data.toList = ltB k :: 32 :: (toldB x y).data.toList := by
  unfold lineB
  rw [ByteArray.data_append, ByteArray.data_append, Array.toList_append, Array.toList_append]
  simp

theorem line_join (k x y : Int) : joinB [⟨#[ltB k]⟩, toldB x y] = (lineB k x y).data.toList := by
  rw [line_list]; simp [joinB]

/-- What a line is read as: the record, or the error. -/
noncomputable def readV (s : ByteArray) : Rc × Int :=
  if (splitV s).1.length = 2 then
    (if ((splitV s).1.getD 0 (0, ⟨#[]⟩)).2.size = 1 ∧ isL (bt ((splitV s).1.getD 0 (0, ⟨#[]⟩)).2 0) = true then
      (if (spanV ((splitV s).1.getD 1 (0, ⟨#[]⟩)).2).2.2 = 0 then ((kindB (bt ((splitV s).1.getD 0 (0, ⟨#[]⟩)).2 0), (spanV ((splitV s).1.getD 1 (0, ⟨#[]⟩)).2).1, (spanV ((splitV s).1.getD 1 (0, ⟨#[]⟩)).2).2.1), 0)
      else (rz, (spanV ((splitV s).1.getD 1 (0, ⟨#[]⟩)).2).2.2))
    else (rz, 2))
  else (rz, 7)

theorem read_form {s : ByteArray} (h : (splitV s).1.length ≠ 2) : readV s = (rz, 7) := by unfold readV; rw [if_neg h]
theorem read_kind {s : ByteArray} {a b : ByteArray} {i j : Nat} (h : (splitV s).1 = [(i, a), (j, b)]) (ha : a.size ≠ 1 ∨ isL (bt a 0) = false) : readV s = (rz, 2) := by
  unfold readV
  rw [h, if_pos (show [(i, a), (j, b)].length = 2 from rfl)]
  refine if_neg ?_
  rintro ⟨h1, h2⟩
  rcases ha with ha | ha
  · exact ha h1
  · have h2' : isL (bt a 0) = true := h2
    rw [ha] at h2'; cases h2'
theorem read_span {s : ByteArray} {a b : ByteArray} {i j : Nat} (h : (splitV s).1 = [(i, a), (j, b)]) (ha : a.size = 1) (hl : isL (bt a 0) = true) (hb : (spanV b).2.2 ≠ 0) : readV s = (rz, (spanV b).2.2) := by
  unfold readV
  rw [h, if_pos (show [(i, a), (j, b)].length = 2 from rfl)]
  exact (if_pos (And.intro ha hl)).trans (if_neg hb)
theorem read_good {s : ByteArray} {a b : ByteArray} {i j : Nat} (h : (splitV s).1 = [(i, a), (j, b)]) (ha : a.size = 1) (hl : isL (bt a 0) = true) (hb : (spanV b).2.2 = 0) : readV s = ((kindB (bt a 0), (spanV b).1, (spanV b).2.1), 0) := by
  unfold readV
  rw [h, if_pos (show [(i, a), (j, b)].length = 2 from rfl)]
  exact (if_pos (And.intro ha hl)).trans (if_pos hb)

theorem two_words {α : Type} {l : List α} (h : l.length = 2) : ∃ a b, l = [a, b] := by
  match l, h with
  | [a, b], _ => exact ⟨a, b, rfl⟩

theorem one_byte {a : ByteArray} (h : a.size = 1) : ∃ b, a = ⟨#[b]⟩ := by
  have := size_list a
  rw [h] at this
  match hl : a.data.toList, this with
  | [b], _ => exact ⟨b, ba_ext (by rw [hl])⟩

theorem split_two {s : ByteArray} (h : (splitV s).1.length = 2) : (splitV s).2.2 = 0 := by
  revert h
  unfold splitV
  split
  · intro h; simp at h
  · split
    · intro h; simp at h
    · split
      · intro h; simp at h
      · intro _; rfl

/-- A line that is read is the line of what is read; and that is right alone. -/
theorem read_back {s : ByteArray} (h : (readV s).2 = 0) : lineB (readV s).1.1 (readV s).1.2.1 (readV s).1.2.2 = s ∧ aloneV (readV s).1.1 (readV s).1.2.1 (readV s).1.2.2 = 0 := by
  by_cases h2 : (splitV s).1.length = 2
  · obtain ⟨⟨i, a⟩, ⟨j, b⟩, he⟩ := two_words h2
    by_cases ha : a.size = 1
    · by_cases hl : isL (bt a 0) = true
      · by_cases hb : (spanV b).2.2 = 0
        · rw [read_good he ha hl hb]
          obtain ⟨t1, t2, t3, t4⟩ := told_span hb
          obtain ⟨c, rfl⟩ := one_byte ha
          have hbt : bt (⟨#[c]⟩ : ByteArray) 0 = (c.toNat : Int) := bt_head (r := []) rfl
          rw [hbt] at hl ⊢
          have hk := byte_back hl
          have hkb := kindB_bd (c.toNat : Int)
          have hj := (split_back (split_two h2)).2
          rw [he] at hj
          refine ⟨ba_ext ?_, alone_zero.2 ⟨hkb, t2, t3, t4⟩⟩
          show (lineB (kindB (c.toNat : Int)) (spanV b).1 (spanV b).2.1).data.toList = s.data.toList
          rw [← line_join, hk, t1]
          exact hj
        · rw [read_span he ha hl hb] at h; exact absurd h hb
      · rw [read_kind he (.inr (by simpa using hl))] at h; cases h
    · rw [read_kind he (.inl ha)] at h; cases h
  · rw [read_form h2] at h; cases h

/-! ### The line of a right record is read as it -/

theorem ltB_nat {k : Int} (h0 : 0 ≤ k) (h1 : k < 4) : ((ltB k).toNat : Int) = ltN k ∧ 33 ≤ ltN k ∧ ltN k ≤ 126 := by
  have : k = 0 ∨ k = 1 ∨ k = 2 ∨ k = 3 := by omega
  rcases this with rfl | rfl | rfl | rfl <;> exact ⟨by rfl, by decide, by decide⟩

/-- Two words with a blank between are split into them. -/
theorem split_pair {a b : ByteArray} (ha : a.size ≠ 0) (hb : b.size ≠ 0) (wa : ∀ c ∈ a.data.toList, 33 ≤ c.toNat ∧ c.toNat ≤ 126) (wb : ∀ c ∈ b.data.toList, 33 ≤ c.toNat ∧ c.toNat ≤ 126) :
    splitV ((a ++ ⟨#[32]⟩) ++ b) = ([(0, a), (a.size + 1, b)], 0, 0) := by
  obtain ⟨s, hs⟩ : ∃ s, (a ++ ⟨#[32]⟩) ++ b = s := ⟨_, rfl⟩
  rw [hs]
  have hlist : s.data.toList = a.data.toList ++ (32 :: b.data.toList) := by
    rw [← hs, ByteArray.data_append, ByteArray.data_append, Array.toList_append, Array.toList_append]; simp
  have la := size_list a
  have lb := size_list b
  have hz : s.size = a.size + 1 + b.size := by
    rw [← size_list s, hlist, List.length_append, List.length_cons, la, lb]; omega
  have f1 : ∀ j, j < a.size → 33 ≤ bt s j ∧ bt s j ≤ 126 := by
    intro j hj
    obtain ⟨c, hc, hct⟩ := byte_list s j (by omega)
    rw [hlist, List.getElem?_append_left (by omega)] at hc
    have := wa c (List.mem_of_getElem? hc)
    omega
  have f2 : bt s a.size = 32 := by
    have := (bt_is (s := s) (i := a.size) (by omega) (c := 32)).1 (by rw [hlist, List.getElem?_append_right (by omega), la]; simp)
    exact this
  have f3 : ∀ j, a.size < j → j < s.size → 33 ≤ bt s j ∧ bt s j ≤ 126 := by
    intro j h1 h2
    obtain ⟨c, hc, hct⟩ := byte_list s j h2
    rw [hlist, List.getElem?_append_right (by omega), la, show j - a.size = (j - a.size - 1) + 1 by omega, List.getElem?_cons_succ] at hc
    have := wb c (List.mem_of_getElem? hc)
    omega
  have p1 := piece_skip (c := 32) (t := s) (i := 0) (d := a.size) (fun j _ hj => by have := f1 j (by omega); omega)
  rw [Nat.zero_add] at p1
  have p2 : pbeg 32 s (a.size + 1) = a.size + 1 := pbeg_hit f2
  have p3 : pdone 32 s (a.size + 1) = [(0, s.extract 0 a.size)] := by rw [pdone_hit f2, p1.1, p1.2]; rfl
  have p4 := piece_skip (c := 32) (t := s) (i := a.size + 1) (d := b.size) (fun j h1 h2 => by have := f3 j (by omega) (by omega); omega)
  rw [← hz, p2, p3] at p4
  have nb : ∀ j, j < s.size → ¬ bad s j := by
    intro j hj hbad
    unfold bad at hbad
    rcases Nat.lt_trichotomy j a.size with h | h | h
    · have := f1 j h
      omega
    · subst h
      rw [p1.1, f2] at hbad
      have : pbeg 32 s 0 = 0 := rfl
      omega
    · have := f3 j h hj
      omega
  rw [split_full (by omega) nb (by rw [p4.1]; omega)]
  unfold fullW
  rw [p4.1, p4.2]
  have e1 : s.extract 0 a.size = a := ba_ext (by rw [ext_list, hlist]; simp [la])
  have e2 : s.extract (a.size + 1) s.size = b := ba_ext (by
    rw [ext_list, List.take_of_length_le (by rw [size_list]; omega), hlist, ← List.drop_drop, List.drop_left' la]
    rfl)
  rw [e1, e2]
  rfl

theorem told_bytes {x y : Int} (hx : 0 ≤ x) (hy : 0 ≤ y) : ∀ c ∈ (toldB x y).data.toList, 33 ≤ c.toNat ∧ c.toNat ≤ 126 := by
  intro c hc
  rw [told_list, itoa_pos hx, itoa_pos hy] at hc
  rcases List.mem_append.1 hc with h | h
  · have := (dec_dig x.toNat).1 c h; omega
  · rcases List.mem_cons.1 h with rfl | h
    · decide
    · have := (dec_dig y.toNat).1 c h; omega

theorem told_size (x y : Int) : (toldB x y).size ≠ 0 := by have := told_lt x y; omega

theorem line_split {k x y : Int} (hk : 0 ≤ k ∧ k < 4) (hx : 0 ≤ x) (hy : 0 ≤ y) : (splitV (lineB k x y)).1 = [(0, ⟨#[ltB k]⟩), (2, toldB x y)] := by
  have hl := ltB_nat hk.1 hk.2
  unfold lineB
  rw [split_pair (a := ⟨#[ltB k]⟩) (fun h => Nat.one_ne_zero h) (told_size x y) (fun c hc => by simp at hc; subst hc; omega) (told_bytes hx hy)]
  rfl

theorem read_line {k x y : Int} (h : aloneV k x y = 0) : readV (lineB k x y) = ((k, x, y), 0) := by
  obtain ⟨hk, hx, hxy, hy⟩ := alone_zero.1 h
  have hs := line_split hk hx (by omega : 0 ≤ y)
  have hl := ltB_nat hk.1 hk.2
  have hbt : bt (⟨#[ltB k]⟩ : ByteArray) 0 = ltN k := by rw [bt_head (r := []) rfl]; exact hl.1
  have hsp : spanV (toldB x y) = (x, y, 0) := by
    rcases span_back x y with ⟨_, _, _, h⟩ | ⟨h, _⟩
    · exact h
    · exact absurd ⟨hx, hxy, hy⟩ h
  have hi := idx_lt hk.1 hk.2
  rw [read_good hs rfl (by rw [hbt]; unfold isL; rw [hi]; exact decide_eq_true hk.1) (by rw [hsp]), hbt, hsp]
  unfold kindB
  rw [hi, if_pos hk.1]

/-! ### Texts of lines -/

theorem pbeg_gap (c : Int) (t : ByteArray) : ∀ i j, pbeg c t i ≤ j → j < i → bt t j ≠ c
  | 0, j, _, h => by omega
  | i + 1, j, h1, h2 => by
    rw [pbeg] at h1
    split at h1
    · omega
    · rename_i hc
      by_cases e : j = i
      · subst e; exact hc
      · exact pbeg_gap c t i j h1 (by omega)

theorem piece_clean (c : UInt8) (t : ByteArray) : ∀ i, i ≤ t.size → ∀ s ∈ pdone (c.toNat : Int) t i, c ∉ s.2.data.toList
  | 0, _, s, hs => by simp [pdone] at hs
  | i + 1, h, s, hs => by
    have ih := piece_clean c t i (by omega)
    rw [pdone] at hs
    split at hs
    · rcases List.mem_append.1 hs with h1 | h1
      · exact ih s h1
      · simp only [List.mem_singleton] at h1
        subst h1
        intro hm
        simp only [ext_list] at hm
        obtain ⟨n, hn⟩ := List.getElem?_of_mem hm
        rw [List.getElem?_drop] at hn
        have hlt : pbeg (c.toNat : Int) t i + n < i := by
          have := (List.getElem?_eq_some_iff.1 hn).1
          rw [List.length_take] at this
          omega
        rw [List.getElem?_take_of_lt hlt] at hn
        exact pbeg_gap (c.toNat : Int) t i _ (by omega) hlt ((bt_is (by omega)).1 hn)
    · exact ih s hs

theorem sep_inj {c : UInt8} : ∀ {x y A B : List UInt8}, c ∉ x → c ∉ y → x ++ c :: A = y ++ c :: B → x = y ∧ A = B
  | [], [], A, B, _, _, h => by simpa using h
  | [], b :: y, A, B, _, hy, h => by
    simp only [List.nil_append, List.cons_append] at h
    injection h with h1 _
    exact absurd (h1 ▸ List.mem_cons_self ..) hy
  | a :: x, [], A, B, hx, _, h => by
    simp only [List.nil_append, List.cons_append] at h
    injection h with h1 _
    exact absurd (h1 ▸ List.mem_cons_self ..) hx
  | a :: x, b :: y, A, B, hx, hy, h => by
    simp only [List.cons_append] at h
    injection h with h1 h2
    have := sep_inj (fun hm => hx (List.mem_cons_of_mem _ hm)) (fun hm => hy (List.mem_cons_of_mem _ hm)) h2
    exact ⟨by rw [h1, this.1], this.2⟩

theorem flat_inj {c : UInt8} : ∀ {a b : List (List UInt8)}, (∀ x ∈ a, c ∉ x) → (∀ x ∈ b, c ∉ x) → a.flatMap (fun x => x ++ [c]) = b.flatMap (fun x => x ++ [c]) → a = b
  | [], [], _, _, _ => rfl
  | [], y :: b, _, _, h => by simp at h
  | x :: a, [], _, _, h => by simp at h
  | x :: a, y :: b, ha, hb, h => by
    simp only [List.flatMap_cons, List.append_assoc, List.singleton_append] at h
    obtain ⟨h1, h2⟩ := sep_inj (ha x (List.mem_cons_self ..)) (hb y (List.mem_cons_self ..)) h
    rw [h1, flat_inj (fun z hz => ha z (List.mem_cons_of_mem _ hz)) (fun z hz => hb z (List.mem_cons_of_mem _ hz)) h2]

theorem texts_inj {a b : List ByteArray} (h : a.map (·.data.toList) = b.map (·.data.toList)) : a = b := by
  induction a generalizing b with
  | nil => cases b with
    | nil => rfl
    | cons y b => simp at h
  | cons x a ih => cases b with
    | nil => simp at h
    | cons y b =>
      simp only [List.map_cons] at h
      injection h with h1 h2
      rw [ba_ext h1, ih h2]

/-- What is told by lines that are ended. -/
def endedL (ls : List ByteArray) : List UInt8 := ls.flatMap fun s => s.data.toList ++ [10]

theorem ended_flat (ls : List ByteArray) : endedL ls = (ls.map (·.data.toList)).flatMap (fun x => x ++ [10]) := by
  unfold endedL; rw [List.flatMap_map]

theorem lines_flat {t : ByteArray} (h : (linesV t).2.2 = 0) : endedL (linesV t).1 = t.data.toList := by
  by_cases he : pbeg 10 t t.size = t.size
  · rw [lines_good he]
    have hj := join_done 10 t t.size (Nat.le_refl _)
    have e : (((10 : UInt8).toNat : Int)) = 10 := rfl
    rw [e, he, List.take_of_length_le (Nat.le_of_eq (size_list t))] at hj
    unfold endedL
    rw [List.flatMap_map]
    exact hj
  · rw [lines_bad he] at h; cases h

theorem lines_clean {t : ByteArray} : ∀ s ∈ (linesV t).1, (10 : UInt8) ∉ s.data.toList := by
  intro s hs
  by_cases he : pbeg 10 t t.size = t.size
  · rw [lines_good he] at hs
    obtain ⟨p, hp, rfl⟩ := List.mem_map.1 hs
    exact piece_clean 10 t t.size (Nat.le_refl _) p hp
  · rw [lines_bad he] at hs; cases hs

theorem lines_of {t : ByteArray} {ls : List ByteArray} (hc : ∀ s ∈ ls, (10 : UInt8) ∉ s.data.toList) (ht : t.data.toList = endedL ls) : linesV t = (ls, 0, 0) := by
  have he : pbeg 10 t t.size = t.size := by
    rw [pbeg_here]
    by_cases h0 : t.size = 0
    · exact .inl h0
    · right
      have hl := size_list t
      have hlast : t.data.toList[t.size - 1]? = some 10 := by
        rcases List.eq_nil_or_concat ls with h | ⟨r, x, h⟩
        · subst h
          rw [ht] at hl
          simp [endedL] at hl
          omega
        · subst h
          rw [ht] at hl ⊢
          simp only [endedL, List.concat_eq_append, List.flatMap_append, List.flatMap_cons, List.flatMap_nil, List.append_nil, List.length_append, List.length_cons, List.length_nil] at hl ⊢
          rw [← List.append_assoc, List.getElem?_append_right (by rw [List.length_append]; omega)]
          have hq : (List.flatMap (fun s : ByteArray => s.data.toList ++ [10]) r ++ x.data.toList).length = t.size - 1 := by rw [List.length_append]; omega
          rw [hq, Nat.sub_self]
          rfl
      exact (bt_is (by omega) (c := 10)).1 hlast
  have hflat := lines_flat (t := t) (by rw [lines_good he])
  have hclean := lines_clean (t := t)
  have e1 : (linesV t).1 = ls := by
    apply texts_inj
    refine flat_inj (c := 10) (fun x hx => ?_) (fun x hx => ?_) ?_
    · obtain ⟨s, hs, rfl⟩ := List.mem_map.1 hx; exact hclean s hs
    · obtain ⟨s, hs, rfl⟩ := List.mem_map.1 hx; exact hc s hs
    · rw [← ended_flat, ← ended_flat, hflat, ht]
  rw [lines_good he] at e1 ⊢
  simp only at e1
  rw [e1]

end Go.Proofs.YtogcpoaclkomjaaDoor

/- Plain facts on the text of a timeline: what it is, what a text is parsed as, and that both come back. Conditions: none beyond each lemma's own premises. -/
namespace Go.Proofs.YtogcpoaclkomjaaDoor
open Go.RowKit

/-! ### Of a list of records the last one -/

theorem getD_app_left {o r : List Rc} {j : Nat} (h : j < o.length) : (o ++ r).getD j rz = o.getD j rz := by
  rw [List.getD_eq_getElem?_getD, List.getD_eq_getElem?_getD, List.getElem?_append_left h]

theorem getD_app_last (o : List Rc) (r : Rc) : (o ++ [r]).getD o.length rz = r := by
  rw [List.getD_eq_getElem?_getD, List.getElem?_append_right (Nat.le_refl _), Nat.sub_self]; rfl

theorem fault_app {o r : List Rc} {j : Nat} (h : j < o.length) : faultV (o ++ r) j = faultV o j := by
  unfold faultV
  rw [getD_app_left h, getD_app_left (j := j - 1) (by omega)]

/-- What is wrong with the last record, where those ahead of it are a timeline. -/
theorem check_app {o : List Rc} {r : Rc} (h : ∀ j, j < o.length → faultV o j = 0) : (checkV (o ++ [r])).2 = faultV (o ++ [r]) o.length := by
  by_cases e : faultV (o ++ [r]) o.length = 0
  · rw [check_ok (fun j hj => ?_), e]
    rw [List.length_append, List.length_singleton] at hj
    by_cases hj' : j = o.length
    · subst hj'; exact e
    · rw [fault_app (by omega)]; exact h j (by omega)
  · rw [check_bad (k := o.length) (by simp) (fun j hj => by rw [fault_app hj]; exact h j hj) rfl e]

theorem drop_two {l : List Rc} (h : 2 ≤ l.length) : ∃ o a r, l = o ++ [a, r] ∧ l.drop (l.length - 2) = [a, r] := by
  have hd : (l.drop (l.length - 2)).length = 2 := by rw [List.length_drop]; omega
  obtain ⟨a, r, har⟩ := two_words hd
  exact ⟨l.take (l.length - 2), a, r, by rw [← har, List.take_append_drop], har⟩

/-- To look at the last two is enough. -/
theorem check_last {o : List Rc} {r : Rc} (h : ∀ j, j < o.length → faultV o j = 0) : (checkV ((o ++ [r]).drop ((o ++ [r]).length - 2))).2 = faultV (o ++ [r]) o.length := by
  rcases List.eq_nil_or_concat o with h0 | ⟨o', a, h0⟩
  · subst h0
    exact check_app (o := []) (fun j hj => by cases hj)
  · rw [List.concat_eq_append] at h0
    subst h0
    have e1 : (o' ++ [a] ++ [r]).drop ((o' ++ [a] ++ [r]).length - 2) = [a] ++ [r] := by
      rw [List.append_assoc, List.drop_left']
      simp
    have ha : faultV (o' ++ [a]) o'.length = 0 := h o'.length (by simp)
    have hal := fault_ok ha
    rw [getD_app_last] at hal
    rw [e1, check_app (o := [a]) (fun j hj => by
      obtain rfl : j = 0 := by simp at hj; exact hj
      rw [fault_first (x := a.1) (y := a.2.1) (z := a.2.2) rfl]; exact hal)]
    have hl : (o' ++ [a]).length = o'.length + 1 := by simp
    rw [hl]
    have g1 : (o' ++ [a] ++ [r]).getD (o'.length + 1) rz = r := by rw [← hl]; exact getD_app_last _ _
    have g2 : (o' ++ [a] ++ [r]).getD o'.length rz = a := by rw [getD_app_left (by rw [hl]; omega)]; exact getD_app_last _ _
    have g3 : ([a] ++ [r]).getD [a].length rz = r := rfl
    have g4 : ([a] ++ [r]).getD ([a].length - 1) rz = a := rfl
    unfold faultV
    rw [g1, show o'.length + 1 - 1 = o'.length by omega, g2, g3, g4]
    by_cases hr : aloneV r.1 r.2.1 r.2.2 = 0
    · rw [if_pos ⟨hr, by simp⟩, if_pos ⟨hr, by omega⟩]
    · rw [if_neg (fun c => hr c.1), if_neg (fun c => hr c.1)]

/-! ### Of a list of lines the records -/

noncomputable def recsOf (ls : List ByteArray) : List Rc := ls.map fun s => (readV s).1

theorem recs_len (ls : List ByteArray) : (recsOf ls).length = ls.length := by simp [recsOf]

theorem recs_at {ls : List ByteArray} {k : Nat} {s : ByteArray} (hk : k < ls.length) (hs : ls.getD k ⟨#[]⟩ = s) : (recsOf ls).getD k rz = (readV s).1 := by
  subst hs
  rw [List.getD_eq_getElem?_getD, List.getD_eq_getElem?_getD]
  unfold recsOf
  rw [List.getElem?_map, List.getElem?_eq_getElem hk]
  rfl

theorem recs_take {ls : List ByteArray} {k : Nat} {s : ByteArray} (hk : k < ls.length) (hs : ls.getD k ⟨#[]⟩ = s) : (recsOf ls).take (k + 1) = (recsOf ls).take k ++ [(readV s).1] := by
  have hk' : k < (recsOf ls).length := by rw [recs_len]; exact hk
  rw [List.take_succ_eq_append_getElem hk']
  congr 2
  have := recs_at hk hs
  rw [List.getD_eq_getElem?_getD, List.getElem?_eq_getElem hk'] at this
  exact this

/-- What is wrong with the line at k. -/
noncomputable def lineErr (ls : List ByteArray) (k : Nat) : Int := if (readV (ls.getD k ⟨#[]⟩)).2 = 0 then faultV (recsOf ls) k else (readV (ls.getD k ⟨#[]⟩)).2

def placeL (ls : List ByteArray) (k : Nat) : Nat := ((ls.take k).map fun s => s.size + 1).sum

theorem place_zero (ls : List ByteArray) : placeL ls 0 = 0 := by simp [placeL]

theorem place_more {ls : List ByteArray} {k : Nat} {s : ByteArray} (hk : k < ls.length) (hs : ls.getD k ⟨#[]⟩ = s) : placeL ls (k + 1) = placeL ls k + (s.size + 1) := by
  unfold placeL
  rw [List.take_succ_eq_append_getElem hk, List.map_append, List.sum_append]
  rw [List.getD_eq_getElem?_getD, List.getElem?_eq_getElem hk] at hs
  simp at hs
  simp [hs]

theorem ended_len (ls : List ByteArray) : (endedL ls).length = (ls.map fun s => s.size + 1).sum := by
  induction ls with
  | nil => rfl
  | cons s ls ih =>
    have e : endedL (s :: ls) = (s.data.toList ++ [10]) ++ endedL ls := rfl
    rw [e, List.length_append, List.length_append, size_list, ih]
    simp

theorem place_le (ls : List ByteArray) (k : Nat) : placeL ls k ≤ (endedL ls).length := by
  have e : ls = ls.take k ++ ls.drop k := (List.take_append_drop k ls).symm
  have h : endedL ls = endedL (ls.take k) ++ endedL (ls.drop k) := by
    conv => lhs; rw [e]
    unfold endedL; rw [List.flatMap_append]
  rw [h, List.length_append, ended_len (ls.take k)]
  exact Nat.le_add_right _ _

theorem line_le {ls : List ByteArray} {k : Nat} {s : ByteArray} (hk : k < ls.length) (hs : ls.getD k ⟨#[]⟩ = s) : s.size ≤ (endedL ls).length := by
  have := place_le ls (k + 1)
  rw [place_more hk hs] at this
  omega

/-- What is read of the lines. -/
noncomputable def readAll (ls : List ByteArray) : List Rc × Nat × Int :=
  match (List.range ls.length).find? (fun k => lineErr ls k != 0) with | none => (recsOf ls, 0, 0) | some k => ([], placeL ls k, lineErr ls k)

theorem all_good {ls : List ByteArray} (h : ∀ j, j < ls.length → lineErr ls j = 0) : readAll ls = (recsOf ls, 0, 0) := by
  unfold readAll
  have e : (List.range ls.length).find? (fun k => lineErr ls k != 0) = none := by
    rw [List.find?_eq_none]
    intro j hj
    simp [h j (by simpa using hj)]
  rw [e]

theorem all_bad {ls : List ByteArray} {k : Nat} {e : Int} (hk : k < ls.length) (h : ∀ j, j < k → lineErr ls j = 0) (he : lineErr ls k = e) (hne : e ≠ 0) : readAll ls = ([], placeL ls k, e) := by
  have e1 : (List.range ls.length).find? (fun j => lineErr ls j != 0) = some k := by
    rw [List.find?_range_eq_some]
    refine ⟨by simp [he, hne], by simpa using hk, fun j hj => by simp [h j hj]⟩
  unfold readAll
  rw [e1, ← he]

theorem all_zero {ls : List ByteArray} (h : (readAll ls).2.2 = 0) : ∀ j, j < ls.length → lineErr ls j = 0 := by
  intro j hj
  rcases hf : (List.range ls.length).find? (fun k => lineErr ls k != 0) with _ | k
  · rw [List.find?_eq_none] at hf
    have := hf j (by simpa using hj)
    simpa using this
  · have hk := hf
    rw [List.find?_range_eq_some] at hk
    unfold readAll at h
    rw [hf] at h
    have := hk.1
    simp at this h
    exact absurd h this

theorem err_read {ls : List ByteArray} {k : Nat} {s : ByteArray} (hs : ls.getD k ⟨#[]⟩ = s) (h : (readV s).2 ≠ 0) : lineErr ls k = (readV s).2 := by
  subst hs; unfold lineErr; rw [if_neg h]
theorem err_fault {ls : List ByteArray} {k : Nat} {s : ByteArray} (hs : ls.getD k ⟨#[]⟩ = s) (h : (readV s).2 = 0) : lineErr ls k = faultV (recsOf ls) k := by
  subst hs; unfold lineErr; rw [if_pos h]
theorem err_zero {ls : List ByteArray} {k : Nat} (h : lineErr ls k = 0) : (readV (ls.getD k ⟨#[]⟩)).2 = 0 ∧ faultV (recsOf ls) k = 0 := by
  unfold lineErr at h
  split at h
  · rename_i c; exact ⟨c, h⟩
  · rename_i c; exact absurd h c

theorem fault_take {l : List Rc} {j k : Nat} (hj : j < k) (hk : k ≤ l.length) : faultV (l.take k) j = faultV l j := by
  have e : l = l.take k ++ l.drop k := (List.take_append_drop k l).symm
  conv => rhs; rw [e]
  exact (fault_app (by rw [List.length_take]; omega)).symm

/-- Of the records that are read up to k: the last one's fault, and that it is enough to look at the last two. -/
theorem took_check {ls : List ByteArray} {k : Nat} {s : ByteArray} (hk : k < ls.length) (hs : ls.getD k ⟨#[]⟩ = s) (h : ∀ j, j < k → lineErr ls j = 0) :
    (checkV ((recsOf ls).take k ++ [(readV s).1])).2 = faultV (recsOf ls) k ∧ (checkV (((recsOf ls).take k ++ [(readV s).1]).drop (((recsOf ls).take k ++ [(readV s).1]).length - 2))).2 = faultV (recsOf ls) k := by
  have hl : ((recsOf ls).take k).length = k := by rw [List.length_take, recs_len]; omega
  have h0 : ∀ j, j < ((recsOf ls).take k).length → faultV ((recsOf ls).take k) j = 0 := by
    intro j hj
    rw [hl] at hj
    rw [fault_take hj (by rw [recs_len]; omega)]
    exact (err_zero (h j hj)).2
  have e : faultV ((recsOf ls).take k ++ [(readV s).1]) ((recsOf ls).take k).length = faultV (recsOf ls) k := by
    rw [hl, ← recs_take hk hs]
    exact fault_take (by omega) (by rw [recs_len]; omega)
  exact ⟨(check_app h0).trans e, (check_last h0).trans e⟩

/-! ### Texts -/

/-- The text of a timeline. -/
def lineR (r : Rc) : ByteArray := lineB r.1 r.2.1 r.2.2
def textL (l : List Rc) : List UInt8 := endedL (l.map lineR)

theorem text_nil : textL [] = [] := rfl
theorem text_take {l : List Rc} {k : Nat} {x y z : Int} (hk : k < l.length) (hr : l.getD k rz = (x, y, z)) : textL (l.take (k + 1)) = textL (l.take k) ++ (lineB x y z).data.toList ++ [10] := by
  rw [List.take_succ_eq_append_getElem hk]
  rw [List.getD_eq_getElem?_getD, List.getElem?_eq_getElem hk] at hr
  simp at hr
  rw [hr]
  simp [textL, endedL, lineR]

def printV (l : List Rc) : ByteArray × Int := if (checkV l).2 = 0 then (⟨(textL l).toArray⟩, 0) else (⟨#[]⟩, (checkV l).2)

theorem print_ok {l : List Rc} (h : (checkV l).2 = 0) : printV l = (⟨(textL l).toArray⟩, 0) := if_pos h
theorem print_bad {l : List Rc} (h : (checkV l).2 ≠ 0) : printV l = (⟨#[]⟩, (checkV l).2) := if_neg h

noncomputable def tapeV (t : ByteArray) : List Rc × Nat × Int := if (linesV t).2.2 = 0 then readAll (linesV t).1 else ([], (linesV t).2.1, (linesV t).2.2)

theorem tape_lines {t : ByteArray} (h : (linesV t).2.2 = 0) : tapeV t = readAll (linesV t).1 := if_pos h
theorem tape_bad {t : ByteArray} (h : (linesV t).2.2 ≠ 0) : tapeV t = ([], (linesV t).2.1, (linesV t).2.2) := if_neg h

theorem line_clean {k x y : Int} (h : aloneV k x y = 0) : (10 : UInt8) ∉ (lineB k x y).data.toList := by
  obtain ⟨hk, hx, hxy, hy⟩ := alone_zero.1 h
  have hl := ltB_nat hk.1 hk.2
  have ht := told_bytes hx (by omega : 0 ≤ y)
  rw [line_list]
  intro hm
  have e10 : (10 : UInt8).toNat = 10 := rfl
  rcases List.mem_cons.1 hm with h1 | h1
  · rw [← h1, e10] at hl; omega
  · rcases List.mem_cons.1 h1 with h2 | h2
    · cases h2
    · have := ht 10 h2; omega

theorem getD_mem {l : List Rc} {r : Rc} (h : r ∈ l) : ∃ j, j < l.length ∧ l.getD j rz = r := by
  obtain ⟨j, hj, rfl⟩ := List.getElem_of_mem h
  exact ⟨j, hj, by rw [List.getD_eq_getElem?_getD, List.getElem?_eq_getElem hj]; rfl⟩

/-- A timeline's text is parsed as it. -/
theorem parse_print {l : List Rc} (h : (checkV l).2 = 0) : tapeV ⟨(textL l).toArray⟩ = (l, 0, 0) := by
  have hf := check_zero h
  have hal : ∀ r ∈ l, aloneV r.1 r.2.1 r.2.2 = 0 := by
    intro r hr
    obtain ⟨j, hj, hjr⟩ := getD_mem hr
    have := fault_ok (hf j hj)
    rw [hjr] at this
    exact this
  have hlines : linesV ⟨(textL l).toArray⟩ = (l.map lineR, 0, 0) := by
    refine lines_of (fun s hs => ?_) (by simp [textL])
    obtain ⟨r, hr, rfl⟩ := List.mem_map.1 hs
    exact line_clean (hal r hr)
  have hread : ∀ r ∈ l, readV (lineR r) = (r, 0) := fun r hr => read_line (hal r hr)
  have hrecs : recsOf (l.map lineR) = l := by
    unfold recsOf
    rw [List.map_map]
    conv => rhs; rw [← List.map_id l]
    exact List.map_congr_left fun r hr => by simp [Function.comp, hread r hr]
  rw [tape_lines (by rw [hlines]), hlines, all_good, hrecs]
  intro j hj
  rw [List.length_map] at hj
  have hj' : (l.map lineR).getD j ⟨#[]⟩ = lineR (l[j]) := by
    rw [List.getD_eq_getElem?_getD, List.getElem?_map, List.getElem?_eq_getElem hj]; rfl
  rw [err_fault hj' (by rw [hread _ (List.getElem_mem hj)]), hrecs]
  exact hf j hj

/-- What is parsed is printed as it was. -/
theorem print_parse {t : ByteArray} (h : (tapeV t).2.2 = 0) : printV (tapeV t).1 = (t, 0) := by
  by_cases hl : (linesV t).2.2 = 0
  · rw [tape_lines hl] at h ⊢
    have hz := all_zero h
    rw [all_good hz]
    have hck : (checkV (recsOf (linesV t).1)).2 = 0 := by
      rw [check_ok]
      intro j hj
      rw [recs_len] at hj
      exact (err_zero (hz j hj)).2
    rw [print_ok hck]
    have e : (recsOf (linesV t).1).map lineR = (linesV t).1 := by
      unfold recsOf
      rw [List.map_map]
      conv => rhs; rw [← List.map_id (linesV t).1]
      refine List.map_congr_left fun s hs => ?_
      obtain ⟨j, hj, rfl⟩ := List.getElem_of_mem hs
      have := (err_zero (hz j hj)).1
      rw [List.getD_eq_getElem?_getD, List.getElem?_eq_getElem hj] at this
      exact (read_back this).1
    have : textL (recsOf (linesV t).1) = t.data.toList := by
      unfold textL
      rw [e]
      exact lines_flat hl
    rw [this]
  · rw [tape_bad hl] at h; exact absurd h hl

/-- Where an error is told there are no records. -/
theorem tape_none {t : ByteArray} (h : (tapeV t).2.2 ≠ 0) : (tapeV t).1 = [] := by
  by_cases hl : (linesV t).2.2 = 0
  · rw [tape_lines hl] at h ⊢
    unfold readAll at h ⊢
    split
    · rename_i e; rw [e] at h; exact absurd rfl h
    · rfl
  · rw [tape_bad hl]

theorem tape_len (t : ByteArray) : (tapeV t).1.length ≤ t.size := by
  by_cases hl : (linesV t).2.2 = 0
  · rw [tape_lines hl]
    have h1 := lines_len t
    unfold readAll
    split
    · show (recsOf _).length ≤ _
      rw [recs_len]; exact h1
    · exact Nat.zero_le _
  · rw [tape_bad hl]; exact Nat.zero_le _

end Go.Proofs.YtogcpoaclkomjaaDoor
