/- Plain facts on what is told and read back: numbers, spans, two words with a blank between. Conditions: none beyond each lemma's own premises. -/
import Derived.Test.YtdepglceffpfhaaDoorWordBackM
namespace Go.Proofs.YtdepglceffpfhaaDoor
open Go.RowKit

/-! ### Numbers and spans that are read are told as they were -/

theorem dec_val : ∀ (n : Nat) (l : List UInt8), l.length = n → digL l → l ≠ [] → (l.length = 1 ∨ ∃ b r, l = b :: r ∧ b.toNat ≠ 48) → Lib.decDigits (valF 0 l) = l := by
  intro n
  induction n with
  | zero => intro l h _ hne; exact absurd (List.eq_nil_of_length_eq_zero h) hne
  | succ n ih =>
    intro l hlen hd hne hh
    rcases List.eq_nil_or_concat l with h | ⟨r, b, h⟩
    · exact absurd h hne
    rw [List.concat_eq_append] at h
    subst h
    have hb := hd b (by simp)
    have hr : digL r := fun x hx => hd x (by simp [hx])
    have eb : UInt8.ofNat (48 + (b.toNat - 48)) = b := by
      rw [show 48 + (b.toNat - 48) = b.toNat by omega]
      exact UInt8.ofNat_toNat
    by_cases h0 : r = []
    · subst h0
      rw [List.nil_append]
      have e : valF 0 [b] = b.toNat - 48 := by unfold valF; simp
      rw [e, dec_small (by omega), eb]
    · have hhead : ∃ c q, r = c :: q ∧ c.toNat ≠ 48 := by
        rcases hh with h1 | ⟨c, q, hc, hcn⟩
        · rw [List.length_append] at h1
          have := List.length_pos_iff.2 h0
          simp at h1
          exact absurd h1 h0
        · cases r with
          | nil => exact absurd rfl h0
          | cons c' q' =>
            rw [List.cons_append] at hc
            injection hc with h1 h2
            exact ⟨c', q', rfl, by rw [h1]; exact hcn⟩
      have ihr := ih r (by simpa using hlen) hr h0 (.inr hhead)
      obtain ⟨c, q, hq, hne⟩ := hhead
      have hc := hr c (by rw [hq]; exact List.mem_cons_self ..)
      have hge : 1 ≤ valF 0 r := by
        have := valF_ge q (10 * 0 + (c.toNat - 48))
        rw [hq, valF_cons]
        omega
      rw [valF_snoc, dec_big (by omega), show (10 * valF 0 r + (b.toNat - 48)) / 10 = valF 0 r by omega, show (10 * valF 0 r + (b.toNat - 48)) % 10 = b.toNat - 48 by omega, ihr, eb]

theorem itoa_num {s : ByteArray} (h : numOk s) : itoaB (numV s : Int) = s := by
  apply ba_ext
  obtain ⟨h0, hd, hz⟩ := h
  rw [itoaB_list, itoa_pos (by omega)]
  unfold numV
  rw [Int.toNat_natCast]
  have hne : s.data.toList ≠ [] := fun e => h0 (by rw [← size_list, e]; rfl)
  refine dec_val _ _ rfl hd hne ?_
  rcases hz with hz | hz
  · left; rw [size_list]; exact hz
  · right
    cases hl : s.data.toList with
    | nil => exact absurd hl hne
    | cons b r =>
      refine ⟨b, r, rfl, fun e => hz ?_⟩
      rw [bt_head hl, e]; rfl

theorem cat_minus {s : ByteArray} {p : Nat} (hp : p < s.size) (h : bt s p = 45) : (s.extract 0 p ++ ⟨#[45]⟩) ++ s.extract (p + 1) s.size = s := by
  apply ba_ext
  rw [ByteArray.data_append, ByteArray.data_append, Array.toList_append, Array.toList_append, ext_list, ext_list]
  have e1 : s.data.toList[p]? = some 45 := (bt_is hp).2 h
  have hl := size_list s
  have e2 : List.take s.size s.data.toList = s.data.toList := List.take_of_length_le (by omega)
  obtain ⟨hp', e3⟩ := List.getElem?_eq_some_iff.1 e1
  rw [e2, List.drop_zero]
  have e4 := List.drop_eq_getElem_cons hp'
  rw [e3] at e4
  have e5 : (⟨#[45]⟩ : ByteArray).data.toList = [45] := rfl
  rw [e5, List.append_assoc, List.singleton_append, ← e4, List.take_append_drop]

/-- A span that is read is told as it was. -/
theorem told_span {s : ByteArray} (h : (spanV s).2.2 = 0) : toldB (spanV s).1 (spanV s).2.1 = s ∧ 0 ≤ (spanV s).1 ∧ (spanV s).1 < (spanV s).2.1 ∧ (spanV s).2.1 ≤ 40320 := by
  by_cases hm : ∃ p, p < s.size ∧ bt s p = 45
  · obtain ⟨p, hp, hb, hn⟩ : ∃ p, p < s.size ∧ bt s p = 45 ∧ ∀ j, j < p → bt s j ≠ 45 := by
      obtain ⟨p, hp, hb⟩ := hm
      induction p using Nat.strongRecOn with
      | _ p ih =>
        by_cases hx : ∃ j, j < p ∧ bt s j = 45
        · obtain ⟨j, j1, j2⟩ := hx
          exact ih j j1 (by omega) j2
        · exact ⟨p, hp, hb, fun j j1 j2 => hx ⟨j, j1, j2⟩⟩
    rw [span_at hp hb hn] at h ⊢
    by_cases ha : numOk (s.extract 0 p)
    · by_cases hc : numOk (s.extract (p + 1) s.size)
      · by_cases hf : 40320 < numV (s.extract 0 p) ∨ 40320 < numV (s.extract (p + 1) s.size)
        · rw [pair_far ha hc hf] at h; cases h
        · by_cases hs : numV (s.extract (p + 1) s.size) ≤ numV (s.extract 0 p)
          · rw [pair_span ha hc (by omega) (by omega) hs] at h; cases h
          · rw [pair_good ha hc (by omega) (by omega) (by omega)]
            refine ⟨?_, by simp, by simp; omega, by simp; omega⟩
            show (itoaB _ ++ ⟨#[45]⟩) ++ itoaB _ = s
            rw [itoa_num ha, itoa_num hc]
            exact cat_minus hp hb
      · rw [pair_form (.inr hc)] at h; cases h
    · rw [pair_form (.inl ha)] at h; cases h
  · rw [span_none (fun j hj hb => hm ⟨j, hj, hb⟩)] at h; cases h

/-! ### Words with a blank between -/

theorem two_words {α : Type} {l : List α} (h : l.length = 2) : ∃ a b, l = [a, b] := by
  match l, h with
  | [a, b], _ => exact ⟨a, b, rfl⟩

theorem split_two {s : ByteArray} (h : (splitV s).1.length = 2) : (splitV s).2.2 = 0 := by
  revert h
  unfold splitV
  split
  · intro h; simp at h
  · split
    · intro h; simp at h
    · split
      · intro h; simp at h
      · intro _; rfl

/-- Two words with a blank between are split into them. -/
theorem split_pair {a b : ByteArray} (ha : a.size ≠ 0) (hb : b.size ≠ 0) (wa : ∀ c ∈ a.data.toList, 33 ≤ c.toNat ∧ c.toNat ≤ 126) (wb : ∀ c ∈ b.data.toList, 33 ≤ c.toNat ∧ c.toNat ≤ 126) :
    splitV ((a ++ ⟨#[32]⟩) ++ b) = ([(0, a), (a.size + 1, b)], 0, 0) := by
  obtain ⟨s, hs⟩ : ∃ s, (a ++ ⟨#[32]⟩) ++ b = s := ⟨_, rfl⟩
  rw [hs]
  have hlist : s.data.toList = a.data.toList ++ (32 :: b.data.toList) := by
    rw [← hs, ByteArray.data_append, ByteArray.data_append, Array.toList_append, Array.toList_append]; simp
  have la := size_list a
  have lb := size_list b
  have hz : s.size = a.size + 1 + b.size := by
    rw [← size_list s, hlist, List.length_append, List.length_cons, la, lb]; omega
  have f1 : ∀ j, j < a.size → 33 ≤ bt s j ∧ bt s j ≤ 126 := by
    intro j hj
    obtain ⟨c, hc, hct⟩ := byte_list s j (by omega)
    rw [hlist, List.getElem?_append_left (by omega)] at hc
    have := wa c (List.mem_of_getElem? hc)
    omega
  have f2 : bt s a.size = 32 := by
    have := (bt_is (s := s) (i := a.size) (by omega) (c := 32)).1 (by rw [hlist, List.getElem?_append_right (by omega), la]; simp)
    exact this
  have f3 : ∀ j, a.size < j → j < s.size → 33 ≤ bt s j ∧ bt s j ≤ 126 := by
    intro j h1 h2
    obtain ⟨c, hc, hct⟩ := byte_list s j h2
    rw [hlist, List.getElem?_append_right (by omega), la, show j - a.size = (j - a.size - 1) + 1 by omega, List.getElem?_cons_succ] at hc
    have := wb c (List.mem_of_getElem? hc)
    omega
  have p1 := piece_skip (c := 32) (t := s) (i := 0) (d := a.size) (fun j _ hj => by have := f1 j (by omega); omega)
  rw [Nat.zero_add] at p1
  have p2 : pbeg 32 s (a.size + 1) = a.size + 1 := pbeg_hit f2
  have p3 : pdone 32 s (a.size + 1) = [(0, s.extract 0 a.size)] := by rw [pdone_hit f2, p1.1, p1.2]; rfl
  have p4 := piece_skip (c := 32) (t := s) (i := a.size + 1) (d := b.size) (fun j h1 h2 => by have := f3 j (by omega) (by omega); omega)
  rw [← hz, p2, p3] at p4
  have nb : ∀ j, j < s.size → ¬ bad s j := by
    intro j hj hbad
    unfold bad at hbad
    rcases Nat.lt_trichotomy j a.size with h | h | h
    · have := f1 j h
      omega
    · subst h
      rw [p1.1, f2] at hbad
      have : pbeg 32 s 0 = 0 := rfl
      omega
    · have := f3 j h hj
      omega
  rw [split_full (by omega) nb (by rw [p4.1]; omega)]
  unfold fullW
  rw [p4.1, p4.2]
  have e1 : s.extract 0 a.size = a := ba_ext (by rw [ext_list, hlist]; simp [la])
  have e2 : s.extract (a.size + 1) s.size = b := ba_ext (by
    rw [ext_list, List.take_of_length_le (by rw [size_list]; omega), hlist, ← List.drop_drop, List.drop_left' la]
    rfl)
  rw [e1, e2]
  rfl

theorem told_bytes {x y : Int} (hx : 0 ≤ x) (hy : 0 ≤ y) : ∀ c ∈ (toldB x y).data.toList, 33 ≤ c.toNat ∧ c.toNat ≤ 126 := by
  intro c hc
  rw [told_list, itoa_pos hx, itoa_pos hy] at hc
  rcases List.mem_append.1 hc with h | h
  · have := (dec_dig x.toNat).1 c h; omega
  · rcases List.mem_cons.1 h with rfl | h
    · decide
    · have := (dec_dig y.toNat).1 c h; omega

theorem told_size (x y : Int) : (toldB x y).size ≠ 0 := by have := told_lt x y; omega

end Go.Proofs.YtdepglceffpfhaaDoor
