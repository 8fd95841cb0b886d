/- Timelines as bytes and back, with a byte that slipped, in plain words. Conditions: none beyond each lemma's own premises. -/
import Derived.Test.YtgmcikajhnnaaaaDiscDecC
import Derived.Test.YtgmcikajhnnaaaaSumSlip
namespace Go.Proofs.Ytgmcikajhnnaaaa

theorem open_back {s : ByteArray} (h : (openV s).2 = 0) : sealB (openV s).1 = s := by
  unfold openV at h ⊢
  split at h
  · cases h
  · rename_i hs
    rw [if_neg hs]
    split at h
    · rename_i h2
      rw [if_pos h2]
      unfold sealB
      rw [h2]
      apply ByteArray.ext
      apply Array.ext'
      rw [ba_app, ByteArray.data_extract, ByteArray.data_extract, Array.toList_extract, Array.toList_extract, List.extract_eq_take_drop, List.extract_eq_take_drop, List.drop_zero, Nat.sub_zero]
      have e : s.size = s.data.toList.length := size_of s
      have e2 : (s.data.toList.drop (s.size - 2)).take (s.size - (s.size - 2)) = s.data.toList.drop (s.size - 2) := List.take_of_length_le (by rw [List.length_drop]; omega)
      rw [e2, List.take_append_drop]
    · cases h

theorem dec_len {u : List UInt8} {l : List Rc} (h : decT u = some l) : l.length ≤ u.length := by
  cases hw : wholeV u with
  | none => rw [dec_whole_no hw] at h; cases h
  | some q =>
    obtain ⟨a, b⟩ := q
    obtain ⟨hd, ha, hab, hb⟩ := dec_whole hw
    rw [hd] at h
    cases hr : rdDays (daysV a b) (u.drop 6) with
    | none => rw [hr] at h; cases h
    | some q =>
      obtain ⟨P, v⟩ := q
      rw [hr] at h
      cases v with
      | cons x v => cases h
      | nil =>
        injection h with h
        subst h
        have hs := (rdDays_sound _ _ _ _ _ _ (chn_daysV (a := a) (b := b) (by omega)) ha hb hr).2
        have h1 := norm_len P.flatten
        have h2 : ∀ P : List (List Rc), P.flatten.length ≤ (P.flatMap dayT).length := by
          intro P
          induction P with
          | nil => simp
          | cons R P ih =>
            rw [List.flatten_cons, List.flatMap_cons, List.length_append, List.length_append, dayT_len]
            omega
        have h3 := h2 P
        have h4 := congrArg List.length hs
        rw [List.append_nil, List.length_drop] at h4
        omega

theorem body_len {l : List Rc} (h : (checkV l).2 = 0) (hne : l ≠ []) : (bodyL l).length ≤ 6 + 30 * (2 + 2 * l.length) := by
  have ht := (check_tl h).len hne
  have hfew := days_few (fin l - beg l).toNat (beg l) (fin l) (by omega)
  rw [show days (fin l - beg l).toNat (beg l) (fin l) = daysV (beg l) (fin l) from rfl] at hfew
  have h1 := daysT_len (cutR_len l) (daysV (beg l) (fin l))
  have h2 : (daysV (beg l) (fin l)).length * (2 + 2 * l.length) ≤ 30 * (2 + 2 * l.length) := Nat.mul_le_mul_right _ (by omega)
  unfold bodyL bodyV
  simp only [List.length_append, two_len, List.length_cons, List.length_nil]
  omega

/-- A text that was decoded is what its timeline is encoded as. -/
theorem dec_enc {s : ByteArray} {l : List Rc} (h : (openV s).2 = 0) (hd : decT (openV s).1.data.toList = some l) : encV l = (s, 0) ∧ l.length ≤ s.size := by
  obtain ⟨h1, h2, h3⟩ := dec_sound hd
  have h4 := open_back h
  rw [enc_ok h1 h2, h3]
  refine ⟨?_, ?_⟩
  · rw [show (⟨(openV s).1.data.toList.toArray⟩ : ByteArray) = (openV s).1 from (ba_of rfl).symm, h4]
  · have h5 := dec_len hd
    have h6 : (openV s).1.size ≤ s.size := by rw [← h4, sealB_size, h4]; omega
    rw [← size_of] at h5
    omega

theorem seal_bt (s : ByteArray) {k : Nat} (h : k < s.size) : bt (sealB s) k = bt s k := by
  have e : (sealB s).data.getD k 0 = s.data.getD k 0 := by
    rw [Array.getD_eq_getD_getElem?, Array.getD_eq_getD_getElem?, ← Array.getElem?_toList, ← Array.getElem?_toList]
    unfold sealB
    rw [ba_app, List.getElem?_append_left (by rw [← size_of]; exact h)]
  unfold bt
  rw [e]

theorem seal_head (s : ByteArray) {k : Nat} (h : k < s.size) : (sealB s).extract 0 k = s.extract 0 k := by
  apply ByteArray.ext
  apply Array.ext'
  rw [← show ((sealB s).extract 0 k).data.toList = _ from rfl, head_list, head_list]
  unfold sealB
  rw [ba_app, List.take_append_of_le_length]
  have := size_of s
  omega

/-- A timeline's bytes with one that is another one are not opened. -/
theorem slip_open (s : ByteArray) {k : Nat} (h : k < s.size) {c : Int} (c0 : 0 ≤ c) (c1 : c ≤ 255) (hc : c % 255 ≠ bt (sealB s) k % 255) :
    openV ((sealB s).extract 0 k ++ ⟨#[UInt8.ofNat c.toNat]⟩ ++ (sealB s).extract (k + 1) (sealB s).size) = (⟨#[]⟩, 9) ∧
      ((sealB s).extract 0 k).size = k ∧ ((sealB s).extract (k + 1) (sealB s).size).size = s.size + 1 - k := by
  have hz := cut_one_size s k h (UInt8.ofNat c.toNat)
  rw [seal_bt s h] at hc
  rw [seal_head s h, sealB_size]
  exact ⟨slips_one s k h c c0 c1 hc, hz.1, hz.2.1⟩

end Go.Proofs.Ytgmcikajhnnaaaa
