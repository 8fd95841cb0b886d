/- A sealed text with one byte that is another one, or with two side by side that changed places, is not opened, in plain words. Conditions: none beyond each lemma's own premises. -/
import Derived.Test.YtgmcikajhnnaaaaSumMath
import Derived.Test.YtgmcikajhnnaaaaWeekMath
namespace Go.Proofs.Ytgmcikajhnnaaaa
open Go.RowKit

theorem list_at (s : ByteArray) (k : Nat) (h : k < s.size) : s.data.toList = s.data.toList.take k ++ s[k] :: s.data.toList.drop (k + 1) := by
  have h' : k < s.data.toList.length := by simpa using h
  rw [show s[k] = s.data.toList[k] from rfl, List.getElem_cons_drop, List.take_append_drop]

theorem list_two (s : ByteArray) (k : Nat) (h : k + 1 < s.size) : s.data.toList = s.data.toList.take k ++ s[k] :: s[k + 1] :: s.data.toList.drop (k + 2) := by
  have h' : k + 1 < s.data.toList.length := by simpa using h
  rw [show s[k + 1] = s.data.toList[k + 1] from rfl, List.getElem_cons_drop]
  exact list_at s k (by omega)

theorem tail_list (s b : ByteArray) (j : Nat) (h : j ≤ s.size) : ((s ++ b).extract j (s.size + b.size)).data.toList = s.data.toList.drop j ++ b.data.toList := by
  have e : s.size = s.data.toList.length := by simp
  have e2 : b.size = b.data.toList.length := by simp
  rw [ByteArray.data_extract, ByteArray.data_append, Array.toList_extract, Array.toList_append, List.extract_eq_take_drop, List.drop_append_of_le_length (by omega), List.take_of_length_le]
  rw [List.length_append, List.length_drop]
  omega

theorem head_list (s : ByteArray) (k : Nat) : (s.extract 0 k).data.toList = s.data.toList.take k := by
  rw [ByteArray.data_extract, Array.toList_extract, List.extract_eq_take_drop]
  simp

theorem cut_one (s : ByteArray) (k : Nat) (h : k < s.size) (x : UInt8) :
    s.extract 0 k ++ ⟨#[x]⟩ ++ (sealB s).extract (k + 1) (s.size + 2) = ⟨(s.data.toList.take k ++ x :: s.data.toList.drop (k + 1)).toArray⟩ ++ layB (sumV 0 s.data.toList) := by
  have ht := tail_list s (layB (sumV 0 s.data.toList)) (k + 1) h
  rw [layB_size] at ht
  apply ByteArray.ext
  apply Array.ext'
  rw [ByteArray.data_append, ByteArray.data_append, ByteArray.data_append, Array.toList_append, Array.toList_append, Array.toList_append, head_list]
  unfold sealB
  rw [ht]
  simp

theorem cut_two (s : ByteArray) (k : Nat) (h : k + 1 < s.size) (x y : UInt8) :
    s.extract 0 k ++ ⟨#[y, x]⟩ ++ (sealB s).extract (k + 2) (s.size + 2) = ⟨(s.data.toList.take k ++ y :: x :: s.data.toList.drop (k + 2)).toArray⟩ ++ layB (sumV 0 s.data.toList) := by
  have ht := tail_list s (layB (sumV 0 s.data.toList)) (k + 2) h
  rw [layB_size] at ht
  apply ByteArray.ext
  apply Array.ext'
  rw [ByteArray.data_append, ByteArray.data_append, ByteArray.data_append, Array.toList_append, Array.toList_append, Array.toList_append, head_list]
  unfold sealB
  rw [ht]
  simp

theorem nat_of_bt (s : ByteArray) (k : Nat) (h : k < s.size) : UInt8.ofNat (bt s k).toNat = s[k] ∧ ((s[k]).toNat : Int) = bt s k := by
  have h' : k < s.data.size := h
  have e : s.data.getD k 0 = s[k] := by
    unfold Array.getD
    rw [dif_pos h']
    rfl
  unfold bt
  rw [e]
  simp

theorem cut_one_size (s : ByteArray) (k : Nat) (h : k < s.size) (x : UInt8) :
    (s.extract 0 k).size = k ∧ ((sealB s).extract (k + 1) (s.size + 2)).size = s.size + 1 - k ∧ (s.extract 0 k ++ ⟨#[x]⟩ ++ (sealB s).extract (k + 1) (s.size + 2)).size = s.size + 2 := by
  have e : (⟨#[x]⟩ : ByteArray).size = 1 := rfl
  have h1 : (s.extract 0 k).size = k := by rw [ByteArray.size_extract]; omega
  have h2 : ((sealB s).extract (k + 1) (s.size + 2)).size = s.size + 1 - k := by rw [ByteArray.size_extract, sealB_size]; omega
  refine ⟨h1, h2, ?_⟩
  rw [ByteArray.size_append, ByteArray.size_append, h1, h2, e]
  omega

theorem cut_two_size (s : ByteArray) (k : Nat) (h : k + 1 < s.size) (x y : UInt8) :
    (s.extract 0 k).size = k ∧ ((sealB s).extract (k + 2) (s.size + 2)).size = s.size - k ∧ (s.extract 0 k ++ ⟨#[y, x]⟩ ++ (sealB s).extract (k + 2) (s.size + 2)).size = s.size + 2 := by
  have e : (⟨#[y, x]⟩ : ByteArray).size = 2 := rfl
  have h1 : (s.extract 0 k).size = k := by rw [ByteArray.size_extract]; omega
  have h2 : ((sealB s).extract (k + 2) (s.size + 2)).size = s.size - k := by rw [ByteArray.size_extract, sealB_size]; omega
  refine ⟨h1, h2, ?_⟩
  rw [ByteArray.size_append, ByteArray.size_append, h1, h2, e]
  omega

/-- One byte of the text is another one. -/
theorem slips_one (s : ByteArray) (k : Nat) (h : k < s.size) (c : Int) (c0 : 0 ≤ c) (c1 : c ≤ 255) (hc : c % 255 ≠ bt s k % 255) :
    openV (s.extract 0 k ++ ⟨#[UInt8.ofNat c.toNat]⟩ ++ (sealB s).extract (k + 1) (s.size + 2)) = (⟨#[]⟩, 9) := by
  rw [cut_one s k h]
  refine open_other (r := ⟨_⟩) ?_
  show sumV 0 (List.toArray _).toList ≠ _
  rw [List.toList_toArray]
  have hl := list_at s k h
  have hb := (nat_of_bt s k h).2
  intro e
  have e2 : sumV 0 s.data.toList = sumV 0 (s.data.toList.take k ++ s[k] :: s.data.toList.drop (k + 1)) := by rw [← hl]
  rw [e2] at e
  refine slip_one 0 _ _ _ _ ?_ e
  rw [byte_nat c0 c1, hb]
  exact hc

/-- Two bytes of the text side by side changed places. -/
theorem slips_two (s : ByteArray) (k : Nat) (h : k + 1 < s.size) (hc : bt s k % 255 ≠ bt s (k + 1) % 255) :
    openV (s.extract 0 k ++ ⟨#[UInt8.ofNat (bt s (k + 1)).toNat, UInt8.ofNat (bt s k).toNat]⟩ ++ (sealB s).extract (k + 2) (s.size + 2)) = (⟨#[]⟩, 9) := by
  rw [cut_two s k h]
  refine open_other (r := ⟨_⟩) ?_
  show sumV 0 (List.toArray _).toList ≠ _
  rw [List.toList_toArray]
  have hl := list_two s k h
  have hb := nat_of_bt s k (by omega)
  have hb1 := nat_of_bt s (k + 1) h
  intro e
  have e2 : sumV 0 s.data.toList = sumV 0 (s.data.toList.take k ++ s[k] :: s[k + 1] :: s.data.toList.drop (k + 2)) := by rw [← hl]
  rw [e2, hb.1, hb1.1] at e
  refine slip_two 0 _ _ _ _ ?_ e
  rw [hb.2, hb1.2]
  exact fun e => hc e.symm

end Go.Proofs.Ytgmcikajhnnaaaa
