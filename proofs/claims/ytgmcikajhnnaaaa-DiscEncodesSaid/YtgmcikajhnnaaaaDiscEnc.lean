/- The bytes of a timeline minute by minute: how the document's own Encode stands behind each minute. Conditions: none beyond each lemma's own premises. -/
import Derived.Test.YtgmcikajhnnaaaaDiscMath
namespace Go.Proofs.Ytgmcikajhnnaaaa

theorem ba_of {a : ByteArray} {l : List UInt8} (h : a.data.toList = l) : a = ⟨l.toArray⟩ := by
  subst h
  apply ByteArray.ext
  simp

theorem ba_app (a b : ByteArray) : (a ++ b).data.toList = a.data.toList ++ b.data.toList := by
  rw [ByteArray.data_append, Array.toList_append]

/-- How it stands behind i minutes: the text, the day's text, how many changes the day has. -/
structure EncS (p : Int) (ks : List Int) (i : Nat) (S D : ByteArray) (n : Nat) : Prop where
  size : S.size + D.size ≤ 6 + 4 * i
  le : n ≤ i
  st : (i = 0 ∧ S.data.toList = [72, 68] ++ two p ++ two (p + (ks.length : Int)) ∧ D.data.toList = [] ∧ n = 0) ∨
    (0 < i ∧ ∃ (done : List (Int × Int)) (k : Nat) (a : Int), S.data.toList = [72, 68] ++ two p ++ two (p + (ks.length : Int)) ++ daysT done (partR p ks) ∧
      done ++ days k a (p + (ks.length : Int)) = daysV p (p + (ks.length : Int)) ∧ p + (ks.length : Int) - a ≤ (k : Int) ∧ p ≤ a ∧ a < p + (i : Int) ∧ p + (i : Int) ≤ dEnd a ∧
      D.data.toList = twos (nums (partR p ks (a, p + (i : Int)))) ∧ n = (partR p ks (a, p + (i : Int))).length)

theorem size_of (b : ByteArray) : b.size = b.data.toList.length := by rw [Array.length_toList]; rfl

theorem part_nil (p : Int) (ks : List Int) (a : Int) : partR p ks (a, a) = [] := by
  unfold partR slc
  rw [show (a - a).toNat = 0 by omega]
  rfl

theorem lay_list (n : Int) : (layB n).data.toList = two n := rfl

theorem encS_zero {p : Int} {ks : List Int} {S : ByteArray} (h : S.data.toList = [72, 68] ++ two p ++ two (p + (ks.length : Int))) : EncS p ks 0 S ⟨#[]⟩ 0 :=
  ⟨by rw [size_of, h]; simp [two_len]; exact Nat.le_refl _, Nat.le_refl _, .inl ⟨rfl, h, rfl, rfl⟩⟩

theorem encS_first {p : Int} {ks : List Int} {S D : ByteArray} {n : Nat} {x : Int} (h : EncS p ks 0 S D n) (hx : ks[0]? = some x) : EncS p ks 1 S (D ++ layB (2048 * x + (p + ((0 : Nat) : Int)) % 1440)) (n + 1) := by
  obtain ⟨h1, h2, h3⟩ := h
  rcases h3 with ⟨_, hS, hD, hn⟩ | ⟨h0, _⟩
  · have hm := slc_more (at_ := p) (a := p) (e := p) (ks := ks) (k := x) (Int.le_refl _) (Int.le_refl _) (by rw [show (p - p).toNat = 0 by omega]; exact hx)
    rw [part_nil, put_nil] at hm
    refine ⟨by rw [ByteArray.size_append, layB_size]; omega, by omega, .inr ⟨by omega, [], _, p, by rw [hS]; simp [daysT], rfl, by omega, by omega, by omega, by unfold dEnd; omega, ?_, ?_⟩⟩
    · rw [ba_app, hD, lay_list]
      rw [show p + ((1 : Nat) : Int) = p + 1 by omega, hm, show p + ((0 : Nat) : Int) = p by omega]
      simp [nums, num, twos]
    · rw [show p + ((1 : Nat) : Int) = p + 1 by omega, hm, hn]
      rfl
  · omega

theorem enc_last {p : Int} {ks : List Int} {a : Int} {i : Nat} {y : Int} (hp : p ≤ a) (ha : a < p + ((i + 1 : Nat) : Int)) (hy : ks[i]? = some y) : ∃ o b, partR p ks (a, p + ((i + 1 : Nat) : Int)) = o ++ [(y, b, p + ((i + 1 : Nat) : Int))] := by
  have hm := slc_more (at_ := p) (a := a) (e := p + (i : Int)) (ks := ks) (k := y) hp (by omega) (by rw [show (p + (i : Int) - p).toNat = i by omega]; exact hy)
  rw [show p + (i : Int) + 1 = p + ((i + 1 : Nat) : Int) by omega] at hm
  rw [hm]
  exact put_last _ _ _ _

theorem encS_same {p : Int} {ks : List Int} {S D : ByteArray} {n i : Nat} {x : Int} (h : EncS p ks (i + 1) S D n) (hm : (p + ((i + 1 : Nat) : Int)) % 1440 ≠ 0) (hx : ks[i + 1]? = some x) (hy : ks[i]? = some x) : EncS p ks (i + 2) S D n := by
  obtain ⟨h1, h2, h3⟩ := h
  rcases h3 with ⟨h0, _⟩ | ⟨_, done, k, a, hS, hd, hk, hp, ha, he, hD, hn⟩
  · cases h0
  · obtain ⟨o, b, e⟩ := enc_last hp ha hy
    have hp2 := slc_more (at_ := p) (a := a) (e := p + ((i + 1 : Nat) : Int)) (ks := ks) (k := x) hp (by omega) (by rw [show (p + ((i + 1 : Nat) : Int) - p).toNat = i + 1 by omega]; exact hx)
    rw [e, put_same, show p + ((i + 1 : Nat) : Int) + 1 = p + ((i + 2 : Nat) : Int) by omega] at hp2
    refine ⟨by omega, by omega, .inr ⟨by omega, done, k, a, hS, hd, hk, hp, by omega, by unfold dEnd at *; omega, ?_, ?_⟩⟩
    · rw [hD, e, hp2, nums_append, nums_append]
      rfl
    · rw [hn, e, hp2]
      simp

theorem encS_other {p : Int} {ks : List Int} {S D : ByteArray} {n i : Nat} {x y : Int} (h : EncS p ks (i + 1) S D n) (hm : (p + ((i + 1 : Nat) : Int)) % 1440 ≠ 0) (hx : ks[i + 1]? = some x) (hy : ks[i]? = some y) (hxy : y ≠ x) :
    EncS p ks (i + 2) S (D ++ layB (2048 * x + (p + ((i + 1 : Nat) : Int)) % 1440)) (n + 1) := by
  obtain ⟨h1, h2, h3⟩ := h
  rcases h3 with ⟨h0, _⟩ | ⟨_, done, k, a, hS, hd, hk, hp, ha, he, hD, hn⟩
  · cases h0
  · obtain ⟨o, b, e⟩ := enc_last hp ha hy
    have hp2 := slc_more (at_ := p) (a := a) (e := p + ((i + 1 : Nat) : Int)) (ks := ks) (k := x) hp (by omega) (by rw [show (p + ((i + 1 : Nat) : Int) - p).toNat = i + 1 by omega]; exact hx)
    rw [e, put_other o hxy, ← e, show p + ((i + 1 : Nat) : Int) + 1 = p + ((i + 2 : Nat) : Int) by omega] at hp2
    refine ⟨by rw [ByteArray.size_append, layB_size]; omega, by omega, .inr ⟨by omega, done, k, a, hS, hd, hk, hp, by omega, by unfold dEnd at *; omega, ?_, ?_⟩⟩
    · rw [ba_app, hD, hp2, nums_append, twos_append, lay_list]
      simp [nums, num, twos]
    · rw [hn, hp2]
      simp

theorem encS_flush {p : Int} {ks : List Int} {S D : ByteArray} {n i : Nat} {x : Int} (h : EncS p ks (i + 1) S D n) (hm : (p + ((i + 1 : Nat) : Int)) % 1440 = 0) (hx : ks[i + 1]? = some x) :
    EncS p ks (i + 2) (S ++ layB n ++ D) (layB (2048 * x + (p + ((i + 1 : Nat) : Int)) % 1440)) 1 := by
  obtain ⟨h1, h2, h3⟩ := h
  have hlen : i + 1 < ks.length := (List.getElem?_eq_some_iff.1 hx).1
  rcases h3 with ⟨h0, _⟩ | ⟨_, done, k, a, hS, hd, hk, hp, ha, he, hD, hn⟩
  · cases h0
  · have hend : dEnd a = p + ((i + 1 : Nat) : Int) := by unfold dEnd at *; omega
    have hm2 := slc_more (at_ := p) (a := p + ((i + 1 : Nat) : Int)) (e := p + ((i + 1 : Nat) : Int)) (ks := ks) (k := x) (by omega) (Int.le_refl _) (by rw [show (p + ((i + 1 : Nat) : Int) - p).toNat = i + 1 by omega]; exact hx)
    rw [part_nil, put_nil, show p + ((i + 1 : Nat) : Int) + 1 = p + ((i + 2 : Nat) : Int) by omega] at hm2
    obtain ⟨k', hk1, hk2, hk3⟩ := days_one (n := k) (a := a) (b := p + (ks.length : Int)) (by omega) hk
    have hl := lo2_is (dEnd a) (p + (ks.length : Int))
    rw [hend] at hl
    rw [hend, show lo2 (p + ((i + 1 : Nat) : Int)) (p + (ks.length : Int)) = p + ((i + 1 : Nat) : Int) by omega] at hk3 hk2
    refine ⟨by rw [ByteArray.size_append, ByteArray.size_append, layB_size, layB_size]; omega, by omega, .inr ⟨by omega, done ++ [(a, p + ((i + 1 : Nat) : Int))], k', p + ((i + 1 : Nat) : Int), ?_, ?_, hk2, by omega, by omega, by unfold dEnd; omega, ?_, ?_⟩⟩
    · rw [ba_app, ba_app, hS, hD, lay_list, daysT_append, daysT_cons, hn]
      simp [daysT, dayT]
    · rw [← hd, hk3]; simp
    · rw [hm2, lay_list]; simp [nums, num, twos]
    · rw [hm2]; rfl

theorem encS_end {p : Int} {ks : List Int} {S D : ByteArray} {n : Nat} (h : EncS p ks ks.length S D n) (h0 : 0 < ks.length) : S ++ layB n ++ D = ⟨(bodyV p (p + (ks.length : Int)) (partR p ks)).toArray⟩ := by
  obtain ⟨h1, h2, h3⟩ := h
  rcases h3 with ⟨h0', _⟩ | ⟨_, done, k, a, hS, hd, hk, hp, ha, he, hD, hn⟩
  · omega
  · obtain ⟨k', hk1, hk2, hk3⟩ := days_one (n := k) (a := a) (b := p + (ks.length : Int)) ha hk
    have hl := lo2_is (dEnd a) (p + (ks.length : Int))
    rw [show lo2 (dEnd a) (p + (ks.length : Int)) = p + (ks.length : Int) by omega, days_end (n := k') (Int.le_refl _)] at hk3
    apply ba_of
    rw [ba_app, ba_app, hS, hD, lay_list]
    unfold bodyV
    rw [← hd, hk3, daysT_append, daysT_cons, hn]
    simp [daysT, dayT]

end Go.Proofs.Ytgmcikajhnnaaaa
