/- Timelines as bytes in plain words: days, the bytes of a day, the parts of a timeline day by day. Conditions: none beyond each lemma's own premises. -/
import Derived.Test.YtgmcikajhnnaaaaViewMath
import Derived.Test.YtgmcikajhnnaaaaRecMath2
import Derived.Test.YtgmcikajhnnaaaaSumMath
namespace Go.Proofs.Ytgmcikajhnnaaaa

/-- A change as a number. -/
def num (r : Rc) : Int := 2048 * r.1 + r.2.1 % 1440
def nums (l : List Rc) : List Int := l.map num
def two (n : Int) : List UInt8 := (layB n).data.toList
def twos (ns : List Int) : List UInt8 := ns.flatMap two
/-- The bytes of a day. -/
def dayT (R : List Rc) : List UInt8 := two (R.length : Nat) ++ twos (nums R)

def val (x y : UInt8) : Int := 256 * (x.toNat : Int) + (y.toNat : Int)

theorem val_bd (x y : UInt8) : 0 ≤ val x y ∧ val x y ≤ 65535 := by
  have h1 := x.toNat_lt
  have h2 := y.toNat_lt
  unfold val
  omega

theorem two_val (x y : UInt8) : two (val x y) = [x, y] := by
  have h1 := x.toNat_lt
  have h2 := y.toNat_lt
  have e1 : (val x y / 256).toNat = x.toNat := by unfold val; omega
  have e2 : (val x y % 256).toNat = y.toNat := by unfold val; omega
  show [UInt8.ofNat (val x y / 256).toNat, UInt8.ofNat (val x y % 256).toNat] = _
  rw [e1, e2]
  simp

theorem two_is {n : Int} (h0 : 0 ≤ n) (h1 : n ≤ 65535) : ∃ x y, two n = [x, y] ∧ val x y = n := by
  refine ⟨_, _, rfl, ?_⟩
  unfold val
  rw [byte_nat (by omega) (by omega), byte_nat (by omega) (by omega)]
  omega

theorem two_len (n : Int) : (two n).length = 2 := rfl
theorem twos_cons (n : Int) (ns : List Int) : twos (n :: ns) = two n ++ twos ns := rfl
theorem twos_append (a b : List Int) : twos (a ++ b) = twos a ++ twos b := by simp [twos]
theorem twos_len (ns : List Int) : (twos ns).length = 2 * ns.length := by
  induction ns with
  | nil => rfl
  | cons n ns ih => rw [twos_cons, List.length_append, ih, two_len, List.length_cons]; omega
theorem nums_append (a b : List Rc) : nums (a ++ b) = nums a ++ nums b := by simp [nums]
theorem nums_len (l : List Rc) : (nums l).length = l.length := by simp [nums]
theorem dayT_len (R : List Rc) : (dayT R).length = 2 + 2 * R.length := by
  unfold dayT
  rw [List.length_append, two_len, twos_len, nums_len]

/-! ### Days -/

/-- Where the day ends that has the minute. -/
def dEnd (a : Int) : Int := a - a % 1440 + 1440

def days : Nat → Int → Int → List (Int × Int)
  | 0, _, _ => []
  | n + 1, a, b => if a < b then (a, lo2 (dEnd a) b) :: days n (lo2 (dEnd a) b) b else []

def daysV (a b : Int) : List (Int × Int) := days (b - a).toNat a b

theorem day_step {a b : Int} (h : a < b) : a < lo2 (dEnd a) b ∧ lo2 (dEnd a) b ≤ b ∧ lo2 (dEnd a) b ≤ dEnd a := by
  have h1 := lo2_is (dEnd a) b
  unfold dEnd at *
  omega

theorem days_one {n : Nat} {a b : Int} (h : a < b) (hn : b - a ≤ (n : Int)) : ∃ k, n = k + 1 ∧ b - lo2 (dEnd a) b ≤ (k : Int) ∧ days n a b = (a, lo2 (dEnd a) b) :: days k (lo2 (dEnd a) b) b := by
  obtain ⟨k, rfl⟩ : ∃ k, n = k + 1 := ⟨n - 1, by omega⟩
  have := day_step h
  exact ⟨k, rfl, by omega, by rw [days, if_pos h]⟩

theorem days_end {n : Nat} {a b : Int} (h : b ≤ a) : days n a b = [] := by
  cases n with
  | zero => rfl
  | succ n => rw [days, if_neg (by omega)]

theorem days_len : ∀ (n : Nat) (a b : Int), (days n a b).length ≤ n
  | 0, _, _ => Nat.le_refl _
  | n + 1, a, b => by
    rw [days]
    split
    · have := days_len n (lo2 (dEnd a) b) b
      simp; omega
    · simp

/-- Spans one behind the other, each within a day. -/
def Chn : Int → Int → List (Int × Int) → Prop
  | a, b, [] => a = b
  | a, b, s :: l => s.1 = a ∧ a < s.2 ∧ s.2 ≤ dEnd a ∧ s.2 ≤ b ∧ Chn s.2 b l

theorem chn_days : ∀ (n : Nat) {a b : Int}, a ≤ b → b - a ≤ (n : Int) → Chn a b (days n a b)
  | 0, a, b, h1, h2 => by
    show a = b
    omega
  | n + 1, a, b, h1, h2 => by
    by_cases h : a < b
    · have hs := day_step h
      rw [days, if_pos h]
      exact ⟨rfl, hs.1, hs.2.2, hs.2.1, chn_days n hs.2.1 (by omega)⟩
    · rw [days, if_neg h]
      show a = b
      omega

theorem chn_daysV {a b : Int} (h : a ≤ b) : Chn a b (daysV a b) := chn_days _ h (by omega)

/-! ### The kinds of a span's minutes -/

def slc (at_ : Int) (ks : List Int) (a b : Int) : List Int := (ks.drop (a - at_).toNat).take (b - a).toNat

theorem cutS_slc {a b : Int} : ∀ (ks : List Int) (f : Int) (out : List Int) (e : Int), (cutS a b (f, out, e) ks).2.1 = out ++ (ks.drop (a - e).toNat).take (b - up2 e a).toNat
  | [], f, out, e => by simp [cutS]
  | k :: ks, f, out, e => by
    have hs : cutS a b (f, out, e) (k :: ks) = cutS a b (cutStep a b (f, out, e) k) ks := rfl
    have hu := up2_is e a
    have hv := up2_is (e + 1) a
    rw [hs]
    unfold cutStep
    dsimp only
    by_cases h : a ≤ e ∧ e < b
    · rw [if_pos h, cutS_slc ks]
      rw [show (a - (e + 1)).toNat = 0 by omega, show (a - e).toNat = 0 by omega, show (b - up2 e a).toNat = (b - up2 (e + 1) a).toNat + 1 by omega]
      simp
    · rw [if_neg h, cutS_slc ks]
      by_cases h2 : e < a
      · rw [show (a - e).toNat = (a - (e + 1)).toNat + 1 by omega, show up2 e a = up2 (e + 1) a by omega]
        simp
      · rw [show (b - up2 e a).toNat = 0 by omega, show (b - up2 (e + 1) a).toNat = 0 by omega]
        simp

theorem within_kinds {a b : Int} {l : List Rc} {e : Int} (h : Tl e l) (ha : beg l ≤ a) : kindsV (withinV a b l) = slc (beg l) (kindsV l) a b := by
  rw [← (cut_is h).2, cutS_slc]
  have := up2_is (beg l) a
  rw [show up2 (beg l) a = a by omega]
  rfl

theorem within_beg {a b : Int} {l : List Rc} : ∀ {e : Int}, Tl e l → l ≠ [] → up2 e a < lo2 (fin l) b → withinV a b l ≠ [] ∧ beg (withinV a b l) = up2 e a := by
  induction l with
  | nil => intro e _ h; exact absurd rfl h
  | cons r l ih =>
    intro e ht _ hab
    obtain ⟨⟨h1, h2⟩, h3, h4⟩ := ht
    subst h3
    rw [within_cons]
    have hu := up2_is r.2.1 a
    have hv := lo2_is r.2.2 b
    by_cases hc : up2 r.2.1 a < lo2 r.2.2 b
    · rw [if_pos hc]
      exact ⟨by simp, rfl⟩
    · rw [if_neg hc]
      cases l with
      | nil =>
        exact absurd hab hc
      | cons s l =>
        have hw := lo2_is (fin (r :: s :: l)) b
        have hu2 := up2_is r.2.2 a
        have hf : fin (r :: s :: l) = fin (s :: l) := rfl
        rw [hf] at hab hw
        have := ih h4 (by simp) (by omega)
        rw [show up2 r.2.1 a = up2 r.2.2 a by omega]
        exact this

/-- The normal timeline of a span's minutes, minute by minute. -/
def partR (at_ : Int) (ks : List Int) (s : Int × Int) : List Rc := ofR s.1 (slc at_ ks s.1 s.2)
def cutR (l : List Rc) (s : Int × Int) : List Rc := normV (withinV s.1 s.2 l)

theorem cut_part {a b : Int} {l : List Rc} {e : Int} (h : Tl e l) (hne : l ≠ []) (ha : beg l ≤ a) (hab : a < b) (hb : b ≤ fin l) : cutR l (a, b) = partR (beg l) (kindsV l) (a, b) := by
  have hu := up2_is (beg l) a
  have hv := lo2_is (fin l) b
  have hw := within_beg (a := a) (b := b) h.from_ hne (by omega)
  unfold cutR partR
  rw [← within_kinds h ha, ← norm_of (within_tl hab h), hw.2, show up2 (beg l) a = a by omega]

theorem slc_more {at_ a e : Int} {ks : List Int} {k : Int} (ha : at_ ≤ a) (he : a ≤ e) (hk : ks[(e - at_).toNat]? = some k) : partR at_ ks (a, e + 1) = put (partR at_ ks (a, e)) k e (e + 1) := by
  unfold partR slc
  have h2 : (ks.drop (a - at_).toNat)[(e - a).toNat]? = some k := by
    rw [List.getElem?_drop, show (a - at_).toNat + (e - a).toNat = (e - at_).toNat by omega]
    exact hk
  have h3 := of_more (at_ := a) h2
  rw [show a + (((e - a).toNat : Nat) : Int) = e by omega] at h3
  dsimp only
  rw [show (e + 1 - a).toNat = (e - a).toNat + 1 by omega]
  exact h3

theorem put_last (out : List Rc) (k f t : Int) : ∃ o b, put out k f t = o ++ [(k, b, t)] := by
  rcases List.eq_nil_or_concat out with rfl | ⟨o, ⟨a, b, c⟩, rfl⟩
  · exact ⟨[], f, rfl⟩
  · by_cases h : a = k
    · subst h; simp only [List.concat_eq_append]; exact ⟨o, b, put_same o b c a f t⟩
    · simp only [List.concat_eq_append]; exact ⟨_, f, put_other o h⟩

/-! ### The bytes of a timeline -/

def daysT (ds : List (Int × Int)) (f : Int × Int → List Rc) : List UInt8 := ds.flatMap fun s => dayT (f s)
def bodyV (a b : Int) (f : Int × Int → List Rc) : List UInt8 := [72, 68] ++ two a ++ two b ++ daysT (daysV a b) f
def bodyL (l : List Rc) : List UInt8 := bodyV (beg l) (fin l) (cutR l)

theorem daysT_cons (s : Int × Int) (ds : List (Int × Int)) (f : Int × Int → List Rc) : daysT (s :: ds) f = dayT (f s) ++ daysT ds f := rfl
theorem daysT_append (a b : List (Int × Int)) (f : Int × Int → List Rc) : daysT (a ++ b) f = daysT a f ++ daysT b f := by simp [daysT]

theorem chn_congr {f g : Int × Int → List Rc} : ∀ {ds : List (Int × Int)} {a b lo hi : Int}, Chn a b ds → lo ≤ a → b ≤ hi → (∀ x y, lo ≤ x → x < y → y ≤ hi → f (x, y) = g (x, y)) → daysT ds f = daysT ds g
  | [], _, _, _, _, _, _, _, _ => rfl
  | (x, y) :: ds, a, b, lo, hi, h, hl, hh, hf => by
    obtain ⟨h1, h2, _, h4, h5⟩ := h
    dsimp only at h1 h2 h4 h5
    subst h1
    rw [daysT_cons, daysT_cons, hf x y hl h2 (by omega), chn_congr h5 (by omega : lo ≤ y) hh hf]

/-- What Encode tells. -/
def encV (l : List Rc) : ByteArray × Int := if (checkV l).2 = 0 then (if l = [] then (⟨#[]⟩, 13) else (sealB ⟨(bodyL l).toArray⟩, 0)) else (⟨#[]⟩, (checkV l).2)

theorem enc_bad {l : List Rc} (h : (checkV l).2 ≠ 0) : encV l = (⟨#[]⟩, (checkV l).2) := if_neg h
theorem enc_none : encV [] = (⟨#[]⟩, 13) := rfl
theorem enc_ok {l : List Rc} (h : (checkV l).2 = 0) (hne : l ≠ []) : encV l = (sealB ⟨(bodyL l).toArray⟩, 0) := by
  unfold encV
  rw [if_pos h, if_neg hne]

end Go.Proofs.Ytgmcikajhnnaaaa
