/- The sum of a text as two numbers that each byte turns, what slips do to it, and numbers as two bytes. Conditions: none beyond each lemma's own premises. -/
import Derived.RowKit
import Derived.IntWalk
namespace Go.Proofs.Ytgmcikajhnnaaaa
open Go.RowKit

/-- The two numbers of a sum, one byte further on. -/
def sstep (p : Int × Int) (c : UInt8) : Int × Int := ((p.1 + (c.toNat : Int)) % 255, (p.2 + (p.1 + (c.toNat : Int)) % 255) % 255)

/-- The two numbers behind some bytes. -/
def srun (p : Int × Int) (l : List UInt8) : Int × Int := l.foldl sstep p

theorem srun_nil (p : Int × Int) : srun p [] = p := rfl
theorem srun_cons (p : Int × Int) (c : UInt8) (l : List UInt8) : srun p (c :: l) = srun (sstep p c) l := rfl
theorem srun_append (p : Int × Int) (l m : List UInt8) : srun p (l ++ m) = srun (srun p l) m := List.foldl_append
theorem srun_snoc (p : Int × Int) (l : List UInt8) (c : UInt8) : srun p (l ++ [c]) = sstep (srun p l) c := by
  rw [srun_append]; rfl

/-- Both numbers lie from 0 on, below 255. -/
def Small (p : Int × Int) : Prop := 0 ≤ p.1 ∧ p.1 < 255 ∧ 0 ≤ p.2 ∧ p.2 < 255

theorem sstep_small (p : Int × Int) (c : UInt8) : Small (sstep p c) := by
  unfold Small sstep
  dsimp only
  omega

theorem srun_small {p : Int × Int} (h : Small p) (l : List UInt8) : Small (srun p l) := by
  induction l generalizing p with
  | nil => exact h
  | cons c l ih => exact ih (sstep_small p c)

/-- The two numbers that a number stands for. -/
def sst (n : Int) : Int × Int := (n % 65536 % 256 % 255, n % 65536 / 256 % 255)

theorem sst_small (n : Int) : Small (sst n) := by
  unfold Small sst
  dsimp only
  omega

/-- The number that two numbers stand for. -/
def sval (p : Int × Int) : Int := 256 * p.2 + p.1

theorem sst_sval {p : Int × Int} (h : Small p) : sst (sval p) = p := by
  obtain ⟨a, b⟩ := p
  unfold Small at h
  unfold sst sval
  dsimp only at h ⊢
  rw [Prod.mk.injEq]
  omega

/-- The sum of a text behind another one whose sum is n. -/
def sumV (n : Int) (l : List UInt8) : Int := sval (srun (sst n) l)

theorem sumV_bd (n : Int) (l : List UInt8) : 0 ≤ sumV n l ∧ sumV n l ≤ 65535 := by
  have h := srun_small (sst_small n) l
  unfold Small at h
  unfold sumV sval
  omega

theorem sumV_more (n : Int) (l m : List UInt8) : sumV (sumV n l) m = sumV n (l ++ m) := by
  unfold sumV
  rw [sst_sval (srun_small (sst_small n) l), srun_append]

theorem sval_inj {p q : Int × Int} (hp : Small p) (hq : Small q) (h : sval p = sval q) : p.1 = q.1 ∧ p.2 = q.2 := by
  unfold Small at hp hq
  unfold sval at h
  omega

theorem run_ne1 {p q : Int × Int} (hp : Small p) (hq : Small q) (h : p.1 ≠ q.1) (l : List UInt8) : (srun p l).1 ≠ (srun q l).1 := by
  induction l generalizing p q with
  | nil => exact h
  | cons c l ih =>
    refine ih (sstep_small p c) (sstep_small q c) ?_
    unfold Small at hp hq
    unfold sstep
    dsimp only
    omega

theorem run_ne2 {p q : Int × Int} (hp : Small p) (hq : Small q) (h1 : p.1 = q.1) (h : p.2 ≠ q.2) (l : List UInt8) : (srun p l).2 ≠ (srun q l).2 := by
  induction l generalizing p q with
  | nil => exact h
  | cons c l ih =>
    refine ih (sstep_small p c) (sstep_small q c) ?_ ?_
    · unfold sstep
      dsimp only
      rw [h1]
    · unfold Small at hp hq
      unfold sstep
      dsimp only
      rw [h1]
      omega

/-- One byte that is another one, but for 0 and 255, gives another sum. -/
theorem slip_one (n : Int) (u v : List UInt8) (x y : UInt8) (h : (x.toNat : Int) % 255 ≠ (y.toNat : Int) % 255) : sumV n (u ++ x :: v) ≠ sumV n (u ++ y :: v) := by
  intro e
  unfold sumV at e
  rw [srun_append, srun_append, srun_cons, srun_cons] at e
  have hp := srun_small (sst_small n) u
  generalize srun (sst n) u = p at e hp
  refine run_ne1 (sstep_small p x) (sstep_small p y) ?_ v (sval_inj (srun_small (sstep_small p x) v) (srun_small (sstep_small p y) v) e).1
  unfold Small at hp
  unfold sstep
  dsimp only
  omega

/-- Two bytes side by side that changed places, but for 0 and 255, give another sum. -/
theorem slip_two (n : Int) (u v : List UInt8) (x y : UInt8) (h : (x.toNat : Int) % 255 ≠ (y.toNat : Int) % 255) : sumV n (u ++ x :: y :: v) ≠ sumV n (u ++ y :: x :: v) := by
  intro e
  unfold sumV at e
  rw [srun_append, srun_append, srun_cons, srun_cons, srun_cons, srun_cons] at e
  have hp := srun_small (sst_small n) u
  generalize srun (sst n) u = p at e hp
  refine run_ne2 (sstep_small _ y) (sstep_small _ x) ?_ ?_ v (sval_inj (srun_small (sstep_small _ y) v) (srun_small (sstep_small _ x) v) e).2
  · unfold sstep
    dsimp only
    omega
  · unfold Small at hp
    unfold sstep
    dsimp only
    omega

/-- The two bytes of a number, the higher one first. -/
def layB (n : Int) : ByteArray := ⟨#[UInt8.ofNat (n / 256).toNat, UInt8.ofNat (n % 256).toNat]⟩

theorem layB_size (n : Int) : (layB n).size = 2 := rfl

theorem byte_nat {n : Int} (h0 : 0 ≤ n) (h1 : n ≤ 255) : ((UInt8.ofNat n.toNat).toNat : Int) = n := by
  have h : n.toNat < 256 := by omega
  rw [UInt8.toNat_ofNat_of_lt' h]
  omega

theorem layB_val {n : Int} (h0 : 0 ≤ n) (h1 : n ≤ 65535) : 256 * (((layB n).data.getD 0 0).toNat : Int) + (((layB n).data.getD 1 0).toNat : Int) = n := by
  show 256 * ((UInt8.ofNat (n / 256).toNat).toNat : Int) + ((UInt8.ofNat (n % 256).toNat).toNat : Int) = n
  rw [byte_nat (by omega) (by omega), byte_nat (by omega) (by omega)]
  omega

theorem layB_inj {n m : Int} (hn0 : 0 ≤ n) (hn1 : n ≤ 65535) (hm0 : 0 ≤ m) (hm1 : m ≤ 65535) (h : layB n = layB m) : n = m := by
  rw [← layB_val hn0 hn1, ← layB_val hm0 hm1, h]

/-- A text that is sealed. -/
def sealB (s : ByteArray) : ByteArray := s ++ layB (sumV 0 s.data.toList)

theorem sealB_size (s : ByteArray) : (sealB s).size = s.size + 2 := by
  unfold sealB
  rw [ByteArray.size_append, layB_size]

/-- What opens a text: the text ahead of its last two bytes, or none, and the error number. -/
def openV (t : ByteArray) : ByteArray × Int :=
  if t.size < 2 then (⟨#[]⟩, 8)
  else if layB (sumV 0 (t.extract 0 (t.size - 2)).data.toList) = t.extract (t.size - 2) t.size then (t.extract 0 (t.size - 2), 0) else (⟨#[]⟩, 9)

theorem open_short {t : ByteArray} (h : t.size < 2) : openV t = (⟨#[]⟩, 8) := by
  unfold openV
  rw [if_pos h]

theorem open_yes {t : ByteArray} (h : ¬ t.size < 2) (h2 : layB (sumV 0 (t.extract 0 (t.size - 2)).data.toList) = t.extract (t.size - 2) t.size) : openV t = (t.extract 0 (t.size - 2), 0) := by
  unfold openV
  rw [if_neg h, if_pos h2]

theorem open_no {t : ByteArray} (h : ¬ t.size < 2) (h2 : layB (sumV 0 (t.extract 0 (t.size - 2)).data.toList) ≠ t.extract (t.size - 2) t.size) : openV t = (⟨#[]⟩, 9) := by
  unfold openV
  rw [if_neg h, if_neg h2]

/-- A text and two bytes behind it, taken apart. -/
theorem tail_parts (s b : ByteArray) (h : b.size = 2) : (s ++ b).size - 2 = s.size ∧ (s ++ b).extract 0 s.size = s ∧ (s ++ b).extract s.size (s ++ b).size = b := by
  have hs : (s ++ b).size = s.size + 2 := by rw [ByteArray.size_append, h]
  refine ⟨by omega, ?_, ?_⟩
  · apply ByteArray.ext
    rw [ByteArray.data_extract, ByteArray.data_append]
    apply Array.ext'
    rw [Array.toList_extract]
    simp
  · rw [hs]
    apply ByteArray.ext
    rw [ByteArray.data_extract, ByteArray.data_append]
    have e : s.size = s.data.size := rfl
    have e2 : s.data.size + 2 = s.data.size + b.data.size := by rw [show b.data.size = 2 from h]
    rw [e, e2]
    have x1 : s.data.extract s.size (s.size + b.size) = #[] := Array.extract_eq_empty_of_le (by rw [e]; omega)
    have x2 : b.data.extract 0 b.size = b.data := Array.extract_size
    simp [x1, x2]

theorem open_parts (s b : ByteArray) (h : b.size = 2) : openV (s ++ b) = if layB (sumV 0 s.data.toList) = b then (s, 0) else (⟨#[]⟩, 9) := by
  obtain ⟨e1, e2, e3⟩ := tail_parts s b h
  have hs : (s ++ b).size = s.size + 2 := by rw [ByteArray.size_append, h]
  unfold openV
  rw [if_neg (by omega), e1, e2, e3]

theorem open_seal (s : ByteArray) : openV (sealB s) = (s, 0) := by
  unfold sealB
  rw [open_parts _ _ (layB_size _), if_pos rfl]

/-- Two bytes behind a text of another sum do not open it. -/
theorem open_other {s r : ByteArray} (h : sumV 0 r.data.toList ≠ sumV 0 s.data.toList) : openV (r ++ layB (sumV 0 s.data.toList)) = (⟨#[]⟩, 9) := by
  rw [open_parts _ _ (layB_size _), if_neg]
  intro e
  have b1 := sumV_bd 0 r.data.toList
  have b2 := sumV_bd 0 s.data.toList
  exact h (layB_inj b1.1 b1.2 b2.1 b2.2 e)

end Go.Proofs.Ytgmcikajhnnaaaa
