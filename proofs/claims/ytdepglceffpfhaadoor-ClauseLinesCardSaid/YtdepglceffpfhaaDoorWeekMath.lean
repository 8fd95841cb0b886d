/- The document's names of minutes as bytes: what a minute is called, and which minute a text could be the name of. Conditions: none beyond each lemma's own premises. -/
import Derived.RowKit
import Derived.IntWalk
namespace Go.Proofs.YtdepglceffpfhaaDoor
open Go.RowKit

/-- A digit's byte. -/
def dg (n : Int) : UInt8 := UInt8.ofNat (48 + n).toNat

theorem dg_nat {n : Int} (h0 : 0 ≤ n) (h1 : n ≤ 9) : ((dg n).toNat : Int) = 48 + n := by
  unfold dg
  have h : (48 + n).toNat < 256 := by omega
  rw [UInt8.toNat_ofNat_of_lt' h]
  omega

/-- The bytes of a day's name. -/
def dayC : Nat → UInt8 × UInt8 × UInt8
  | 0 => (77, 111, 110)
  | 1 => (84, 117, 101)
  | 2 => (87, 101, 100)
  | 3 => (84, 104, 117)
  | 4 => (70, 114, 105)
  | 5 => (83, 97, 116)
  | _ => (83, 117, 110)

def dayB (k : Nat) : ByteArray := ⟨#[(dayC k).1, (dayC k).2.1, (dayC k).2.2]⟩

/-- Which day has the name: 7 where none has it. -/
def dayIx (t : ByteArray) : Nat :=
  if t = dayB 0 then 0 else if t = dayB 1 then 1 else if t = dayB 2 then 2 else if t = dayB 3 then 3 else if t = dayB 4 then 4 else if t = dayB 5 then 5 else if t = dayB 6 then 6 else 7

theorem dayIx_le (t : ByteArray) : dayIx t ≤ 7 := by
  unfold dayIx
  repeat' split
  all_goals omega

theorem dayIx_at {k : Nat} {t : ByteArray} (hk : k < 7) (h : dayB k = t) (hn : ∀ j, j < k → dayB j ≠ t) : dayIx t = k := by
  unfold dayIx
  match k, hk, h, hn with
  | 0, _, h, _ => rw [if_pos h.symm]
  | 1, _, h, hn => rw [if_neg (fun e => hn 0 (by omega) e.symm), if_pos h.symm]
  | 2, _, h, hn => rw [if_neg (fun e => hn 0 (by omega) e.symm), if_neg (fun e => hn 1 (by omega) e.symm), if_pos h.symm]
  | 3, _, h, hn => rw [if_neg (fun e => hn 0 (by omega) e.symm), if_neg (fun e => hn 1 (by omega) e.symm), if_neg (fun e => hn 2 (by omega) e.symm), if_pos h.symm]
  | 4, _, h, hn => rw [if_neg (fun e => hn 0 (by omega) e.symm), if_neg (fun e => hn 1 (by omega) e.symm), if_neg (fun e => hn 2 (by omega) e.symm), if_neg (fun e => hn 3 (by omega) e.symm), if_pos h.symm]
  | 5, _, h, hn => rw [if_neg (fun e => hn 0 (by omega) e.symm), if_neg (fun e => hn 1 (by omega) e.symm), if_neg (fun e => hn 2 (by omega) e.symm), if_neg (fun e => hn 3 (by omega) e.symm), if_neg (fun e => hn 4 (by omega) e.symm), if_pos h.symm]
  | 6, _, h, hn => rw [if_neg (fun e => hn 0 (by omega) e.symm), if_neg (fun e => hn 1 (by omega) e.symm), if_neg (fun e => hn 2 (by omega) e.symm), if_neg (fun e => hn 3 (by omega) e.symm), if_neg (fun e => hn 4 (by omega) e.symm), if_neg (fun e => hn 5 (by omega) e.symm), if_pos h.symm]

theorem dayIx_none {t : ByteArray} (hn : ∀ j, j < 7 → dayB j ≠ t) : dayIx t = 7 := by
  unfold dayIx
  rw [if_neg (fun e => hn 0 (by omega) e.symm), if_neg (fun e => hn 1 (by omega) e.symm), if_neg (fun e => hn 2 (by omega) e.symm), if_neg (fun e => hn 3 (by omega) e.symm), if_neg (fun e => hn 4 (by omega) e.symm), if_neg (fun e => hn 5 (by omega) e.symm), if_neg (fun e => hn 6 (by omega) e.symm)]

theorem dayIx_day {k : Nat} (hk : k < 7) : dayIx (dayB k) = k := by
  match k, hk with
  | 0, _ => decide
  | 1, _ => decide
  | 2, _ => decide
  | 3, _ => decide
  | 4, _ => decide
  | 5, _ => decide
  | 6, _ => decide

/-- The name of a minute from 0 to 40320. -/
def nameB (m : Int) : ByteArray :=
  ⟨#[dg (m / 10080 + 1), 32, (dayC (m / 1440 % 7).toNat).1, (dayC (m / 1440 % 7).toNat).2.1, (dayC (m / 1440 % 7).toNat).2.2, 32, dg (m / 60 % 24 / 10), dg (m / 60 % 24 % 10), 58, dg (m % 60 / 10), dg (m % 60 % 10)]⟩

theorem nameB_size (m : Int) : (nameB m).size = 11 := rfl

/-- A byte of a text as a number. -/
def bt (s : ByteArray) (i : Nat) : Int := ((s.data.getD i 0).toNat : Int)

theorem bt_bd (s : ByteArray) (i : Nat) : 0 ≤ bt s i ∧ bt s i ≤ 255 := by
  unfold bt
  have := (s.data.getD i 0).toNat_lt
  omega

/-- The minute that a text of eleven bytes could be the name of. -/
def cand (s : ByteArray) : Int :=
  (bt s 0 - 48 - 1) * 10080 + (dayIx (s.extract 2 5) : Int) * 1440 + (10 * (bt s 6 - 48) + (bt s 7 - 48)) * 60 + (10 * (bt s 9 - 48) + (bt s 10 - 48))

/-- The minute of a day that has the text's hour and minute. -/
def candD (s : ByteArray) (d : Int) : Int :=
  1440 * d + 60 * (10 * bt s 6 + bt s 7 - 528) + 10 * bt s 9 + bt s 10 - 528

theorem name_bytes (m : Int) (h0 : 0 ≤ m) (h1 : m ≤ 40320) :
    bt (nameB m) 0 = 48 + (m / 10080 + 1) ∧ bt (nameB m) 6 = 48 + m / 60 % 24 / 10 ∧ bt (nameB m) 7 = 48 + m / 60 % 24 % 10 ∧ bt (nameB m) 9 = 48 + m % 60 / 10 ∧ bt (nameB m) 10 = 48 + m % 60 % 10 := by
  refine ⟨?_, ?_, ?_, ?_, ?_⟩
  · exact dg_nat (by omega) (by omega)
  · exact dg_nat (by omega) (by omega)
  · exact dg_nat (by omega) (by omega)
  · exact dg_nat (by omega) (by omega)
  · exact dg_nat (by omega) (by omega)

theorem name_day (m : Int) : (nameB m).extract 2 5 = dayB (m / 1440 % 7).toNat := by
  apply ByteArray.ext
  rw [ByteArray.data_extract]
  rfl

theorem cand_name (m : Int) (h0 : 0 ≤ m) (h1 : m ≤ 40320) : cand (nameB m) = m := by
  obtain ⟨e0, e6, e7, e9, e10⟩ := name_bytes m h0 h1
  unfold cand
  rw [e0, e6, e7, e9, e10, name_day, dayIx_day (by omega)]
  omega

theorem candD_name (m : Int) (h0 : 0 ≤ m) (h1 : m ≤ 40320) : candD (nameB m) (m / 1440) = m := by
  obtain ⟨_, e6, e7, e9, e10⟩ := name_bytes m h0 h1
  unfold candD
  rw [e6, e7, e9, e10]
  omega

/-- What Parse tells of a text: the minute whose name it is, or the error 7. -/
def parseV (s : ByteArray) : Int × Int := if 0 ≤ cand s ∧ cand s ≤ 40320 ∧ nameB (cand s) = s then (cand s, 0) else (0, 7)

theorem parse_yes {s : ByteArray} {m : Int} (h0 : 0 ≤ m) (h1 : m ≤ 40320) (h : nameB m = s) : parseV s = (m, 0) := by
  subst h
  unfold parseV
  rw [cand_name m h0 h1, if_pos ⟨h0, h1, rfl⟩]

theorem parse_no {s : ByteArray} (h : ∀ m : Int, 0 ≤ m → m ≤ 40320 → nameB m ≠ s) : parseV s = (0, 7) := by
  unfold parseV
  rw [if_neg (fun ⟨a, b, c⟩ => h _ a b c)]

theorem parse_size {s : ByteArray} (h : s.size ≠ 11) : parseV s = (0, 7) :=
  parse_no fun m _ _ e => h (by rw [← e]; rfl)

theorem parse_out {s : ByteArray} (h : ¬ (0 ≤ cand s ∧ cand s ≤ 40320)) : parseV s = (0, 7) := by
  unfold parseV
  rw [if_neg (fun ⟨a, b, _⟩ => h ⟨a, b⟩)]

theorem parse_other {s : ByteArray} (h : nameB (cand s) ≠ s) : parseV s = (0, 7) := by
  unfold parseV
  rw [if_neg (fun ⟨_, _, c⟩ => h c)]

theorem parse_in {s : ByteArray} (h0 : 0 ≤ cand s) (h1 : cand s ≤ 40320) (h : nameB (cand s) = s) : parseV s = (cand s, 0) := parse_yes h0 h1 h

/-- Of all days none gives the text. -/
theorem parse_days {s : ByteArray} (h : ∀ d : Nat, d < 29 → ¬ (0 ≤ candD s d ∧ candD s d ≤ 40320 ∧ nameB (candD s d) = s)) : parseV s = (0, 7) := by
  refine parse_no fun m h0 h1 e => ?_
  have hd : ((m / 1440).toNat : Int) = m / 1440 := by omega
  refine h (m / 1440).toNat (by omega) ?_
  rw [hd, ← e, candD_name m h0 h1]
  exact ⟨h0, h1, rfl⟩

/-- What Name tells: the name, or the empty text, and the error number. -/
def nmS (m : Int) : ByteArray := if 0 ≤ m ∧ m ≤ 40320 then nameB m else ⟨#[]⟩
def nmE (m : Int) : Int := if 0 ≤ m ∧ m ≤ 40320 then 0 else 4

theorem nm_in {m : Int} (h0 : 0 ≤ m) (h1 : m ≤ 40320) : nmS m = nameB m ∧ nmE m = 0 := by
  unfold nmS nmE
  rw [if_pos ⟨h0, h1⟩, if_pos ⟨h0, h1⟩]
  exact ⟨rfl, rfl⟩

theorem nm_out {m : Int} (h : ¬ (0 ≤ m ∧ m ≤ 40320)) : nmS m = ⟨#[]⟩ ∧ nmE m = 4 := by
  unfold nmS nmE
  rw [if_neg h, if_neg h]
  exact ⟨rfl, rfl⟩

theorem name_alive : nameB 1505 = ⟨#[49, 32, 84, 117, 101, 32, 48, 49, 58, 48, 53]⟩ := by decide

end Go.Proofs.YtdepglceffpfhaaDoor
