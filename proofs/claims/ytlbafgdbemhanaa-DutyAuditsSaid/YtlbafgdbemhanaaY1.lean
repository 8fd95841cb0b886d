/- Several texts in one: DutyLook, DutyLook2, DutyDoc, IvalsMath, IvalsMath2, IvalsMath3, IvalsWords, IvalsOwn, OwnMore, DutyRefL, DutyBds, DutyRefR, DutyRefG, DutyRests, DutyQLoad. Conditions: none beyond each lemma's own premises. -/
import Derived.Test.YtlbafgdbemhanaaRows
import Derived.Test.YtlbafgdbemhanaaBase
import Derived.Test.YtlbafgdbemhanaaZ3
import Derived.Below
import Derived.Deep.Draws
import Derived.Lib.Hide
import Derived.Deep.QuietTactic
import Derived.Laws.OwnMore
import Derived.Test.YtlbafgdbemhanaaZ2
import Derived.OwnWalk
import Derived.Laws.AppendOwn
import Derived.KernelRfl
import Derived.Test.YtlbafgdbemhanaaBookLim
import Derived.Test.YtlbafgdbemhanaaZ1
import Derived.Test.YtlbafgdbemhanaaZ4
import Derived.WalkKit
import Derived.WalkSpells
import Derived.WalkSmall
import Derived.Outline
import Derived.BigQuiet
import Derived.BigRegion

/- Looking back from a minute, in plain words: the rests that ended, counts of minutes, and what they come to, one rest behind the other. Conditions: none beyond each lemma's own premises. -/
namespace Go.Proofs.Ytlbafgdbemhanaa
open Go.RowKit

theorem snoc_ind16 {α : Type} {P : List α → Prop} (h0 : P []) (h1 : ∀ l a, P l → P (l ++ [a])) (l : List α) : P l := by
  rw [← List.reverse_reverse l]
  induction l.reverse with
  | nil => exact h0
  | cons a l ih => rw [List.reverse_cons]; exact h1 _ _ ih

def kAt (ks : List Int) (i : Nat) : Int := ks.getD i 0
/-- The rests that ended, with the one that runs. -/
def fullR (E : List (Int × Int)) (r i : Nat) : List (Int × Int) := if 0 < r then E ++ [((i : Int) - r, (i : Int))] else E
/-- Behind i minutes: the rests that ended ahead of an awake minute, and how long one runs. -/
def eR (ks : List Int) : Nat → List (Int × Int) × Nat
  | 0 => ([], 0)
  | i + 1 => if kAt ks i = 0 then ((eR ks i).1, (eR ks i).2 + 1) else (fullR (eR ks i).1 (eR ks i).2 i, 0)
theorem eR_rest {ks : List Int} {i : Nat} (h : kAt ks i = 0) : eR ks (i + 1) = ((eR ks i).1, (eR ks i).2 + 1) := if_pos h
theorem eR_awake {ks : List Int} {i : Nat} (h : ¬ kAt ks i = 0) : eR ks (i + 1) = (fullR (eR ks i).1 (eR ks i).2 i, 0) := if_neg h

/-- Rests one behind the other, all ahead of a minute. -/
structure Lk (E : List (Int × Int)) (hi : Int) : Prop where
  each : ∀ q ∈ E, 0 ≤ q.1 ∧ q.1 < q.2 ∧ q.2 < hi
  ord : E.Pairwise fun a b => a.2 < b.1
theorem Lk.nil (hi : Int) : Lk [] hi := ⟨by simp, List.Pairwise.nil⟩
theorem Lk.more {E : List (Int × Int)} {hi hi' : Int} (h : Lk E hi) (hh : hi ≤ hi') : Lk E hi' := ⟨fun q hq => by have := h.each q hq; omega, h.ord⟩
theorem Lk.snoc {E : List (Int × Int)} {f t : Int} (h : Lk E f) (h0 : 0 ≤ f) (h1 : f < t) : Lk (E ++ [(f, t)]) (t + 1) where
  each q hq := by
    rcases List.mem_append.1 hq with hq | hq
    · have := h.each q hq; omega
    · obtain rfl := List.mem_singleton.1 hq
      dsimp only; omega
  ord := List.pairwise_append.2 ⟨h.ord, List.pairwise_singleton _ _, fun a ha b hb => by
    obtain rfl := List.mem_singleton.1 hb
    exact (h.each a ha).2.2⟩
theorem eR_le (ks : List Int) : ∀ i, (eR ks i).2 ≤ i
  | 0 => Nat.le_refl _
  | i + 1 => by
    have := eR_le ks i
    by_cases h : kAt ks i = 0
    · rw [eR_rest h]; dsimp only; omega
    · rw [eR_awake h]; exact Nat.zero_le _
theorem eR_ok (ks : List Int) : ∀ i, Lk (eR ks i).1 ((i : Int) - ((eR ks i).2 : Nat))
  | 0 => Lk.nil _
  | i + 1 => by
    have ih := eR_ok ks i
    have hl := eR_le ks i
    by_cases h : kAt ks i = 0
    · rw [eR_rest h]
      exact ih.more (by dsimp only; omega)
    · rw [eR_awake h]
      dsimp only
      unfold fullR
      split
      · rename_i hr
        exact (ih.snoc (t := (i : Int)) (by omega) (by omega)).more (by omega)
      · exact ih.more (by omega)
/-- The rests up to an awake minute. -/
theorem full_ok (ks : List Int) (i : Nat) : Lk (fullR (eR ks i).1 (eR ks i).2 i) ((i : Int) + 1) := by
  have ih := eR_ok ks i
  have hl := eR_le ks i
  unfold fullR
  split
  · exact ih.snoc (t := (i : Int)) (by omega) (by omega)
  · exact ih.more (by omega)

/-! ### Counts -/
/-- How many minutes of one of two kinds there are from lo on, ahead of hi. -/
def cntK (ks : List Int) (a b lo : Int) : Nat → Int
  | 0 => 0
  | h + 1 => cntK ks a b lo h + if lo ≤ (h : Int) ∧ (kAt ks h = a ∨ kAt ks h = b) then 1 else 0
theorem cnt_succ (ks : List Int) (a b lo : Int) (h : Nat) : cntK ks a b lo (h + 1) = cntK ks a b lo h + if lo ≤ (h : Int) ∧ (kAt ks h = a ∨ kAt ks h = b) then 1 else 0 := rfl
theorem cnt_none {ks : List Int} {a b lo : Int} : ∀ {h : Nat}, (h : Int) ≤ lo → cntK ks a b lo h = 0
  | 0, _ => rfl
  | h + 1, hh => by
    unfold cntK
    rw [cnt_none (by omega), if_neg (by omega)]
    rfl
theorem cnt_nn {ks : List Int} {a b lo : Int} : ∀ (h : Nat), 0 ≤ cntK ks a b lo h
  | 0 => Int.le_refl _
  | h + 1 => by
    have := cnt_nn (ks := ks) (a := a) (b := b) (lo := lo) h
    unfold cntK
    split <;> omega
theorem cnt_split {ks : List Int} {a b lo mid : Int} (hm : lo ≤ mid) : ∀ {h : Nat}, mid ≤ (h : Int) → 0 ≤ mid → cntK ks a b lo h = cntK ks a b lo mid.toNat + cntK ks a b mid h
  | 0, h1, h0 => by
    have : mid = 0 := by omega
    subst this
    rfl
  | h + 1, h1, h0 => by
    by_cases he : mid = (h : Int) + 1
    · rw [cnt_none (lo := mid) (by omega), he, show ((h : Int) + 1).toNat = h + 1 by omega]
      omega
    · rw [cnt_succ, cnt_succ]
      rw [cnt_split hm (h := h) (by omega) h0]
      by_cases hk : kAt ks h = a ∨ kAt ks h = b
      · rw [if_pos ⟨by omega, hk⟩, if_pos ⟨by omega, hk⟩]; omega
      · rw [if_neg (fun q => hk q.2), if_neg (fun q => hk q.2)]; omega
theorem cnt_next {ks : List Int} {a b lo : Int} {h : Nat} (hl : lo ≤ (h : Int)) : cntK ks a b lo (h + 1) = cntK ks a b lo h + if kAt ks h = a ∨ kAt ks h = b then 1 else 0 := by
  show _ + _ = _
  by_cases hk : kAt ks h = a ∨ kAt ks h = b
  · rw [if_pos ⟨hl, hk⟩, if_pos hk]
  · rw [if_neg (fun q => hk q.2), if_neg hk]

/-! ### What rests come to, one behind the other -/
structure Ef where
  brk : Int
  half : Bool
  dawn : Int
  split : Bool
  sab : Int
  red : Int
  brief : Bool
  lon : Int
def Ef.zero : Ef := ⟨0, false, 0, false, 0, 0, false, 0⟩
/-- What a rest is worth behind others. -/
def Ef.worth (x : Nat → Int) (s : Ef) (q : Int × Int) : Wo := ofV x q.1 q.2 s.dawn s.half s.split
def Ef.fin (x : Nat → Int) (ks : List Int) (s : Ef) (q : Int × Int) : Ef :=
  let w := s.worth x q
  { brk := if w.brk then q.2 else s.brk
    half := if w.daily then false else w.half
    dawn := if w.daily then q.2 else s.dawn
    split := if w.daily then false else s.split || w.part
    sab := if w.weekly then q.2 else s.sab
    red := if w.weekly then 0 else s.red + if w.red then 1 else 0
    brief := if w.weekly then w.brief else s.brief
    lon := if w.weekly then 0 else if w.daily then s.lon + (if x 4 < cntK ks 3 3 s.dawn q.2.toNat then 1 else 0) else s.lon }
def EF (x : Nat → Int) (ks : List Int) (E : List (Int × Int)) : Ef := E.foldl (Ef.fin x ks) Ef.zero
theorem EF_snoc (x : Nat → Int) (ks : List Int) (E : List (Int × Int)) (q : Int × Int) : EF x ks (E ++ [q]) = (EF x ks E).fin x ks q := by unfold EF; rw [List.foldl_append]; rfl

theorem worth_red (x : Nat → Int) (s : Ef) (q : Int × Int) : (s.worth x q).red = true → (s.worth x q).weekly = false ∧ (s.worth x q).daily = true := by
  unfold Ef.worth ofV ofW
  dsimp only
  intro h
  simp only [Bool.and_eq_true, Bool.not_eq_true'] at h
  exact ⟨h.1.1.2, h.1.1.1⟩
theorem worth_daily {x : Nat → Int} (hx : May x) (s : Ef) (q : Int × Int) : ((s.worth x q).daily = true → (s.worth x q).brk = true) ∧ ((s.worth x q).weekly = true → (s.worth x q).daily = true) := by
  have := may_ord hx
  unfold Ef.worth ofV ofW
  dsimp only
  simp only [lastB, Bool.or_eq_true, decide_eq_true_eq]
  constructor
  · intro h; left; omega
  · intro h; omega

/-- Dawn, the sabbath and the last break's end are ends of rests, or 0. -/
theorem EF_le {x : Nat → Int} (ks : List Int) : ∀ (E : List (Int × Int)) (hi : Int), 0 < hi → Lk E hi → (0 ≤ (EF x ks E).dawn ∧ (EF x ks E).dawn < hi) ∧ (0 ≤ (EF x ks E).sab ∧ (EF x ks E).sab < hi) ∧ (0 ≤ (EF x ks E).brk ∧ (EF x ks E).brk < hi) := by
  intro E
  refine snoc_ind16 (P := fun E => ∀ (hi : Int), 0 < hi → Lk E hi → (0 ≤ (EF x ks E).dawn ∧ (EF x ks E).dawn < hi) ∧ (0 ≤ (EF x ks E).sab ∧ (EF x ks E).sab < hi) ∧ (0 ≤ (EF x ks E).brk ∧ (EF x ks E).brk < hi)) ?_ ?_ E
  · intro hi h0 _; exact ⟨⟨Int.le_refl _, h0⟩, ⟨Int.le_refl _, h0⟩, ⟨Int.le_refl _, h0⟩⟩
  · intro E q ih hi h0 h
    have hq := h.each q (by simp)
    have hE : Lk E hi := ⟨fun p hp => h.each p (by simp [hp]), (List.pairwise_append.1 h.ord).1⟩
    have := ih hi h0 hE
    rw [EF_snoc]
    unfold Ef.fin
    dsimp only
    refine ⟨?_, ?_, ?_⟩
    · split
      · omega
      · exact this.1
    · split
      · omega
      · exact this.2.1
    · split
      · omega
      · exact this.2.2

/-! ### The sweep, looked back on -/
def wsV (L : Int) (i : Int) : Int := i - i % L
/-- How the sweep stands behind i minutes. -/
structure Rl (x : Nat → Int) (ks : List Int) (i : Nat) (a : Au) : Prop where
  now : a.m.now = (i : Int)
  lie : a.m.lie = ((eR ks i).2 : Nat)
  p : a.p = (EF x ks (eR ks i).1).brk
  half : a.m.half = (EF x ks (eR ks i).1).half
  dawn : a.m.dawn = (EF x ks (eR ks i).1).dawn
  split : a.m.split = (EF x ks (eR ks i).1).split
  sab : a.m.sabbath = (EF x ks (eR ks i).1).sab
  red : a.m.reduces = (EF x ks (eR ks i).1).red
  brief : a.m.brief = (EF x ks (eR ks i).1).brief
  acc : a.m.acc = cntK ks 3 3 (EF x ks (eR ks i).1).brk i
  day : a.m.day = cntK ks 3 3 (EF x ks (eR ks i).1).dawn i
  lon : a.m.longers = (EF x ks (eR ks i).1).lon + if x 4 < a.m.day then 1 else 0
  week : a.m.week = if i = 0 then 0 else cntK ks 3 3 (wsV (x 18) ((i : Int) - 1)) i
  last : a.m.last = if i = 0 then 0 else cntK ks 3 3 (wsV (x 18) ((i : Int) - 1) - x 18) (wsV (x 18) ((i : Int) - 1)).toNat
  labour : a.m.labour = if i = 0 then 0 else cntK ks 3 2 (wsV (x 18) ((i : Int) - 1)) i

theorem Rl.zero {x : Nat → Int} (ks : List Int) (h4 : 0 ≤ x 4) : Rl x ks 0 Au.zero := by
  constructor <;> first | rfl | skip
  show (0 : Int) = 0 + if x 4 < 0 then 1 else 0
  rw [if_neg (by omega)]
  rfl

/-- What the meter is behind the end of a rest, and a week's cut, at minute i. -/
structure Ul (x : Nat → Int) (ks : List Int) (i : Nat) (u : Mt) (s : Ef) : Prop where
  now : u.now = (i : Int)
  lie : u.lie = 0
  half : u.half = s.half
  dawn : u.dawn = s.dawn
  split : u.split = s.split
  sab : u.sabbath = s.sab
  red : u.reduces = s.red
  brief : u.brief = s.brief
  acc : u.acc = cntK ks 3 3 s.brk i
  day : u.day = cntK ks 3 3 s.dawn i
  lon : u.longers = s.lon + if x 4 < u.day then 1 else 0
  week : u.week = cntK ks 3 3 (wsV (x 18) i) i
  last : u.last = cntK ks 3 3 (wsV (x 18) i - x 18) (wsV (x 18) i).toNat
  labour : u.labour = cntK ks 3 2 (wsV (x 18) i) i

theorem ws_facts {L : Int} (hL : 1 ≤ L) {i : Int} (hi : 0 < i) : (i % L = 0 → wsV L i = i ∧ wsV L (i - 1) = i - L) ∧ (¬ i % L = 0 → wsV L i = wsV L (i - 1)) ∧ 0 ≤ wsV L (i - 1) ∧ wsV L (i - 1) ≤ i - 1 := by
  have h := emod_next (p := i) hL
  have h0 := Int.emod_nonneg (i - 1) (show L ≠ 0 by omega)
  have h2 := Int.mul_ediv_add_emod (i - 1) L
  have h3 : 0 ≤ (i - 1) / L := Int.ediv_nonneg (by omega) (by omega)
  have h4 : 0 ≤ L * ((i - 1) / L) := Int.mul_nonneg (by omega) h3
  unfold wsV
  refine ⟨fun hh => ?_, fun hh => ?_, by omega, by omega⟩
  · omega
  · omega

/-- The week's cut. -/
theorem wrap_rel {x : Nat → Int} {ks : List Int} {i : Nat} {a : Au} (hL : 1 ≤ x 18) (h : Rl x ks i a) :
    (wrapM x a.m).week = cntK ks 3 3 (wsV (x 18) i) i ∧ (wrapM x a.m).last = cntK ks 3 3 (wsV (x 18) i - x 18) (wsV (x 18) i).toNat ∧ (wrapM x a.m).labour = cntK ks 3 2 (wsV (x 18) i) i ∧
      (wrapM x a.m) = { a.m with week := (wrapM x a.m).week, last := (wrapM x a.m).last, labour := (wrapM x a.m).labour } := by
  have hw := h.week; have hl := h.last; have hb := h.labour; have hn := h.now
  have hlast : (wrapM x a.m) = { a.m with week := (wrapM x a.m).week, last := (wrapM x a.m).last, labour := (wrapM x a.m).labour } := by unfold wrapM; split <;> rfl
  suffices hs : (wrapM x a.m).week = cntK ks 3 3 (wsV (x 18) i) i ∧ (wrapM x a.m).last = cntK ks 3 3 (wsV (x 18) i - x 18) (wsV (x 18) i).toNat ∧ (wrapM x a.m).labour = cntK ks 3 2 (wsV (x 18) i) i from ⟨hs.1, hs.2.1, hs.2.2, hlast⟩
  clear hlast
  by_cases h0 : i = 0
  · subst h0
    rw [if_pos rfl] at hw hl hb
    have e : wrapM x a.m = a.m := by unfold wrapM; rw [if_neg (by omega)]
    have ez : wsV (x 18) ((0 : Nat) : Int) = 0 := by unfold wsV; simp
    rw [e, ez, hw, hl, hb]
    exact ⟨rfl, rfl, rfl⟩
  · rw [if_neg h0] at hw hl hb
    obtain ⟨f1, f2, f3, f4⟩ := ws_facts hL (i := (i : Int)) (by omega)
    by_cases hc : (i : Int) % x 18 = 0
    · obtain ⟨g1, g2⟩ := f1 hc
      have e : wrapM x a.m = { a.m with last := a.m.week, week := 0, labour := 0 } := by unfold wrapM; rw [if_pos ⟨by omega, by rw [hn]; exact hc⟩]
      rw [e, g1]
      dsimp only
      rw [cnt_none (Int.le_refl _), cnt_none (Int.le_refl _), hw, g2]
      exact ⟨rfl, by rw [Int.toNat_natCast], rfl⟩
    · have g := f2 hc
      have e : wrapM x a.m = a.m := by unfold wrapM; rw [if_neg (fun q => hc (by rw [hn] at q; exact q.2))]
      rw [e, g, hw, hl, hb]
      exact ⟨rfl, rfl, rfl⟩

end Go.Proofs.Ytlbafgdbemhanaa

/- The sweep looked back on, minute by minute. Conditions: none beyond each lemma's own premises. -/
namespace Go.Proofs.Ytlbafgdbemhanaa
open Go.RowKit

/-- What stands behind the rests up to minute i. -/
def sUp (x : Nat → Int) (ks : List Int) (i : Nat) : Ef := EF x ks (fullR (eR ks i).1 (eR ks i).2 i)

theorem up_rel {x : Nat → Int} {ks : List Int} {i : Nat} {a : Au} {k : Int} (hx : May x) (hL : 1 ≤ x 18) (h : Rl x ks i a) (hok : a.Ok i) (hk : ¬ k = 0) :
    Ul x ks i (upR x (wrapM x a.m)) (sUp x ks i) ∧ pauseV x a.m a.p k = (sUp x ks i).brk ∧
      (0 < (eR ks i).2 → endW x (wrapM x a.m) = (EF x ks (eR ks i).1).worth x ((i : Int) - ((eR ks i).2 : Nat), (i : Int))) := by
  obtain ⟨w1, w2, w3, w4⟩ := wrap_rel hL h
  have hd := hok.lie
  have hl := h.lie
  have hn := h.now
  have h4 := (may_time hx 4 (by omega)).1
  have hEW : endW x (wrapM x a.m) = endW x a.m := by rw [w4]; rfl
  have q1 := h.half; have q2 := h.dawn; have q3 := h.split; have q4 := h.sab; have q5 := h.red; have q6 := h.brief; have q7 := h.acc; have q8 := h.day; have q9 := h.lon; have q10 := h.p
  clear h
  unfold sUp fullR
  generalize hE : (eR ks i).1 = E at *
  generalize hr : (eR ks i).2 = r at *
  have hS : (0 < r → endW x a.m = (EF x ks E).worth x ((i : Int) - (r : Nat), (i : Int))) := fun hr0 => by
    unfold endW Ef.worth
    rw [hn, hl, q1, q3]
    have e : min a.m.dawn ((i : Int) - (r : Nat)) = (EF x ks E).dawn := by
      rw [← q2]
      exact Int.min_eq_left (by omega)
    rw [e]
  rw [hEW]
  by_cases hr0 : 0 < r
  · rw [if_pos hr0, EF_snoc]
    have hw := hS hr0
    have wd := worth_daily hx (EF x ks E) ((i : Int) - (r : Nat), (i : Int))
    have wr := worth_red x (EF x ks E) ((i : Int) - (r : Nat), (i : Int))
    have hlt : 0 < (wrapM x a.m).lie := by rw [w4]; show 0 < a.m.lie; omega
    have hp : pauseV x a.m a.p k = if ((EF x ks E).worth x ((i : Int) - (r : Nat), (i : Int))).brk then (i : Int) else (EF x ks E).brk := by
      unfold pauseV
      rw [hw]
      by_cases hb : ((EF x ks E).worth x ((i : Int) - (r : Nat), (i : Int))).brk = true
      · rw [if_pos ⟨hk, by omega, hb⟩, if_pos hb, hn]
      · rw [if_neg (fun q => hb q.2.2), if_neg hb, q10]
    refine ⟨?_, ?_, fun _ => hw⟩
    · unfold upR
      rw [if_pos hlt, hEW, hw]
      unfold Ef.fin
      dsimp only
      generalize (EF x ks E).worth x ((i : Int) - (r : Nat), (i : Int)) = v at *
      obtain ⟨v1, v2, v3, v4, v5, v6, v7⟩ := v
      dsimp only at wd wr
      rw [w4]
      generalize (wrapM x a.m).week = wk at *
      generalize (wrapM x a.m).last = wl at *
      generalize (wrapM x a.m).labour = wb at *
      generalize EF x ks E = s at *
      have c1 : cntK ks 3 3 (i : Int) i = 0 := cnt_none (Int.le_refl _)
      unfold endM e3 e2 e1
      dsimp only
      cases v6 with
      | true =>
        have hv4 := wd.2 rfl
        subst hv4
        have hv1 := wd.1 rfl
        subst hv1
        cases v5 with
        | true => exact absurd (wr rfl).1 (by simp)
        | false =>
          constructor <;> simp_all
      | false =>
        cases v4 with
        | true =>
          have hv1 := wd.1 rfl
          subst hv1
          cases v5 with
          | true =>
            constructor <;> simp_all
            rw [if_neg (show ¬ x 4 < 0 by omega), Int.add_zero]
          | false =>
            constructor <;> simp_all
            rw [if_neg (show ¬ x 4 < 0 by omega), Int.add_zero]
        | false =>
          cases v5 with
          | true => exact absurd (wr rfl).2 (by simp)
          | false =>
            cases v1 with
            | true => constructor <;> simp_all
            | false => constructor <;> simp_all
    · rw [hp]
      unfold Ef.fin
      dsimp only
  · rw [if_neg hr0]
    have hr1 : r = 0 := by omega
    have hu : upR x (wrapM x a.m) = wrapM x a.m := (upR_none (by rw [wrap_lie, hl]; omega)).1
    refine ⟨?_, ?_, fun q => absurd q hr0⟩
    · rw [hu]
      refine ⟨?_, ?_, ?_, ?_, ?_, ?_, ?_, ?_, ?_, ?_, ?_, w1, w2, w3⟩
      · rw [w4]; exact hn
      · rw [w4]; show a.m.lie = 0; omega
      · rw [w4]; exact q1
      · rw [w4]; exact q2
      · rw [w4]; exact q3
      · rw [w4]; exact q4
      · rw [w4]; exact q5
      · rw [w4]; exact q6
      · rw [w4]; exact q7
      · rw [w4]; exact q8
      · rw [w4]; exact q9
    · unfold pauseV
      rw [if_neg (fun q => by have := q.2.1; omega), q10]

theorem step_rel {x : Nat → Int} {ks : List Int} {i : Nat} {a : Au} (hx : May x) (hL : 1 ≤ x 18) (h : Rl x ks i a) (hok : a.Ok i) : Rl x ks (i + 1) (a.step x (kAt ks i)) := by
  have hi1 : ((i + 1 : Nat) : Int) - 1 = (i : Int) := by omega
  by_cases hk : kAt ks i = 0
  · obtain ⟨w1, w2, w3, w4⟩ := wrap_rel hL h
    have he := eR_rest hk
    rw [hk]
    have hst : (a.step x 0).m = { a.m with week := (wrapM x a.m).week, last := (wrapM x a.m).last, labour := (wrapM x a.m).labour, lie := a.m.lie + 1, now := a.m.now + 1 } := by
      show stepM x a.m 0 = _
      unfold stepM
      rw [if_pos rfl]
      dsimp only
      rw [w4]
    have hpp : (a.step x 0).p = a.p := by
      show pauseV x a.m a.p 0 = _
      unfold pauseV
      rw [if_neg (fun q => q.1 rfl)]
    have hne : ∀ c lo, cntK ks 3 c lo (i + 1) = cntK ks 3 c lo i + if lo ≤ (i : Int) ∧ c = 0 then 1 else 0 := fun c lo => by
      rw [cnt_succ, hk]
      congr 1
      by_cases hc : c = 0
      · subst hc; simp
      · have : ¬ ((0 : Int) = 3 ∨ (0 : Int) = c) := by omega
        rw [if_neg (fun q => this q.2), if_neg (fun q => hc q.2)]
    have n3 : ∀ lo, cntK ks 3 3 lo (i + 1) = cntK ks 3 3 lo i := fun lo => by rw [hne, if_neg (by omega), Int.add_zero]
    have n2 : ∀ lo, cntK ks 3 2 lo (i + 1) = cntK ks 3 2 lo i := fun lo => by rw [hne, if_neg (by omega), Int.add_zero]
    constructor
    · rw [hst]; show a.m.now + 1 = _; rw [h.now]; omega
    · rw [hst, he]; show a.m.lie + 1 = _; rw [h.lie]; dsimp only; omega
    · rw [hpp, he]; exact h.p
    · rw [hst, he]; exact h.half
    · rw [hst, he]; exact h.dawn
    · rw [hst, he]; exact h.split
    · rw [hst, he]; exact h.sab
    · rw [hst, he]; exact h.red
    · rw [hst, he]; exact h.brief
    · rw [hst, he, n3]; exact h.acc
    · rw [hst, he, n3]; exact h.day
    · rw [hst, he]; exact h.lon
    · rw [hst, if_neg (by omega), hi1, n3]; exact w1
    · rw [hst, if_neg (by omega), hi1]; exact w2
    · rw [hst, if_neg (by omega), hi1, n2]; exact w3
  · obtain ⟨u, up, -⟩ := up_rel hx hL h hok hk
    have he := eR_awake hk
    have h4 := (may_time hx 4 (by omega)).1
    have hE : EF x ks (eR ks (i + 1)).1 = sUp x ks i := by rw [he]; rfl
    have hs := full_ok ks i
    have hsl := EF_le (x := x) ks _ _ (by omega) hs
    have hsl : (0 ≤ (sUp x ks i).dawn ∧ (sUp x ks i).dawn < (i : Int) + 1) ∧ (0 ≤ (sUp x ks i).sab ∧ (sUp x ks i).sab < (i : Int) + 1) ∧ (0 ≤ (sUp x ks i).brk ∧ (sUp x ks i).brk < (i : Int) + 1) := hsl
    have hm : (a.step x (kAt ks i)).m = { upM x (wrapM x a.m) (kAt ks i) with now := (upM x (wrapM x a.m) (kAt ks i)).now + 1 } := by
      show stepM x a.m (kAt ks i) = _
      unfold stepM
      rw [if_neg hk]
    have hp : (a.step x (kAt ks i)).p = (sUp x ks i).brk := up
    have hr2 : (eR ks (i + 1)).2 = 0 := by rw [he]
    have wsl : wsV (x 18) i ≤ (i : Int) := by
      have := Int.emod_nonneg (i : Int) (show x 18 ≠ 0 by omega)
      unfold wsV; omega
    have wsn : 0 ≤ wsV (x 18) i := (mod_le (by omega) hL).1
    have m1 : ∀ lo, lo ≤ (i : Int) → cntK ks 3 3 lo (i + 1) = cntK ks 3 3 lo i + if kAt ks i = 3 then 1 else 0 := fun lo hl => by rw [cnt_next hl]; simp
    have m2 : ∀ lo, lo ≤ (i : Int) → cntK ks 3 2 lo (i + 1) = cntK ks 3 2 lo i + if kAt ks i = 3 ∨ kAt ks i = 2 then 1 else 0 := fun lo hl => cnt_next hl
    have a1 := m1 _ (show (sUp x ks i).brk ≤ (i : Int) by omega)
    have a2 := m1 _ (show (sUp x ks i).dawn ≤ (i : Int) by omega)
    have a3 := m1 _ wsl
    have a4 := m2 _ wsl
    obtain ⟨u1, u2, u3, u4, u5, u6, u7, u8, u9, u10, u11, u12, u13, u14⟩ := u
    unfold upM at hm
    generalize upR x (wrapM x a.m) = r at *
    generalize sUp x ks i = s at *
    generalize kAt ks i = k at *
    have hmm : (a.step x k).m = { r with now := (i : Int) + 1, acc := r.acc + (if k = 3 then 1 else 0), day := r.day + (if k = 3 then 1 else 0), longers := r.longers + (if k = 3 ∧ r.day + 1 = x 4 + 1 then 1 else 0), week := r.week + (if k = 3 then 1 else 0), labour := r.labour + (if k = 3 ∨ k = 2 then 1 else 0) } := by
      rw [hm]
      unfold driveM d2 d1 workM
      by_cases h3 : k = 3
      · subst h3
        simp only [if_true, true_or, true_and]
        by_cases hd : r.day + 1 = x 4 + 1
        · simp only [hd, if_true]; rw [u1]
        · simp only [hd, if_false, Int.add_zero]; rw [u1]
      · by_cases h2 : k = 2
        · subst h2
          simp only [if_false, or_true, if_true, false_and, Int.add_zero, show ¬ ((2 : Int) = 3) by decide]; rw [u1]
        · simp only [h3, h2, if_false, or_self, false_and, Int.add_zero]; rw [u1]
    constructor
    · rw [hmm]; show (i : Int) + 1 = _; omega
    · rw [hmm, hr2]; exact u2
    · rw [hp, hE]
    · rw [hmm, hE]; exact u3
    · rw [hmm, hE]; exact u4
    · rw [hmm, hE]; exact u5
    · rw [hmm, hE]; exact u6
    · rw [hmm, hE]; exact u7
    · rw [hmm, hE]; exact u8
    · rw [hmm, hE, a1]; show r.acc + _ = _; rw [u9]
    · rw [hmm, hE, a2]; show r.day + _ = _; rw [u10]
    · rw [hmm, hE]
      show r.longers + _ = s.lon + if x 4 < r.day + _ then 1 else 0
      rw [u11]
      by_cases h3 : k = 3
      · simp only [h3, if_true, true_and]
        split <;> split <;> split <;> omega
      · simp only [h3, if_false, false_and, Int.add_zero]
    · rw [hmm, if_neg (show ¬ (i + 1 = 0) by omega), hi1, a3]; show r.week + _ = _; rw [u12]
    · rw [hmm, if_neg (show ¬ (i + 1 = 0) by omega), hi1]; exact u13
    · rw [hmm, if_neg (show ¬ (i + 1 = 0) by omega), hi1, a4]; show r.labour + _ = _; rw [u14]

/-- Behind every minute of a timeline. -/
theorem run_rel {x : Nat → Int} {ks : List Int} (hx : May x) (hL : 1 ≤ x 18) (hn : ks.length ≤ 40320) : ∀ i, i ≤ ks.length → Rl x ks i (Au.zero.run x (ks.take i)) ∧ (Au.zero.run x (ks.take i)).Ok i
  | 0, _ => ⟨Rl.zero ks (may_time hx 4 (by omega)).1, Au.ok_zero⟩
  | i + 1, h => by
    obtain ⟨h1, h2⟩ := run_rel hx hL hn i (by omega)
    have e : Au.zero.run x (ks.take (i + 1)) = (Au.zero.run x (ks.take i)).step x (kAt ks i) := by
      rw [List.take_succ_eq_append_getElem (by omega), Au.run_snoc]
      congr 1
      unfold kAt
      simp [List.getD, (by omega : i < ks.length)]
    rw [e]
    exact ⟨step_rel hx hL h1 h2, Au.ok_step _ hL h2 (by omega)⟩

end Go.Proofs.Ytlbafgdbemhanaa

/- The document's look back from a minute, and that it finds what the sweep finds. Conditions: none beyond each lemma's own premises. -/
namespace Go.Proofs.Ytlbafgdbemhanaa
open Go.RowKit

/-- The end of the last rest that is so long, up to c. -/
def docLast (L : List (Int × Int)) (long c : Int) : Int := L.foldl (fun a q => if long ≤ q.2 - q.1 ∧ q.2 ≤ c then q.2 else a) 0
def docBrk (x : Nat → Int) (L : List (Int × Int)) : Int × Bool := L.foldl (fun s q => if x 1 ≤ q.2 - q.1 ∨ (s.2 = true ∧ x 3 ≤ q.2 - q.1) then (q.2, false) else if x 2 ≤ q.2 - q.1 then (s.1, true) else s) (0, false)
def partB (x : Nat → Int) (dawn : Int) (p : Int × Int) : Bool := decide (dawn ≤ p.1) && (decide (x 10 ≤ p.2 - p.1) && decide (p.2 - p.1 < x 8))
/-- Is the rest at k a reduced one? -/
def docRed (x : Nat → Int) (L : List (Int × Int)) (k : Nat) : Bool :=
  let q := L.getD k (0, 0)
  let dawn := docLast L (x 8) q.1
  decide (x 8 ≤ q.2 - q.1) && (decide (q.2 - q.1 < x 13) && (!((L.take k).any (partB x dawn)) && decide (min q.2 (dawn + x 11) - q.1 < x 7)))
def redB (x : Nat → Int) (L : List (Int × Int)) (sab : Int) (k : Nat) : Bool := decide (sab < (L.getD k (0, 0)).2) && docRed x L k
/-- How many reduced rests ended behind the sabbath, of the first j. -/
def docRedN (x : Nat → Int) (L : List (Int × Int)) (sab : Int) : Nat → Int
  | 0 => 0
  | j + 1 => docRedN x L sab j + if redB x L sab j then 1 else 0
def briefB (x : Nat → Int) (ahead : Int) (p : Int × Int) : Bool := decide (0 < ahead) && (p.2 == ahead && decide (p.2 - p.1 < x 12))
/-- Days since a minute with more driving than there should be: where the last one began, and how many. -/
def docLongF (x : Nat → Int) (ks : List Int) (L : List (Int × Int)) (from_ : Int) : Int × Int :=
  L.foldl (fun s q => if q.2 ≤ from_ ∨ q.2 - q.1 < x 8 then s else (q.2, s.2 + if x 4 < cntK ks 3 3 s.1 q.2.toNat then 1 else 0)) (from_, 0)

theorem last_snoc (L : List (Int × Int)) (q : Int × Int) (long c : Int) : docLast (L ++ [q]) long c = if long ≤ q.2 - q.1 ∧ q.2 ≤ c then q.2 else docLast L long c := by unfold docLast; rw [List.foldl_append]; rfl
theorem brk_snoc (x : Nat → Int) (L : List (Int × Int)) (q : Int × Int) : docBrk x (L ++ [q]) = if x 1 ≤ q.2 - q.1 ∨ ((docBrk x L).2 = true ∧ x 3 ≤ q.2 - q.1) then (q.2, false) else if x 2 ≤ q.2 - q.1 then ((docBrk x L).1, true) else docBrk x L := by unfold docBrk; rw [List.foldl_append]; rfl
theorem long_snoc (x : Nat → Int) (ks : List Int) (L : List (Int × Int)) (q : Int × Int) (fr : Int) : docLongF x ks (L ++ [q]) fr = if q.2 ≤ fr ∨ q.2 - q.1 < x 8 then docLongF x ks L fr else (q.2, (docLongF x ks L fr).2 + if x 4 < cntK ks 3 3 (docLongF x ks L fr).1 q.2.toNat then 1 else 0) := by unfold docLongF; rw [List.foldl_append]; rfl

theorem Lk.cut {E : List (Int × Int)} {q : Int × Int} {hi : Int} (h : Lk (E ++ [q]) hi) : Lk E q.1 ∧ 0 ≤ q.1 ∧ q.1 < q.2 ∧ q.2 < hi := by
  have hq := h.each q (by simp)
  have hp := List.pairwise_append.1 h.ord
  refine ⟨⟨fun p hp' => ?_, hp.1⟩, hq⟩
  have h1 := h.each p (by simp [hp'])
  have h2 := hp.2.2 p hp' q (by simp)
  omega

theorem fin_dawn (x : Nat → Int) (ks : List Int) (s : Ef) (q : Int × Int) : (s.fin x ks q).dawn = if x 8 ≤ q.2 - q.1 then q.2 else s.dawn := by
  show (if (s.worth x q).daily = true then q.2 else s.dawn) = _
  unfold Ef.worth ofV ofW lastB
  simp only [decide_eq_true_eq]
theorem fin_sab (x : Nat → Int) (ks : List Int) (s : Ef) (q : Int × Int) : (s.fin x ks q).sab = if x 13 ≤ q.2 - q.1 then q.2 else s.sab := by
  show (if (s.worth x q).weekly = true then q.2 else s.sab) = _
  unfold Ef.worth ofV ofW lastB
  simp only [decide_eq_true_eq]

theorem last_is (x : Nat → Int) (ks : List Int) (L : List (Int × Int)) : ∀ c : Int, (∀ q ∈ L, q.2 ≤ c) → docLast L (x 8) c = (EF x ks L).dawn ∧ docLast L (x 13) c = (EF x ks L).sab := by
  refine snoc_ind16 (P := fun L => ∀ c : Int, (∀ q ∈ L, q.2 ≤ c) → docLast L (x 8) c = (EF x ks L).dawn ∧ docLast L (x 13) c = (EF x ks L).sab) ?_ ?_ L
  · intro c _; exact ⟨rfl, rfl⟩
  · intro L q ih c h
    obtain ⟨i1, i2⟩ := ih c fun p hp => h p (by simp [hp])
    have hq := h q (by simp)
    rw [last_snoc, last_snoc, EF_snoc, fin_dawn, fin_sab, i1, i2]
    simp only [hq, and_true, and_self]

theorem brk_is {x : Nat → Int} (hx : May x) (ks : List Int) (L : List (Int × Int)) : docBrk x L = ((EF x ks L).brk, (EF x ks L).half) := by
  refine snoc_ind16 (P := fun L => docBrk x L = ((EF x ks L).brk, (EF x ks L).half)) rfl ?_ L
  intro L q ih
  have := may_ord hx
  rw [brk_snoc, EF_snoc, ih]
  unfold Ef.fin Ef.worth ofV ofW
  dsimp only
  generalize EF x ks L = s
  simp only [lastB]
  cases s.half with
  | true =>
    simp only [true_and, Bool.true_and, Bool.or_eq_true, decide_eq_true_eq, Bool.true_or, Bool.and_true]
    by_cases h1 : x 1 ≤ q.2 - q.1 ∨ x 3 ≤ q.2 - q.1
    · rw [if_pos h1, if_pos h1]
      congr 1
      split
      · rfl
      · rcases h1 with h1 | h1 <;> simp [h1]
    · have n1 : ¬ x 1 ≤ q.2 - q.1 := fun h => h1 (.inl h)
      have n3 : ¬ x 3 ≤ q.2 - q.1 := fun h => h1 (.inr h)
      have n8 : ¬ x 8 ≤ q.2 - q.1 := by omega
      rw [if_neg h1, if_neg h1]
      simp only [n1, n3, n8, decide_false, if_false, Bool.or_self, Bool.not_false]
      split <;> rfl
  | false =>
    simp only [Bool.false_eq_true, false_and, or_false, Bool.false_and, Bool.or_false, decide_eq_true_eq, Bool.false_or]
    by_cases h1 : x 1 ≤ q.2 - q.1
    · rw [if_pos h1, if_pos h1]
      congr 1
      split
      · rfl
      · simp [h1]
    · have n8 : ¬ x 8 ≤ q.2 - q.1 := by omega
      rw [if_neg h1, if_neg h1]
      simp only [h1, n8, decide_false, if_false, Bool.not_false, Bool.true_and]
      split
      · rename_i h2; rw [decide_eq_true h2]
      · rename_i h2; rw [decide_eq_false h2]

theorem split_is {x : Nat → Int} (ks : List Int) (L : List (Int × Int)) : ∀ hi, Lk L hi → L.any (partB x (EF x ks L).dawn) = (EF x ks L).split := by
  refine snoc_ind16 (P := fun L => ∀ hi, Lk L hi → L.any (partB x (EF x ks L).dawn) = (EF x ks L).split) ?_ ?_ L
  · intro _ _; rfl
  · intro L q ih hi h
    obtain ⟨hL, q0, q1, q2⟩ := h.cut
    have hq := ih _ hL
    rw [List.any_append, EF_snoc, fin_dawn]
    have hsp : ((EF x ks L).fin x ks q).split = if x 8 ≤ q.2 - q.1 then false else (EF x ks L).split || decide (x 10 ≤ q.2 - q.1) := by
      show (if ((EF x ks L).worth x q).daily = true then false else (EF x ks L).split || ((EF x ks L).worth x q).part) = _
      unfold Ef.worth ofV ofW lastB
      simp only [decide_eq_true_eq]
      split
      · rfl
      · rename_i h8
        rw [decide_eq_false h8]
        rfl
    rw [hsp]
    by_cases h8 : x 8 ≤ q.2 - q.1
    · rw [if_pos h8, if_pos h8]
      have e1 : L.any (partB x q.2) = false := List.any_eq_false.2 fun p hp => by
        have := hL.each p hp
        unfold partB
        rw [decide_eq_false (show ¬ q.2 ≤ p.1 by omega)]
        simp
      rw [e1]
      unfold partB
      simp [decide_eq_false (show ¬ q.2 ≤ q.1 by omega)]
    · rw [if_neg h8, if_neg h8, hq]
      have hd : (EF x ks L).dawn ≤ q.1 := by
        by_cases hz : q.1 = 0
        · have : L = [] := by
            cases L with
            | nil => rfl
            | cons p L => have := hL.each p (by simp); omega
          subst this
          exact q0
        · have := (EF_le (x := x) ks L q.1 (by omega) hL).1.2
          omega
      congr 1
      unfold partB
      simp only [List.any_cons, List.any_nil, Bool.or_false, decide_eq_true hd, Bool.true_and]
      rw [decide_eq_true (show q.2 - q.1 < x 8 by omega), Bool.and_true]

theorem dawn_le {x : Nat → Int} {ks : List Int} {L : List (Int × Int)} {f : Int} (h : Lk L f) (h0 : 0 ≤ f) : ((EF x ks L).dawn ≤ f ∧ (EF x ks L).sab ≤ f) ∧ (0 ≤ (EF x ks L).dawn ∧ 0 ≤ (EF x ks L).sab) := by
  by_cases hz : f = 0
  · have : L = [] := by
      cases L with
      | nil => rfl
      | cons p L => have := h.each p (by simp); omega
    subst this
    exact ⟨⟨h0, h0⟩, ⟨Int.le_refl _, Int.le_refl _⟩⟩
  · have := EF_le (x := x) ks L f (by omega) h
    omega

theorem getD_last {L : List (Int × Int)} {q : Int × Int} : (L ++ [q]).getD L.length (0, 0) = q := by simp [List.getD]
theorem getD_old {L : List (Int × Int)} {q : Int × Int} {k : Nat} (h : k < L.length) : (L ++ [q]).getD k (0, 0) = L.getD k (0, 0) := by simp [List.getD, List.getElem?_append_left h]
theorem getDs_mem {L : List (Int × Int)} {k : Nat} (h : k < L.length) : L.getD k (0, 0) ∈ L := by
  have : L.getD k (0, 0) = L[k] := by simp [List.getD, h]
  rw [this]; exact List.getElem_mem h

theorem red_is {x : Nat → Int} (ks : List Int) {L : List (Int × Int)} {q : Int × Int} {hi : Int} (h : Lk (L ++ [q]) hi) : docRed x (L ++ [q]) L.length = ((EF x ks L).worth x q).red := by
  obtain ⟨hL, q0, q1, q2⟩ := h.cut
  unfold docRed
  rw [getD_last]
  dsimp only
  rw [last_snoc, if_neg (by omega), (last_is x ks L q.1 fun p hp => by have := hL.each p hp; omega).1]
  rw [List.take_left, split_is ks L _ hL]
  unfold Ef.worth ofV ofW lastB
  dsimp only
  generalize EF x ks L = s
  have e1 : decide (q.2 - q.1 < x 13) = !decide (x 13 ≤ q.2 - q.1) := by by_cases hh : x 13 ≤ q.2 - q.1 <;> simp [hh] <;> omega
  have e2 : decide (min q.2 (s.dawn + x 11) - q.1 < x 7) = !decide (x 7 ≤ min q.2 (s.dawn + x 11) - q.1) := by by_cases hh : x 7 ≤ min q.2 (s.dawn + x 11) - q.1 <;> simp [hh] <;> omega
  rw [e1, e2]
  simp only [Bool.and_assoc]

theorem red_old {x : Nat → Int} {L : List (Int × Int)} {q : Int × Int} {hi : Int} (h : Lk (L ++ [q]) hi) {k : Nat} (hk : k < L.length) : docRed x (L ++ [q]) k = docRed x L k := by
  obtain ⟨hL, q0, q1, q2⟩ := h.cut
  have hm := hL.each _ (getDs_mem hk)
  unfold docRed
  rw [getD_old hk]
  dsimp only
  rw [last_snoc, if_neg (by omega)]
  rw [List.take_append_of_le_length (by omega)]

theorem redN_none {x : Nat → Int} {L : List (Int × Int)} {sab : Int} : ∀ j, (∀ k, k < j → (L.getD k (0, 0)).2 ≤ sab) → docRedN x L sab j = 0
  | 0, _ => rfl
  | j + 1, h => by
    show docRedN x L sab j + _ = 0
    rw [redN_none j fun k hk => h k (by omega)]
    unfold redB
    rw [decide_eq_false (by have := h j (by omega); omega)]
    rfl
theorem redN_old {x : Nat → Int} {L : List (Int × Int)} {q : Int × Int} {hi sab : Int} (h : Lk (L ++ [q]) hi) : ∀ j, j ≤ L.length → docRedN x (L ++ [q]) sab j = docRedN x L sab j
  | 0, _ => rfl
  | j + 1, hj => by
    show docRedN x (L ++ [q]) sab j + _ = docRedN x L sab j + _
    rw [redN_old h j (by omega)]
    unfold redB
    rw [getD_old (by omega), red_old h (by omega)]
theorem redN_is {x : Nat → Int} (ks : List Int) (L : List (Int × Int)) : ∀ hi, Lk L hi → docRedN x L (EF x ks L).sab L.length = (EF x ks L).red := by
  refine snoc_ind16 (P := fun L => ∀ hi, Lk L hi → docRedN x L (EF x ks L).sab L.length = (EF x ks L).red) ?_ ?_ L
  · intro _ _; rfl
  · intro L q ih hi h
    obtain ⟨hL, q0, q1, q2⟩ := h.cut
    have hr := red_is (x := x) ks h
    have hsl := (dawn_le (x := x) (ks := ks) hL q0).1.2
    rw [List.length_append, List.length_singleton, EF_snoc, fin_sab]
    have hrd : ((EF x ks L).fin x ks q).red = if x 13 ≤ q.2 - q.1 then 0 else (EF x ks L).red + if ((EF x ks L).worth x q).red then 1 else 0 := by
      show (if ((EF x ks L).worth x q).weekly = true then 0 else (EF x ks L).red + if ((EF x ks L).worth x q).red then 1 else 0) = _
      have : ((EF x ks L).worth x q).weekly = decide (x 13 ≤ q.2 - q.1) := rfl
      rw [this]
      simp only [decide_eq_true_eq]
    rw [hrd]
    by_cases h13 : x 13 ≤ q.2 - q.1
    · rw [if_pos h13, if_pos h13]
      refine redN_none _ fun k hk => ?_
      by_cases hk2 : k < L.length
      · rw [getD_old hk2]
        have := hL.each _ (getDs_mem hk2)
        omega
      · obtain rfl : k = L.length := by omega
        rw [getD_last]
        exact Int.le_refl _
    · rw [if_neg h13, if_neg h13]
      show docRedN x (L ++ [q]) (EF x ks L).sab L.length + _ = _
      rw [redN_old h _ (Nat.le_refl _), ih _ hL]
      unfold redB
      rw [getD_last, hr, decide_eq_true (show (EF x ks L).sab < q.2 by omega), Bool.true_and]

theorem brief_is {x : Nat → Int} (ks : List Int) (L : List (Int × Int)) : ∀ hi, Lk L hi → L.any (briefB x (EF x ks L).sab) = (EF x ks L).brief := by
  refine snoc_ind16 (P := fun L => ∀ hi, Lk L hi → L.any (briefB x (EF x ks L).sab) = (EF x ks L).brief) ?_ ?_ L
  · intro _ _; rfl
  · intro L q ih hi h
    obtain ⟨hL, q0, q1, q2⟩ := h.cut
    have hsl := (dawn_le (x := x) (ks := ks) hL q0).1.2
    rw [List.any_append, EF_snoc, fin_sab]
    have hbr : ((EF x ks L).fin x ks q).brief = if x 13 ≤ q.2 - q.1 then !decide (x 12 ≤ q.2 - q.1) else (EF x ks L).brief := by
      show (if ((EF x ks L).worth x q).weekly = true then ((EF x ks L).worth x q).brief else (EF x ks L).brief) = _
      unfold Ef.worth ofV ofW lastB
      simp only [decide_eq_true_eq]
      split
      · rename_i h13; rw [decide_eq_true h13, Bool.true_and]
      · rfl
    rw [hbr]
    by_cases h13 : x 13 ≤ q.2 - q.1
    · rw [if_pos h13, if_pos h13]
      have e1 : L.any (briefB x q.2) = false := List.any_eq_false.2 fun p hp => by
        have := hL.each p hp
        unfold briefB
        have : (p.2 == q.2) = false := by simp; omega
        rw [this]
        simp
      rw [e1]
      unfold briefB
      have : (q.2 == q.2) = true := by simp
      simp only [List.any_cons, List.any_nil, Bool.or_false, Bool.false_or, this, Bool.true_and, decide_eq_true (show 0 < q.2 by omega)]
      by_cases hh : x 12 ≤ q.2 - q.1
      · rw [decide_eq_true hh, decide_eq_false (by omega)]; rfl
      · rw [decide_eq_false hh, decide_eq_true (by omega)]; rfl
    · rw [if_neg h13, if_neg h13, ih _ hL]
      unfold briefB
      have : (q.2 == (EF x ks L).sab) = false := by simp; omega
      simp only [List.any_cons, List.any_nil, Bool.or_false, this, Bool.false_and, Bool.and_false]

theorem long_none {x : Nat → Int} {ks : List Int} {fr : Int} : ∀ {L : List (Int × Int)}, (∀ q ∈ L, q.2 ≤ fr) → docLongF x ks L fr = (fr, 0) := by
  intro L
  refine snoc_ind16 (P := fun L => (∀ q ∈ L, q.2 ≤ fr) → docLongF x ks L fr = (fr, 0)) (fun _ => rfl) ?_ L
  intro L q ih h
  rw [long_snoc, if_pos (.inl (h q (by simp))), ih fun p hp => h p (by simp [hp])]
theorem long_is {x : Nat → Int} (hx : May x) (ks : List Int) (L : List (Int × Int)) : ∀ hi, Lk L hi → docLongF x ks L (EF x ks L).sab = ((EF x ks L).dawn, (EF x ks L).lon) := by
  have ho := may_ord hx
  refine snoc_ind16 (P := fun L => ∀ hi, Lk L hi → docLongF x ks L (EF x ks L).sab = ((EF x ks L).dawn, (EF x ks L).lon)) ?_ ?_ L
  · intro _ _; rfl
  · intro L q ih hi h
    obtain ⟨hL, q0, q1, q2⟩ := h.cut
    have hsl := (dawn_le (x := x) (ks := ks) hL q0).1.2
    rw [EF_snoc, fin_sab, fin_dawn]
    have hlo : ((EF x ks L).fin x ks q).lon = if x 13 ≤ q.2 - q.1 then 0 else if x 8 ≤ q.2 - q.1 then (EF x ks L).lon + (if x 4 < cntK ks 3 3 (EF x ks L).dawn q.2.toNat then 1 else 0) else (EF x ks L).lon := by
      show (if ((EF x ks L).worth x q).weekly = true then 0 else if ((EF x ks L).worth x q).daily = true then _ else _) = _
      have e1 : ((EF x ks L).worth x q).weekly = decide (x 13 ≤ q.2 - q.1) := rfl
      have e2 : ((EF x ks L).worth x q).daily = decide (x 8 ≤ q.2 - q.1) := rfl
      rw [e1, e2]
      simp only [decide_eq_true_eq]
    rw [hlo, long_snoc]
    by_cases h13 : x 13 ≤ q.2 - q.1
    · have h8 : x 8 ≤ q.2 - q.1 := by omega
      rw [if_pos h13, if_pos (.inl (Int.le_refl _)), if_pos h8, if_pos h13]
      exact long_none fun p hp => by have := hL.each p hp; omega
    · rw [if_neg h13, if_neg h13, ih _ hL]
      by_cases h8 : x 8 ≤ q.2 - q.1
      · rw [if_pos h8, if_pos h8, if_neg (by omega)]
      · rw [if_neg h8, if_neg h8, if_pos (.inr (by omega))]

/-! ### What a minute breaks -/
def restsL (ks : List Int) (m : Nat) : List (Int × Int) := fullR (eR ks m).1 (eR ks m).2 m
/-- The last rest's end, and whether there is one that ends with the minute. -/
def endsB (L : List (Int × Int)) (m : Int) : Bool := decide (0 < L.length) && (L.getD (L.length - 1) (0, 0)).2 == m
/-- Does the minute, which is none of rest, break the clause? -/
def docBreaks (x : Nat → Int) (ks : List Int) (m c : Nat) : Bool :=
  let L := restsL ks m
  let dawn := docLast L (x 8) m
  let sab := docLast L (x 13) m
  let k := kAt ks m
  let week := (m : Int) - (m : Int) % x 18
  match c with
  | 0 => decide (k = 3) && decide (x 0 < cntK ks 3 3 (docBrk x L).1 (m + 1))
  | 1 => decide (k = 3) && decide (x 5 < cntK ks 3 3 dawn (m + 1))
  | 2 => decide (k = 3) && (decide (cntK ks 3 3 dawn (m + 1) = x 4 + 1) && decide (x 6 < (docLongF x ks L sab).2 + if x 4 < cntK ks 3 3 (docLongF x ks L sab).1 (m + 1) then 1 else 0))
  | 3 => decide (k = 3) && decide (x 15 < cntK ks 3 3 week (m + 1))
  | 4 => decide (k = 3) && decide (x 16 < cntK ks 3 3 (week - x 18) (m + 1))
  | 5 => decide (x 11 - x 8 ≤ (m : Int) - dawn)
  | 6 => endsB L m && (docRed x L (L.length - 1) && decide (x 9 < docRedN x L sab L.length))
  | 7 => decide (x 14 ≤ (m : Int) - sab)
  | 8 => endsB L m && (decide (x 13 ≤ (L.getD (L.length - 1) (0, 0)).2 - (L.getD (L.length - 1) (0, 0)).1) && (decide ((L.getD (L.length - 1) (0, 0)).2 - (L.getD (L.length - 1) (0, 0)).1 < x 12) && (L.take (L.length - 1)).any (briefB x (docLast (L.take (L.length - 1)) (x 13) m))))
  | 9 => decide (k = 3 ∨ k = 2) && decide (x 17 < cntK ks 3 2 week (m + 1))
  | _ => false

theorem breaks_bit {x : Nat → Int} {ks : List Int} {i : Nat} {a : Au} (hx : May x) (hL : 1 ≤ x 18) (h : Rl x ks i a) (hok : a.Ok i) (hk : ¬ kAt ks i = 0) (c : Nat) : docBreaks x ks i c = (stepC x a.m (kAt ks i)).testBit c := by
  obtain ⟨u, -, hw⟩ := up_rel hx hL h hok hk
  have hfull := full_ok ks i
  obtain ⟨l1, l2⟩ := last_is x ks (restsL ks i) i fun q hq => by have := hfull.each q hq; omega
  have hb := brk_is hx ks (restsL ks i)
  have hlo := long_is hx ks (restsL ks i) _ hfull
  have hsl := EF_le (x := x) ks _ _ (by omega) hfull
  have hS : EF x ks (restsL ks i) = sUp x ks i := rfl
  have hsl : (0 ≤ (sUp x ks i).dawn ∧ (sUp x ks i).dawn < (i : Int) + 1) ∧ (0 ≤ (sUp x ks i).sab ∧ (sUp x ks i).sab < (i : Int) + 1) ∧ (0 ≤ (sUp x ks i).brk ∧ (sUp x ks i).brk < (i : Int) + 1) := hsl
  have wsl : wsV (x 18) i ≤ (i : Int) ∧ 0 ≤ wsV (x 18) i := by
    have := Int.emod_nonneg (i : Int) (show x 18 ≠ 0 by omega)
    have := mod_le (show (0 : Int) ≤ (i : Int) by omega) hL
    unfold wsV; omega
  rw [hS] at l1 l2 hb hlo
  have es : stepC x a.m (kAt ks i) = (upC x (wrapM x a.m) (kAt ks i)).sum := by unfold stepC; rw [if_neg hk]
  rw [es, Cl.sum_bit]
  have m1 : ∀ lo, lo ≤ (i : Int) → kAt ks i = 3 → cntK ks 3 3 lo (i + 1) = cntK ks 3 3 lo i + 1 := fun lo hl h3 => by rw [cnt_next hl, if_pos (.inl h3)]
  have m2 : ∀ lo, lo ≤ (i : Int) → (kAt ks i = 3 ∨ kAt ks i = 2) → cntK ks 3 2 lo (i + 1) = cntK ks 3 2 lo i + 1 := fun lo hl h3 => by rw [cnt_next hl, if_pos h3]
  obtain ⟨u1, u2, u3, u4, u5, u6, u7, u8, u9, u10, u11, u12, u13, u14⟩ := u
  have n1 := m1 _ (show (sUp x ks i).brk ≤ (i : Int) by omega)
  have n2 := m1 _ (show (sUp x ks i).dawn ≤ (i : Int) by omega)
  have n3 := m1 _ wsl.1
  have n4 := m2 _ wsl.1
  have n5 := cnt_split (ks := ks) (a := 3) (b := 3) (lo := wsV (x 18) i - x 18) (mid := wsV (x 18) i) (by omega) (h := i + 1) (by omega) wsl.2
  have hlie : (wrapM x a.m).lie = ((eR ks i).2 : Nat) := by rw [wrap_lie, h.lie]
  have hbrief : (wrapM x a.m).brief = (EF x ks (eR ks i).1).brief := by rw [← h.brief]; unfold wrapM; split <;> rfl
  have hredm : (wrapM x a.m).reduces = (EF x ks (eR ks i).1).red := by rw [← h.red]; unfold wrapM; split <;> rfl
  have hEk := eR_ok ks i
  have hle := eR_le ks i
  unfold docBreaks Cl.get upC
  dsimp only
  rw [l1, l2, hb, hlo]
  dsimp only
  have hlab : (if kAt ks i = 3 then driveM x (upR x (wrapM x a.m)) else upR x (wrapM x a.m)).labour = (upR x (wrapM x a.m)).labour := by
    unfold driveM d2 d1
    split
    · split <;> rfl
    · rfl
  generalize upR x (wrapM x a.m) = r at *
  split
  · by_cases h3 : kAt ks i = 3
    · rw [n1 h3, ← u9]; rfl
    · rw [decide_eq_false h3]; rfl
  · by_cases h3 : kAt ks i = 3
    · rw [n2 h3, ← u10]; rfl
    · rw [decide_eq_false h3]; rfl
  · by_cases h3 : kAt ks i = 3
    · rw [n2 h3, ← u10]
      unfold c2
      congr 1
      rw [u11]
      by_cases hd : r.day + 1 = x 4 + 1
      · rw [decide_eq_true hd, Bool.true_and, Bool.true_and, if_pos (by omega), if_neg (by omega), Int.add_zero]
      · rw [decide_eq_false hd]; rfl
    · rw [decide_eq_false h3]; rfl
  · by_cases h3 : kAt ks i = 3
    · rw [show (i : Int) - (i : Int) % x 18 = wsV (x 18) i from rfl, n3 h3, ← u12]; rfl
    · rw [decide_eq_false h3]; rfl
  · by_cases h3 : kAt ks i = 3
    · rw [show (i : Int) - (i : Int) % x 18 = wsV (x 18) i from rfl, n5, n3 h3, ← u12, ← u13]
      unfold c4
      congr 2
      rw [Int.add_comm]
    · rw [decide_eq_false h3]; rfl
  · show _ = c5 x r
    unfold c5
    rw [u1, u4]
  · -- reduces
    unfold up6 c6
    rw [hlie]
    by_cases hr0 : 0 < (eR ks i).2
    · have hw := hw hr0
      have hFl : restsL ks i = (eR ks i).1 ++ [((i : Int) - ((eR ks i).2 : Nat), (i : Int))] := by unfold restsL fullR; rw [if_pos hr0]
      have hN := redN_is (x := x) ks (restsL ks i) _ hfull
      rw [hS] at hN
      rw [hN]
      have hsred : (sUp x ks i).red = if ((EF x ks (eR ks i).1).worth x ((i : Int) - ((eR ks i).2 : Nat), (i : Int))).weekly then 0 else (EF x ks (eR ks i).1).red + if ((EF x ks (eR ks i).1).worth x ((i : Int) - ((eR ks i).2 : Nat), (i : Int))).red then 1 else 0 := by
        rw [← hS, hFl, EF_snoc]; rfl
      have hfull' := hfull
      rw [show fullR (eR ks i).1 (eR ks i).2 i = restsL ks i from rfl, hFl] at hfull'
      have hrd := red_is (x := x) ks hfull'
      rw [hsred, hFl, List.length_append, List.length_singleton, Nat.add_sub_cancel, hrd, hw]
      have he : endsB ((eR ks i).1 ++ [((i : Int) - ((eR ks i).2 : Nat), (i : Int))]) i = true := by
        unfold endsB
        rw [List.length_append, List.length_singleton, Nat.add_sub_cancel, getD_last]
        simp
      rw [he, decide_eq_true (show (0 : Int) < ((eR ks i).2 : Nat) by omega)]
      have wr := worth_red x (EF x ks (eR ks i).1) ((i : Int) - ((eR ks i).2 : Nat), (i : Int))
      generalize (EF x ks (eR ks i).1).worth x ((i : Int) - ((eR ks i).2 : Nat), (i : Int)) = v at *
      cases hv : v.red with
      | false => simp
      | true =>
        obtain ⟨v1, v2⟩ := wr hv
        have e2 : (e2 v (e1 v (wrapM x a.m))).reduces = (EF x ks (eR ks i).1).red + 1 := by
          unfold e2 e1
          rw [hv, v1]
          simp only [if_true, Bool.false_eq_true, if_false]
          rw [hredm]
        rw [e2, v1]
        simp
    · have hFl : restsL ks i = (eR ks i).1 := by unfold restsL fullR; rw [if_neg hr0]
      have he : endsB (restsL ks i) i = false := by
        rw [hFl]
        unfold endsB
        by_cases hz : 0 < (eR ks i).1.length
        · have := hEk.each _ (getDs_mem (k := (eR ks i).1.length - 1) (by omega))
          rw [decide_eq_true hz, Bool.true_and, beq_eq_false_iff_ne]
          omega
        · rw [decide_eq_false hz]; rfl
      rw [he, decide_eq_false (show ¬ (0 : Int) < ((eR ks i).2 : Nat) by omega)]
      rfl
  · show _ = c7 x r
    unfold c7
    rw [u1, u6]
  · -- brief
    unfold up8 c8
    rw [hlie]
    by_cases hr0 : 0 < (eR ks i).2
    · have hw := hw hr0
      have hFl : restsL ks i = (eR ks i).1 ++ [((i : Int) - ((eR ks i).2 : Nat), (i : Int))] := by unfold restsL fullR; rw [if_pos hr0]
      rw [hFl, List.length_append, List.length_singleton, Nat.add_sub_cancel, List.take_left, getD_last, hw, hbrief]
      have he : endsB ((eR ks i).1 ++ [((i : Int) - ((eR ks i).2 : Nat), (i : Int))]) i = true := by
        unfold endsB
        rw [List.length_append, List.length_singleton, Nat.add_sub_cancel, getD_last]
        simp
      rw [he, decide_eq_true (show (0 : Int) < ((eR ks i).2 : Nat) by omega), (last_is x ks (eR ks i).1 i fun q hq => by have := hEk.each q hq; omega).2, brief_is ks (eR ks i).1 _ hEk]
      unfold Ef.worth ofV ofW lastB
      dsimp only
      have e1 : decide ((i : Int) - ((i : Int) - ((eR ks i).2 : Nat)) < x 12) = !decide (x 12 ≤ (i : Int) - ((i : Int) - ((eR ks i).2 : Nat))) := by by_cases hh : x 12 ≤ (i : Int) - ((i : Int) - ((eR ks i).2 : Nat)) <;> simp [hh] <;> omega
      rw [e1]
      cases decide (x 13 ≤ (i : Int) - ((i : Int) - ((eR ks i).2 : Nat))) <;> simp
    · have hFl : restsL ks i = (eR ks i).1 := by unfold restsL fullR; rw [if_neg hr0]
      have he : endsB (restsL ks i) i = false := by
        rw [hFl]
        unfold endsB
        by_cases hz : 0 < (eR ks i).1.length
        · have := hEk.each _ (getDs_mem (k := (eR ks i).1.length - 1) (by omega))
          rw [decide_eq_true hz, Bool.true_and, beq_eq_false_iff_ne]
          omega
        · rw [decide_eq_false hz]; rfl
      rw [he, decide_eq_false (show ¬ (0 : Int) < ((eR ks i).2 : Nat) by omega)]
      rfl
  · by_cases h3 : kAt ks i = 3 ∨ kAt ks i = 2
    · rw [show (i : Int) - (i : Int) % x 18 = wsV (x 18) i from rfl, n4 h3, ← u14]
      unfold c9
      rw [hlab]
      rfl
    · rw [decide_eq_false h3]; rfl
  · rename_i c0 c1 c2 c3 c4 c5 c6 c7 c8 c9
    split <;> first | rfl | (exfalso; simp_all)

/-- From where on the clause counts, ahead of the minute. -/
def docSince (x : Nat → Int) (ks : List Int) (m c : Nat) : Int :=
  let L := if endsB (restsL ks m) m then (restsL ks m).take ((restsL ks m).length - 1) else restsL ks m
  let week := (m : Int) - (m : Int) % x 18
  if c = 0 then (docBrk x L).1 else if c = 1 ∨ c = 5 then docLast L (x 8) m else if c = 3 ∨ c = 9 then week else if c = 4 then (if week < x 18 then 0 else week - x 18) else docLast L (x 13) m

theorem since_is {x : Nat → Int} {ks : List Int} {i : Nat} {a : Au} (hx : May x) (h : Rl x ks i a) (c : Nat) : docSince x ks i c = sinceV x a.m a.p c a.m.now := by
  have hEk := eR_ok ks i
  have hle := eR_le ks i
  have hLe : (if endsB (restsL ks i) i then (restsL ks i).take ((restsL ks i).length - 1) else restsL ks i) = (eR ks i).1 := by
    by_cases hr0 : 0 < (eR ks i).2
    · have hFl : restsL ks i = (eR ks i).1 ++ [((i : Int) - ((eR ks i).2 : Nat), (i : Int))] := by unfold restsL fullR; rw [if_pos hr0]
      have he : endsB (restsL ks i) i = true := by
        rw [hFl]
        unfold endsB
        rw [List.length_append, List.length_singleton, Nat.add_sub_cancel, getD_last]
        simp
      rw [he, if_pos rfl, hFl, List.length_append, List.length_singleton, Nat.add_sub_cancel, List.take_left]
    · have hFl : restsL ks i = (eR ks i).1 := by unfold restsL fullR; rw [if_neg hr0]
      have he : endsB (restsL ks i) i = false := by
        rw [hFl]
        unfold endsB
        by_cases hz : 0 < (eR ks i).1.length
        · have := hEk.each _ (getDs_mem (k := (eR ks i).1.length - 1) (by omega))
          rw [decide_eq_true hz, Bool.true_and, beq_eq_false_iff_ne]
          omega
        · rw [decide_eq_false hz]; rfl
      rw [he, hFl]
      rfl
  unfold docSince
  rw [hLe]
  dsimp only
  obtain ⟨l1, l2⟩ := last_is x ks (eR ks i).1 i fun q hq => by have := hEk.each q hq; omega
  rw [l1, l2, brk_is hx ks (eR ks i).1, ← h.p, ← h.dawn, ← h.sab, h.now]
  unfold sinceV sinceD
  split
  · rfl
  split
  · rfl
  split
  · rfl
  split
  · split <;> omega
  · rfl

/-- A clause's finding among the first j minutes. -/
def firstD (x : Nat → Int) (ks : List Int) (c : Nat) : Nat → Option (Int × Int)
  | 0 => none
  | j + 1 => match firstD x ks c j with
    | some v => some v
    | none => if ¬ kAt ks j = 0 ∧ docBreaks x ks j c = true then some (docSince x ks j c, (j : Int) + 1) else none
theorem first_is {x : Nat → Int} {ks : List Int} (hx : May x) (hL : 1 ≤ x 18) (hn : ks.length ≤ 40320) (c : Nat) : ∀ j, j ≤ ks.length → firstD x ks c j = (Au.zero.run x (ks.take j)).F c
  | 0, _ => rfl
  | j + 1, hj => by
    have ih := first_is hx hL hn c j (by omega)
    obtain ⟨hr, hok⟩ := run_rel hx hL hn j (by omega)
    have e : Au.zero.run x (ks.take (j + 1)) = (Au.zero.run x (ks.take j)).step x (kAt ks j) := by
      rw [List.take_succ_eq_append_getElem (by omega), Au.run_snoc]
      congr 1
      unfold kAt
      simp [List.getD, (by omega : j < ks.length)]
    rw [e, step_F]
    show (match firstD x ks c j with | some v => some v | none => _) = _
    rw [ih]
    cases hF : (Au.zero.run x (ks.take j)).F c with
    | some v => simp
    | none =>
      dsimp only
      by_cases hk : kAt ks j = 0
      · rw [if_neg (fun q => q.1 hk), hk]
        unfold stepC
        simp
      · rw [breaks_bit hx hL hr hok hk c, since_is hx hr c, ← hr.now]
        by_cases hb : (stepC x (Au.zero.run x (ks.take j)).m (kAt ks j)).testBit c = true
        · rw [if_pos ⟨hk, hb⟩, if_pos ⟨hb, rfl⟩]
        · rw [if_neg (fun q => hb q.2), if_neg (fun q => hb q.1)]

end Go.Proofs.Ytlbafgdbemhanaa

/- Sets of minutes as lists of spans: plain facts on lists of pairs of numbers. Conditions: none beyond each lemma's own premises. -/
namespace Go.Proofs.Ytlbafgdbemhanaa

abbrev Sp := Int × Int

def hasS (s : Sp) (m : Int) : Bool := decide (s.1 ≤ m) && decide (m < s.2)

def hasL (l : List Sp) (m : Int) : Bool := l.any (fun s => hasS s m)

structure IsSet (l : List Sp) : Prop where
  right : ∀ s ∈ l, s.1 < s.2
  rise : l.Pairwise (fun s t => s.2 < t.1)

theorem hasS_iff {s : Sp} {m : Int} : hasS s m = true ↔ s.1 ≤ m ∧ m < s.2 := by simp [hasS]

theorem hasS_no {s : Sp} {m : Int} : hasS s m = false ↔ ¬ (s.1 ≤ m ∧ m < s.2) := by
  rw [← hasS_iff]; simp

theorem hasL_iff {l : List Sp} {m : Int} : hasL l m = true ↔ ∃ s ∈ l, s.1 ≤ m ∧ m < s.2 := by
  simp [hasL, hasS]

theorem hasL_no {l : List Sp} {m : Int} : hasL l m = false ↔ ∀ s ∈ l, ¬ (s.1 ≤ m ∧ m < s.2) := by
  constructor
  · intro h s hs hm
    have : hasL l m = true := hasL_iff.2 ⟨s, hs, hm⟩
    rw [h] at this; cases this
  · intro h
    cases hh : hasL l m with
    | false => rfl
    | true =>
      obtain ⟨s, hs, hm⟩ := hasL_iff.1 hh
      exact absurd hm (h s hs)

theorem hasL_nil (m : Int) : hasL [] m = false := rfl

theorem hasL_cons (s : Sp) (l : List Sp) (m : Int) : hasL (s :: l) m = (hasS s m || hasL l m) := rfl

theorem hasL_append (a b : List Sp) (m : Int) : hasL (a ++ b) m = (hasL a m || hasL b m) := by simp [hasL]

/-- Two lists have the same minutes. -/
theorem hasL_ext {a b : List Sp} {m n : Int} (h : hasL a m = true ↔ hasL b n = true) : hasL a m = hasL b n := by
  cases h1 : hasL a m <;> cases h2 : hasL b n <;> simp_all

theorem IsSet.nil : IsSet [] := ⟨by simp, List.Pairwise.nil⟩

theorem IsSet.tail {s : Sp} {l : List Sp} (h : IsSet (s :: l)) : IsSet l :=
  ⟨fun t ht => h.right t (List.mem_cons_of_mem _ ht), (List.pairwise_cons.1 h.rise).2⟩

theorem IsSet.head {s : Sp} {l : List Sp} (h : IsSet (s :: l)) : s.1 < s.2 := h.right s (List.mem_cons_self ..)

theorem IsSet.later {s : Sp} {l : List Sp} (h : IsSet (s :: l)) : ∀ t ∈ l, s.2 < t.1 := (List.pairwise_cons.1 h.rise).1

theorem IsSet.cons {s : Sp} {l : List Sp} (h : IsSet l) (h1 : s.1 < s.2) (h2 : ∀ t ∈ l, s.2 < t.1) : IsSet (s :: l) :=
  ⟨fun t ht => by
    rcases List.mem_cons.1 ht with rfl | ht
    · exact h1
    · exact h.right t ht, List.pairwise_cons.2 ⟨h2, h.rise⟩⟩

theorem IsSet.snoc {s : Sp} {l : List Sp} (h : IsSet l) (h1 : s.1 < s.2) (h2 : ∀ t ∈ l, t.2 < s.1) : IsSet (l ++ [s]) :=
  ⟨fun t ht => by
    rcases List.mem_append.1 ht with ht | ht
    · exact h.right t ht
    · rw [List.mem_singleton.1 ht]; exact h1, List.pairwise_append.2 ⟨h.rise, List.pairwise_singleton _ _, fun a ha b hb => by
      rw [List.mem_singleton.1 hb]; exact h2 a ha⟩⟩

theorem IsSet.init {s : Sp} {l : List Sp} (h : IsSet (l ++ [s])) : IsSet l ∧ s.1 < s.2 ∧ ∀ t ∈ l, t.2 < s.1 := by
  refine ⟨⟨fun t ht => h.right t (List.mem_append_left _ ht), (List.pairwise_append.1 h.rise).1⟩, h.right s (by simp), fun t ht => (List.pairwise_append.1 h.rise).2.2 t ht s (by simp)⟩

/-- Of each list there is one set with its minutes. -/
theorem set_unique : ∀ {a b : List Sp}, IsSet a → IsSet b → (∀ m, hasL a m = hasL b m) → a = b
  | [], [], _, _, _ => rfl
  | [], t :: b, _, hb, h => by
    have h1 := h t.1
    have : hasL (t :: b) t.1 = true := hasL_iff.2 ⟨t, List.mem_cons_self .., by have := hb.head; omega⟩
    rw [this] at h1; cases h1
  | s :: a, [], ha, _, h => by
    have h1 := h s.1
    have : hasL (s :: a) s.1 = true := hasL_iff.2 ⟨s, List.mem_cons_self .., by have := ha.head; omega⟩
    rw [this] at h1; cases h1
  | s :: a, t :: b, ha, hb, h => by
    have hs := ha.head
    have ht := hb.head
    have la := ha.later
    have lb := hb.later
    have e1 : s.1 = t.1 := by
      have h1 : hasL (t :: b) s.1 = true := by rw [← h]; exact hasL_iff.2 ⟨s, List.mem_cons_self .., by omega⟩
      have h2 : hasL (s :: a) t.1 = true := by rw [h]; exact hasL_iff.2 ⟨t, List.mem_cons_self .., by omega⟩
      obtain ⟨x, hx, hx1, hx2⟩ := hasL_iff.1 h1
      obtain ⟨y, hy, hy1, hy2⟩ := hasL_iff.1 h2
      have c1 : t.1 ≤ s.1 := by
        rcases List.mem_cons.1 hx with rfl | hx
        · exact hx1
        · have := lb x hx; omega
      have c2 : s.1 ≤ t.1 := by
        rcases List.mem_cons.1 hy with rfl | hy
        · exact hy1
        · have := la y hy; omega
      omega
    have e2 : s.2 = t.2 := by
      rcases Int.lt_trichotomy s.2 t.2 with hlt | he | hgt
      · have h1 : hasL (s :: a) s.2 = true := by rw [h]; exact hasL_iff.2 ⟨t, List.mem_cons_self .., by omega⟩
        obtain ⟨x, hx, hx1, hx2⟩ := hasL_iff.1 h1
        rcases List.mem_cons.1 hx with rfl | hx
        · omega
        · have := la x hx; omega
      · exact he
      · have h1 : hasL (t :: b) t.2 = true := by rw [← h]; exact hasL_iff.2 ⟨s, List.mem_cons_self .., by omega⟩
        obtain ⟨x, hx, hx1, hx2⟩ := hasL_iff.1 h1
        rcases List.mem_cons.1 hx with rfl | hx
        · omega
        · have := lb x hx; omega
    have e : s = t := Prod.ext e1 e2
    subst e
    congr 1
    refine set_unique ha.tail hb.tail fun m => ?_
    have hm := h m
    rw [hasL_cons, hasL_cons] at hm
    cases hsm : hasS s m with
    | false => simpa [hsm] using hm
    | true =>
      have hh := hasS_iff.1 hsm
      rw [hasL_no.2 fun x hx hxm => by have := la x hx; omega, hasL_no.2 fun x hx hxm => by have := lb x hx; omega]

/-- What Right asks at place k. -/
def okAt (l : List Sp) (k : Nat) : Bool := decide ((l.getD k (0, 0)).1 < (l.getD k (0, 0)).2) && (decide (k = 0) || decide ((l.getD (k - 1) (0, 0)).2 < (l.getD k (0, 0)).1))

def rightB (l : List Sp) : Bool := (List.range l.length).all (okAt l)

theorem rightB_iff (l : List Sp) : rightB l = true ↔ IsSet l := by
  constructor
  · intro h
    have hk : ∀ k, k < l.length → okAt l k = true := fun k hk => by
      have := List.all_eq_true.1 h k (List.mem_range.2 hk); simpa using this
    have hr : ∀ k (hk : k < l.length), l[k].1 < l[k].2 := fun k hkl => by
      have := hk k hkl
      simp [okAt, List.getD, hkl] at this
      exact this.1
    have hs : ∀ k (h0 : 0 < k) (hk : k < l.length), l[k - 1].2 < l[k].1 := fun k h0 hkl => by
      have := hk k hkl
      have h1 : k - 1 < l.length := by omega
      simp [okAt, List.getD, hkl, h1] at this
      rcases this.2 with h2 | h2
      · omega
      · exact h2
    refine ⟨fun s hs' => ?_, ?_⟩
    · obtain ⟨k, hkl, rfl⟩ := List.mem_iff_getElem.1 hs'
      exact hr k hkl
    · rw [List.pairwise_iff_getElem]
      have key : ∀ (d i : Nat) (hj : i + d + 1 < l.length), (l[i]'(by omega)).2 < l[i + d + 1].1 := by
        intro d
        induction d with
        | zero => intro i hj; exact hs (i + 1) (by omega) hj
        | succ d ih =>
          intro i hj
          have h1 := ih i (by omega)
          have h2 := hr (i + d + 1) (by omega)
          have h3 := hs (i + d + 1 + 1) (by omega) hj
          have h4 : (l[i + d + 1 + 1 - 1]'(by omega)) = l[i + d + 1] := rfl
          rw [h4] at h3
          have h5 : i + (d + 1) + 1 = i + d + 1 + 1 := by omega
          simp only [h5]
          omega
      intro i j hi hj hij
      obtain ⟨d, rfl⟩ : ∃ d, j = i + d + 1 := ⟨j - i - 1, by omega⟩
      exact key d i hj
  · intro h
    refine List.all_eq_true.2 fun k hk => ?_
    have hk := List.mem_range.1 hk
    have h1 := h.right l[k] (List.getElem_mem hk)
    simp only [okAt, List.getD, hk, List.getElem?_eq_getElem, Option.getD_some, h1, decide_true, Bool.true_and, Bool.or_eq_true, decide_eq_true_eq]
    by_cases h0 : k = 0
    · exact Or.inl h0
    · refine Or.inr ?_
      have h2 : k - 1 < l.length := by omega
      have := List.pairwise_iff_getElem.1 h.rise (k - 1) k h2 hk (by omega)
      simpa [h2] using this

theorem rightB_no {l : List Sp} {k : Nat} (hk : k < l.length) (h : okAt l k = false) : rightB l = false := by
  cases hh : rightB l with
  | false => rfl
  | true =>
    have := List.all_eq_true.1 hh k (List.mem_range.2 hk)
    rw [h] at this; cases this

theorem rightB_yes {l : List Sp} (h : ∀ k, k < l.length → okAt l k = true) : rightB l = true :=
  List.all_eq_true.2 fun k hk => h k (List.mem_range.1 hk)

/-- Those that are right. -/
def onlyR (l : List Sp) : List Sp := l.filter fun s => decide (s.1 < s.2)

theorem hasL_onlyR (l : List Sp) (m : Int) : hasL (onlyR l) m = hasL l m := by
  refine hasL_ext ⟨fun h => ?_, fun h => ?_⟩
  · obtain ⟨s, hs, hm⟩ := hasL_iff.1 h
    exact hasL_iff.2 ⟨s, (List.mem_filter.1 hs).1, hm⟩
  · obtain ⟨s, hs, hm⟩ := hasL_iff.1 h
    exact hasL_iff.2 ⟨s, List.mem_filter.2 ⟨hs, by simp; omega⟩, hm⟩

theorem hasL_perm {a b : List Sp} (h : a.Perm b) (m : Int) : hasL a m = hasL b m := by
  refine hasL_ext ⟨fun hh => ?_, fun hh => ?_⟩
  · obtain ⟨s, hs, hm⟩ := hasL_iff.1 hh
    exact hasL_iff.2 ⟨s, h.mem_iff.1 hs, hm⟩
  · obtain ⟨s, hs, hm⟩ := hasL_iff.1 hh
    exact hasL_iff.2 ⟨s, h.mem_iff.2 hs, hm⟩

/-- One span more, put to a set whose last one begins no later. -/
def put1 (set : List Sp) (s : Sp) : List Sp :=
  match set.getLast? with
  | some t => if s.1 ≤ t.2 then set.dropLast ++ [(t.1, if s.2 ≤ t.2 then t.2 else s.2)] else set ++ [s]
  | none => [s]

def putAll (l : List Sp) : List Sp := l.foldl put1 []

theorem put1_nil (s : Sp) : put1 [] s = [s] := rfl

theorem put1_join (a : List Sp) (t s : Sp) (h : s.1 ≤ t.2) : put1 (a ++ [t]) s = a ++ [(t.1, if s.2 ≤ t.2 then t.2 else s.2)] := by
  simp [put1, h]

theorem put1_new (a : List Sp) (t s : Sp) (h : ¬ s.1 ≤ t.2) : put1 (a ++ [t]) s = a ++ [t] ++ [s] := by
  simp [put1, h]

theorem put1_len (set : List Sp) (s : Sp) : (put1 set s).length ≤ set.length + 1 := by
  rcases List.eq_nil_or_concat set with rfl | ⟨a, t, rfl⟩
  · simp [put1_nil]
  · by_cases h : s.1 ≤ t.2
    · simp [List.concat_eq_append, put1_join a t s h]
    · simp [List.concat_eq_append, put1_new a t s h]

theorem put1_ok {set : List Sp} {s : Sp} (h : IsSet set) (hs : s.1 < s.2) (hb : ∀ t ∈ set, t.1 ≤ s.1) :
    IsSet (put1 set s) ∧ (∀ m, hasL (put1 set s) m = (hasL set m || hasS s m)) ∧ (∀ t ∈ put1 set s, t.1 ≤ s.1) := by
  rcases List.eq_nil_or_concat set with rfl | ⟨a, t, rfl⟩
  · rw [put1_nil]
    exact ⟨IsSet.nil.cons hs (by simp), fun m => by simp [hasL], by simp⟩
  · rw [List.concat_eq_append] at *
    have hi := h.init
    have ht1 : t.1 ≤ s.1 := hb t (by simp)
    by_cases c : s.1 ≤ t.2
    · rw [put1_join a t s c]
      refine ⟨hi.1.snoc (s := (t.1, if s.2 ≤ t.2 then t.2 else s.2)) ?_ hi.2.2, fun m => ?_, fun u hu => ?_⟩
      · show t.1 < if s.2 ≤ t.2 then t.2 else s.2
        split <;> omega
      · rw [hasL_append, hasL_append, Bool.or_assoc]
        congr 1
        simp only [hasL, List.any_cons, List.any_nil, Bool.or_false]
        rw [Bool.eq_iff_iff, Bool.or_eq_true, hasS_iff, hasS_iff, hasS_iff]
        show (t.1 ≤ m ∧ m < if s.2 ≤ t.2 then t.2 else s.2) ↔ _
        split <;> omega
      · rcases List.mem_append.1 hu with hu | hu
        · exact hb u (by simp [hu])
        · rw [List.mem_singleton.1 hu]; exact ht1
    · rw [put1_new a t s c]
      refine ⟨h.snoc hs fun u hu => ?_, fun m => ?_, fun u hu => ?_⟩
      · rcases List.mem_append.1 hu with hu | hu
        · have := hi.2.2 u hu; omega
        · rw [List.mem_singleton.1 hu]; omega
      · rw [hasL_append (a ++ [t])]
        simp [hasL]
      · rcases List.mem_append.1 hu with hu | hu
        · exact hb u hu
        · rw [List.mem_singleton.1 hu]; exact Int.le_refl _

theorem putAll_from : ∀ (l set : List Sp), IsSet set → (∀ s ∈ l, s.1 < s.2) → l.Pairwise (fun s t => s.1 ≤ t.1) → (∀ t ∈ set, ∀ s ∈ l, t.1 ≤ s.1) →
    IsSet (l.foldl put1 set) ∧ ∀ m, hasL (l.foldl put1 set) m = (hasL set m || hasL l m)
  | [], set, h, _, _, _ => ⟨h, fun m => by simp [hasL]⟩
  | s :: l, set, h, hr, hp, hb => by
    have hp' := List.pairwise_cons.1 hp
    have h1 := put1_ok h (hr s (List.mem_cons_self ..)) (fun t ht => hb t ht s (List.mem_cons_self ..))
    have h2 := putAll_from l (put1 set s) h1.1 (fun u hu => hr u (List.mem_cons_of_mem _ hu)) hp'.2 (fun t ht u hu => Int.le_trans (h1.2.2 t ht) (hp'.1 u hu))
    refine ⟨h2.1, fun m => ?_⟩
    rw [List.foldl_cons, h2.2, h1.2.1, hasL_cons, Bool.or_assoc]

theorem putAll_ok {l d : List Sp} (hp : d.Perm (onlyR l)) (hs : d.Pairwise (fun s t => s.1 ≤ t.1)) : IsSet (putAll d) ∧ ∀ m, hasL (putAll d) m = hasL l m := by
  have h := putAll_from d [] IsSet.nil (fun s h => by
    have := (List.mem_filter.1 (hp.mem_iff.1 h)).2
    simpa using this) hs (by simp)
  exact ⟨h.1, fun m => by rw [putAll, h.2, hasL_nil, Bool.false_or, hasL_perm hp, hasL_onlyR]⟩

end Go.Proofs.Ytlbafgdbemhanaa

/- Sets of minutes: the set of a list, what two sets have in common, what is free between, and the reference's way to the set. Conditions: none beyond each lemma's own premises. -/
namespace Go.Proofs.Ytlbafgdbemhanaa

/-- The set of a list. -/
def setOf (l : List Sp) : List Sp := putAll ((onlyR l).mergeSort fun a b => decide (a.1 ≤ b.1))

theorem setOf_ok (l : List Sp) : IsSet (setOf l) ∧ ∀ m, hasL (setOf l) m = hasL l m := by
  refine putAll_ok (List.mergeSort_perm _ _) ?_
  have h := List.pairwise_mergeSort (le := fun (a b : Sp) => decide (a.1 ≤ b.1)) (fun a b c h1 h2 => by simp at *; omega) (fun a b => by simp; omega) (onlyR l)
  exact h.imp fun {a b} hab => by simpa using hab

theorem set_is {x l : List Sp} (h : IsSet x) (hm : ∀ m, hasL x m = hasL l m) : x = setOf l :=
  set_unique h (setOf_ok l).1 fun m => by rw [hm, (setOf_ok l).2]

theorem putAll_is {l d : List Sp} (hp : d.Perm (onlyR l)) (hs : d.Pairwise (fun s t => s.1 ≤ t.1)) : putAll d = setOf l :=
  set_is (putAll_ok hp hs).1 (putAll_ok hp hs).2

theorem setOf_set {l : List Sp} (h : IsSet l) : setOf l = l := (set_is h fun _ => rfl).symm

theorem setOf_congr {a b : List Sp} (h : ∀ m, hasL a m = hasL b m) : setOf a = setOf b :=
  set_is (setOf_ok a).1 fun m => by rw [(setOf_ok a).2, h]

theorem foldl_put1_len : ∀ (l set : List Sp), (l.foldl put1 set).length ≤ set.length + l.length
  | [], set => by simp
  | s :: l, set => by
    have h1 := foldl_put1_len l (put1 set s)
    have h2 := put1_len set s
    simp only [List.foldl_cons, List.length_cons]
    omega

theorem onlyR_len (l : List Sp) : (onlyR l).length ≤ l.length := List.length_filter_le _ _

theorem setOf_len (l : List Sp) : (setOf l).length ≤ l.length := by
  have h := foldl_put1_len ((onlyR l).mergeSort fun a b => decide (a.1 ≤ b.1)) []
  have h2 := onlyR_len l
  have h3 : ((onlyR l).mergeSort fun a b => decide (a.1 ≤ b.1)).length = (onlyR l).length := (List.mergeSort_perm _ _).length_eq
  unfold setOf putAll
  simp only [List.length_nil] at h
  omega

theorem no_minutes {l : List Sp} (h : IsSet l) (hm : ∀ m, hasL l m = false) : l = [] :=
  set_unique h IsSet.nil fun m => by rw [hm, hasL_nil]

/-- The greater, and the lesser. -/
def mx (a b : Int) : Int := if b ≤ a then a else b

def mn (a b : Int) : Int := if a ≤ b then a else b

theorem mx_le {a b c : Int} : mx a b ≤ c ↔ a ≤ c ∧ b ≤ c := by unfold mx; split <;> omega

theorem lt_mn {a b c : Int} : c < mn a b ↔ c < a ∧ c < b := by unfold mn; split <;> omega

theorem mx_ge (a b : Int) : a ≤ mx a b ∧ b ≤ mx a b := by unfold mx; split <;> omega

theorem mn_le (a b : Int) : mn a b ≤ a ∧ mn a b ≤ b := by unfold mn; split <;> omega

theorem snoc_ind {P : List Sp → Prop} (nil : P []) (snoc : ∀ l s, P l → P (l ++ [s])) (l : List Sp) : P l := by
  have h : ∀ r : List Sp, P r.reverse := by
    intro r
    induction r with
    | nil => exact nil
    | cons s r ih => rw [List.reverse_cons]; exact snoc _ _ ih
  simpa using h l.reverse

/-- What both have: of the first ones what they have in common, and whichever ends first goes. -/
def bothL (a b : List Sp) : List Sp :=
  match a, b with
  | s :: a, t :: b =>
    (if (mx s.1 t.1) < (mn s.2 t.2) then [((mx s.1 t.1), (mn s.2 t.2))] else []) ++
      (if s.2 < t.2 then bothL a (t :: b) else bothL (s :: a) b)
  | _, _ => []
termination_by a.length + b.length

/-- What the first ones have in common. -/
def both1 (s t : Sp) : List Sp := if (mx s.1 t.1) < (mn s.2 t.2) then [((mx s.1 t.1), (mn s.2 t.2))] else []

theorem bothL_nil_l (b : List Sp) : bothL [] b = [] := by unfold bothL; rfl

theorem bothL_nil_r (a : List Sp) : bothL a [] = [] := by
  cases a <;> (unfold bothL; rfl)

theorem bothL_lt (s t : Sp) (a b : List Sp) (h : s.2 < t.2) : bothL (s :: a) (t :: b) = both1 s t ++ bothL a (t :: b) := by
  rw [bothL, if_pos h]; rfl

theorem bothL_ge (s t : Sp) (a b : List Sp) (h : ¬ s.2 < t.2) : bothL (s :: a) (t :: b) = both1 s t ++ bothL (s :: a) b := by
  rw [bothL, if_neg h]; rfl

theorem both1_mem {s t x : Sp} (h : x ∈ both1 s t) : s.1 ≤ x.1 ∧ t.1 ≤ x.1 ∧ x.1 < x.2 ∧ x.2 ≤ s.2 ∧ x.2 ≤ t.2 := by
  unfold both1 at h
  split at h
  · rename_i hlt
    rw [List.mem_singleton.1 h]
    have h1 := mx_ge s.1 t.1
    have h2 := mn_le s.2 t.2
    exact ⟨h1.1, h1.2, hlt, h2.1, h2.2⟩
  · cases h

theorem both1_has (s t : Sp) (m : Int) : hasL (both1 s t) m = (hasS s m && hasS t m) := by
  unfold both1
  split
  · rw [Bool.eq_iff_iff, Bool.and_eq_true, hasS_iff, hasS_iff, hasL_iff]
    simp only [List.mem_singleton, exists_eq_left, mx_le, lt_mn]
    omega
  · rename_i h
    rw [hasL_nil, Bool.eq_iff_iff, Bool.and_eq_true, hasS_iff, hasS_iff]
    simp only [Bool.false_eq_true, false_iff]
    intro hh
    exact h (Int.lt_of_le_of_lt (mx_le.2 ⟨hh.1.1, hh.2.1⟩) (lt_mn.2 ⟨hh.1.2, hh.2.2⟩))

theorem bothL_from (c : Int) : ∀ (n : Nat) (a b : List Sp), a.length + b.length ≤ n → ((∀ s ∈ a, c < s.1) ∨ (∀ s ∈ b, c < s.1)) → ∀ x ∈ bothL a b, c < x.1
  | n, [], b, _, _, x, hx => by rw [bothL_nil_l] at hx; cases hx
  | n, s :: a, [], _, _, x, hx => by rw [bothL_nil_r] at hx; cases hx
  | 0, s :: a, t :: b, hn, _, _, _ => by simp at hn
  | n + 1, s :: a, t :: b, hn, hc, x, hx => by
    simp only [List.length_cons] at hn
    have h1 : ∀ x ∈ both1 s t, c < x.1 := fun x hx => by
      have := both1_mem hx
      rcases hc with hc | hc
      · have := hc s (List.mem_cons_self ..); omega
      · have := hc t (List.mem_cons_self ..); omega
    by_cases h : s.2 < t.2
    · rw [bothL_lt s t a b h] at hx
      rcases List.mem_append.1 hx with hx | hx
      · exact h1 x hx
      · exact bothL_from c n a (t :: b) (by simp only [List.length_cons]; omega) (hc.imp (fun g u hu => g u (List.mem_cons_of_mem _ hu)) id) x hx
    · rw [bothL_ge s t a b h] at hx
      rcases List.mem_append.1 hx with hx | hx
      · exact h1 x hx
      · exact bothL_from c n (s :: a) b (by simp only [List.length_cons]; omega) (hc.imp id (fun g u hu => g u (List.mem_cons_of_mem _ hu))) x hx

theorem both1_cons {s t : Sp} {l : List Sp} (h : IsSet l) (hl : ∀ x ∈ l, s.2 < x.1 ∨ t.2 < x.1) : IsSet (both1 s t ++ l) := by
  cases hb : both1 s t with
  | nil => exact h
  | cons x r =>
    have hr : r = [] := by
      unfold both1 at hb
      split at hb
      · simp at hb; exact hb.2
      · cases hb
    subst hr
    have hm := both1_mem (s := s) (t := t) (x := x) (by rw [hb]; simp)
    exact h.cons (by omega) fun u hu => by have := hl u hu; omega

theorem bothL_ok : ∀ (n : Nat) (a b : List Sp), a.length + b.length ≤ n → IsSet a → IsSet b → IsSet (bothL a b) ∧ ∀ m, hasL (bothL a b) m = (hasL a m && hasL b m)
  | n, [], b, _, _, _ => by rw [bothL_nil_l]; exact ⟨IsSet.nil, fun m => by simp [hasL]⟩
  | n, s :: a, [], _, _, _ => by rw [bothL_nil_r]; exact ⟨IsSet.nil, fun m => by simp [hasL]⟩
  | 0, s :: a, t :: b, hn, _, _ => by simp at hn
  | n + 1, s :: a, t :: b, hn, ha, hb => by
    simp only [List.length_cons] at hn
    by_cases h : s.2 < t.2
    · have ih := bothL_ok n a (t :: b) (by simp only [List.length_cons]; omega) ha.tail hb
      rw [bothL_lt s t a b h]
      refine ⟨both1_cons ih.1 fun x hx => Or.inl (bothL_from s.2 _ a (t :: b) (Nat.le_refl _) (Or.inl ha.later) x hx), fun m => ?_⟩
      rw [hasL_append, both1_has, ih.2, hasL_cons, hasL_cons]
      cases h1 : hasS s m
      · simp
      · have hs := hasS_iff.1 h1
        have hb0 : hasL b m = false := hasL_no.2 fun x hx hm => by have := hb.later x hx; omega
        have ha0 : hasL a m = false := hasL_no.2 fun x hx hm => by have := ha.later x hx; omega
        simp [hb0, ha0]
    · have ih := bothL_ok n (s :: a) b (by simp only [List.length_cons]; omega) ha hb.tail
      rw [bothL_ge s t a b h]
      refine ⟨both1_cons ih.1 fun x hx => Or.inr (bothL_from t.2 _ (s :: a) b (Nat.le_refl _) (Or.inr hb.later) x hx), fun m => ?_⟩
      rw [hasL_append, both1_has, ih.2, hasL_cons, hasL_cons]
      cases h1 : hasS t m
      · simp
      · have hs := hasS_iff.1 h1
        have hb0 : hasL b m = false := hasL_no.2 fun x hx hm => by have := hb.later x hx; omega
        have ha0 : hasL a m = false := hasL_no.2 fun x hx hm => by have := ha.later x hx; omega
        simp [hb0, ha0]

/-- The set of what both lists have. -/
def bothOf (a b : List Sp) : List Sp := bothL (setOf a) (setOf b)

theorem bothOf_ok (a b : List Sp) : IsSet (bothOf a b) ∧ ∀ m, hasL (bothOf a b) m = (hasL a m && hasL b m) := by
  have h := bothL_ok _ (setOf a) (setOf b) (Nat.le_refl _) (setOf_ok a).1 (setOf_ok b).1
  exact ⟨h.1, fun m => by rw [bothOf, h.2, (setOf_ok a).2, (setOf_ok b).2]⟩

theorem both1_len (s t : Sp) : (both1 s t).length ≤ 1 := by
  unfold both1; split <;> simp

theorem bothL_len : ∀ (n : Nat) (a b : List Sp), a.length + b.length ≤ n → (bothL a b).length ≤ a.length + b.length
  | n, [], b, _ => by rw [bothL_nil_l]; simp
  | n, s :: a, [], _ => by rw [bothL_nil_r]; simp
  | 0, s :: a, t :: b, hn => by simp at hn
  | n + 1, s :: a, t :: b, hn => by
    simp only [List.length_cons] at hn
    have h1 := both1_len s t
    by_cases h : s.2 < t.2
    · have ih := bothL_len n a (t :: b) (by simp only [List.length_cons]; omega)
      rw [bothL_lt s t a b h, List.length_append]
      simp only [List.length_cons] at *
      omega
    · have ih := bothL_len n (s :: a) b (by simp only [List.length_cons]; omega)
      rw [bothL_ge s t a b h, List.length_append]
      simp only [List.length_cons] at *
      omega

theorem bothOf_len (a b : List Sp) : (bothOf a b).length ≤ a.length + b.length := by
  have h := bothL_len _ (setOf a) (setOf b) (Nat.le_refl _)
  have h1 := setOf_len a
  have h2 := setOf_len b
  unfold bothOf
  omega

/-- What is free ahead of each, and where the last one ends. -/
def gap1 (g : List Sp × Int) (s : Sp) : List Sp × Int := (g.1 ++ [(g.2, s.1)], s.2)

def gapTo (lo : Int) (l : List Sp) : List Sp × Int := l.foldl gap1 ([], lo)

theorem gapTo_nil (lo : Int) : gapTo lo [] = ([], lo) := rfl

theorem gapTo_snoc (lo : Int) (l : List Sp) (s : Sp) : gapTo lo (l ++ [s]) = gap1 (gapTo lo l) s := by
  unfold gapTo; rw [List.foldl_append]; rfl

theorem gapTo_len (lo : Int) (l : List Sp) : (gapTo lo l).1.length = l.length := by
  induction l using snoc_ind with
  | nil => rfl
  | snoc l s ih => rw [gapTo_snoc]; simp [gap1, ih]

def gapsOf (lo hi : Int) (b : List Sp) : List Sp := (gapTo lo (setOf b)).1 ++ [((gapTo lo (setOf b)).2, hi)]

theorem gapTo_ok (lo : Int) (l : List Sp) : IsSet l → (∀ s ∈ l, lo ≤ s.1) →
    lo ≤ (gapTo lo l).2 ∧ (∀ s ∈ l, s.2 ≤ (gapTo lo l).2) ∧ ∀ m, lo ≤ m → m < (gapTo lo l).2 → hasL (gapTo lo l).1 m = !hasL l m := by
  induction l using snoc_ind with
  | nil => intro _ _; exact ⟨Int.le_refl _, by simp, fun m h1 h2 => by simp [gapTo] at h2; omega⟩
  | snoc l s ih =>
    intro h hlo
    have hi := h.init
    have ih := ih hi.1 fun u hu => hlo u (List.mem_append_left _ hu)
    have hs : lo ≤ s.1 := hlo s (by simp)
    have hg : (gapTo lo l).2 ≤ s.1 := by
      rcases List.eq_nil_or_concat l with rfl | ⟨l0, t, rfl⟩
      · exact hs
      · rw [List.concat_eq_append, gapTo_snoc] at *
        have := hi.2.2 t (by simp)
        show t.2 ≤ s.1
        omega
    rw [gapTo_snoc]
    refine ⟨by show lo ≤ s.2; omega, fun u hu => ?_, fun m h1 h2 => ?_⟩
    · show u.2 ≤ s.2
      rcases List.mem_append.1 hu with hu | hu
      · have := hi.2.2 u hu; omega
      · rw [List.mem_singleton.1 hu]; exact Int.le_refl _
    · have h2 : m < s.2 := h2
      show hasL ((gapTo lo l).1 ++ [((gapTo lo l).2, s.1)]) m = _
      rw [hasL_append, hasL_append]
      by_cases c : m < (gapTo lo l).2
      · rw [ih.2.2 m h1 c]
        have e1 : hasL [((gapTo lo l).2, s.1)] m = false := hasL_no.2 fun x hx hm => by
          rw [List.mem_singleton.1 hx] at hm; simp only at hm; omega
        have e2 : hasL [s] m = false := hasL_no.2 fun x hx hm => by
          rw [List.mem_singleton.1 hx] at hm; omega
        rw [e1, e2]; simp
      · have e0 : hasL l m = false := hasL_no.2 fun x hx hm => by have := ih.2.1 x hx; omega
        have e1 : hasL (gapTo lo l).1 m = false := by
          have key : ∀ (l : List Sp), IsSet l → (∀ s ∈ l, lo ≤ s.1) → ∀ x ∈ (gapTo lo l).1, x.2 ≤ (gapTo lo l).2 := by
            intro l
            induction l using snoc_ind with
            | nil => intro _ _ x hx; cases hx
            | snoc l s ih =>
              intro h hlo x hx
              have hi := h.init
              rw [gapTo_snoc] at hx ⊢
              show x.2 ≤ s.2
              rcases List.mem_append.1 hx with hx | hx
              · have h1 := ih hi.1 (fun u hu => hlo u (List.mem_append_left _ hu)) x hx
                have h2 : (gapTo lo l).2 ≤ s.1 := by
                  rcases List.eq_nil_or_concat l with rfl | ⟨l0, t, rfl⟩
                  · exact hlo s (by simp)
                  · rw [List.concat_eq_append, gapTo_snoc] at *
                    have := hi.2.2 t (by simp)
                    show t.2 ≤ s.1
                    omega
                omega
              · rw [List.mem_singleton.1 hx]
                have := hi.2.1
                show s.1 ≤ s.2
                omega
          exact hasL_no.2 fun x hx hm => by have := key l hi.1 (fun u hu => hlo u (List.mem_append_left _ hu)) x hx; omega
        rw [e0, e1, Bool.false_or, Bool.false_or]
        simp only [hasL, List.any_cons, List.any_nil, Bool.or_false]
        rw [Bool.eq_iff_iff, Bool.not_eq_true', hasS_iff, hasS_no]
        show _ ↔ _
        simp only
        omega

theorem gapsOf_has (lo hi : Int) (b : List Sp) (h1 : ∀ s ∈ setOf b, lo ≤ s.1) (m : Int) (hm : lo ≤ m) (hm2 : m < hi) : hasL (gapsOf lo hi b) m = !hasL b m := by
  have h := gapTo_ok lo (setOf b) (setOf_ok b).1 h1
  unfold gapsOf
  rw [hasL_append, ← (setOf_ok b).2]
  by_cases c : m < (gapTo lo (setOf b)).2
  · rw [h.2.2 m hm c, hasL_no (l := [((gapTo lo (setOf b)).2, hi)]) |>.2 fun x hx hm => by rw [List.mem_singleton.1 hx] at hm; simp only at hm; omega, Bool.or_false]
  · rw [hasL_iff.2 ⟨_, List.mem_singleton.2 rfl, by simp only; omega⟩, Bool.or_true, hasL_no.2 fun x hx hm => by have := h.2.1 x hx; omega]
    rfl

theorem gapsOf_len (lo hi : Int) (b : List Sp) : (gapsOf lo hi b).length ≤ b.length + 1 := by
  have h := setOf_len b
  unfold gapsOf
  rw [List.length_append, gapTo_len]
  simp; omega

/-- All are numbers of 64 bits. -/
def Bd (l : List Sp) : Prop := ∀ s ∈ l, (-9223372036854775808 ≤ s.1 ∧ s.1 ≤ 9223372036854775807) ∧ (-9223372036854775808 ≤ s.2 ∧ s.2 ≤ 9223372036854775807)

theorem setOf_lo {l : List Sp} {lo : Int} (h : ∀ s ∈ l, lo ≤ s.1) : ∀ s ∈ setOf l, lo ≤ s.1 := fun s hs => by
  have h0 := setOf_ok l
  have h1 : hasL (setOf l) s.1 = true := hasL_iff.2 ⟨s, hs, by have := h0.1.right s hs; omega⟩
  rw [h0.2] at h1
  obtain ⟨t, ht, hm⟩ := hasL_iff.1 h1
  have := h t ht
  omega

/-- The set of what a has and b has not. -/
def minusOf (a b : List Sp) : List Sp := bothOf a (gapsOf (-9223372036854775808) 9223372036854775807 b)

theorem minusOf_ok {a b : List Sp} (ha : Bd a) (hb : Bd b) : IsSet (minusOf a b) ∧ ∀ m, hasL (minusOf a b) m = (hasL a m && !hasL b m) := by
  have h := bothOf_ok a (gapsOf (-9223372036854775808) 9223372036854775807 b)
  refine ⟨h.1, fun m => ?_⟩
  rw [minusOf, h.2]
  cases hm : hasL a m with
  | false => rfl
  | true =>
    obtain ⟨s, hs, h1, h2⟩ := hasL_iff.1 hm
    have := ha s hs
    rw [gapsOf_has _ _ _ (setOf_lo fun t ht => (hb t ht).1.1) m (by omega) (by omega)]

theorem minusOf_len (a b : List Sp) : (minusOf a b).length ≤ a.length + b.length + 1 := by
  have h := bothOf_len a (gapsOf (-9223372036854775808) 9223372036854775807 b)
  have h2 := gapsOf_len (-9223372036854775808) 9223372036854775807 b
  unfold minusOf
  omega

/-- What both have, and what one has alone, are together that one. -/
theorem parts {a b : List Sp} (ha : Bd a) (hb : Bd b) : setOf (bothOf a b ++ minusOf a b) = setOf a :=
  setOf_congr fun m => by
    rw [hasL_append, (bothOf_ok a b).2, (minusOf_ok ha hb).2]
    cases hasL a m <;> cases hasL b m <;> rfl

theorem minus_self {a : List Sp} (ha : Bd a) : minusOf a a = [] :=
  no_minutes (minusOf_ok ha ha).1 fun m => by rw [(minusOf_ok ha ha).2]; cases hasL a m <;> rfl

theorem both_self (a : List Sp) : bothOf a a = setOf a :=
  set_is (bothOf_ok a a).1 fun m => by rw [(bothOf_ok a a).2]; cases hasL a m <;> rfl

/-- The next minute: one span more. -/
def next1 (m : Int) (acc : Int × Bool) (s : Sp) : Int × Bool :=
  if s.1 < s.2 ∧ m < s.2 then
    (if acc.2 = false ∨ (if s.1 < m then m else s.1) < acc.1 then ((if s.1 < m then m else s.1), true) else acc)
  else acc

def nextL (l : List Sp) (m : Int) : Int × Bool := l.foldl (next1 m) (0, false)

end Go.Proofs.Ytlbafgdbemhanaa

/- The reference's way to the set of a list: from one begin to the next, as far as the minutes go on. Conditions: none beyond each lemma's own premises. -/
namespace Go.Proofs.Ytlbafgdbemhanaa

/-- May a span be the next one behind those that are there? -/
def elig (out : List Sp) (s : Sp) : Bool := decide (s.1 < s.2) && (match out.getLast? with | none => true | some t => decide (t.2 < s.1))

def best1 (out : List Sp) (acc : Sp × Bool) (s : Sp) : Sp × Bool := if elig out s = true then (if acc.2 = false ∨ s.1 < acc.1.1 then (s, true) else acc) else acc

def bestOf (out l : List Sp) : Sp × Bool := l.foldl (best1 out) ((0, 0), false)

theorem best_from (out : List Sp) : ∀ (l : List Sp) (acc : Sp × Bool),
    ((l.foldl (best1 out) acc).2 = false → acc.2 = false ∧ ∀ s ∈ l, elig out s = false) ∧
    ((l.foldl (best1 out) acc).2 = true → ((acc.2 = true ∧ (l.foldl (best1 out) acc).1 = acc.1) ∨ ((l.foldl (best1 out) acc).1 ∈ l ∧ elig out (l.foldl (best1 out) acc).1 = true)) ∧
      (acc.2 = true → (l.foldl (best1 out) acc).1.1 ≤ acc.1.1) ∧ ∀ s ∈ l, elig out s = true → (l.foldl (best1 out) acc).1.1 ≤ s.1)
  | [], acc => ⟨fun h => ⟨h, by simp⟩, fun h => ⟨Or.inl ⟨h, rfl⟩, fun _ => Int.le_refl _, by simp⟩⟩
  | s :: l, acc => by
    have ih := best_from out l (best1 out acc s)
    rw [List.foldl_cons]
    by_cases he : elig out s = true
    · by_cases hc : acc.2 = false ∨ s.1 < acc.1.1
      · have e : best1 out acc s = (s, true) := by unfold best1; rw [if_pos he, if_pos hc]
        rw [e] at ih ⊢
        refine ⟨fun h => absurd (ih.1 h).1 (by simp), fun h => ?_⟩
        have i2 := ih.2 h
        have i3 := i2.2.1 rfl
        simp only at i3
        refine ⟨Or.inr ?_, fun ha => ?_, fun u hu hue => ?_⟩
        · rcases i2.1 with ⟨_, h2⟩ | ⟨h2, h3⟩
          · rw [h2]; exact ⟨List.mem_cons_self .., he⟩
          · exact ⟨List.mem_cons_of_mem _ h2, h3⟩
        · rcases hc with hc | hc
          · rw [hc] at ha; cases ha
          · omega
        · rcases List.mem_cons.1 hu with rfl | hu
          · exact i3
          · exact i2.2.2 u hu hue
      · have e : best1 out acc s = acc := by unfold best1; rw [if_pos he, if_neg hc]
        rw [e] at ih ⊢
        have ha : acc.2 = true := by cases h : acc.2 <;> simp_all
        have hs : acc.1.1 ≤ s.1 := by
          rcases Int.lt_or_le s.1 acc.1.1 with h | h
          · exact absurd (Or.inr h) hc
          · exact h
        refine ⟨fun h => absurd (ih.1 h).1 (by simp [ha]), fun h => ?_⟩
        have i2 := ih.2 h
        refine ⟨?_, i2.2.1, fun u hu hue => ?_⟩
        · rcases i2.1 with h2 | ⟨h2, h3⟩
          · exact Or.inl h2
          · exact Or.inr ⟨List.mem_cons_of_mem _ h2, h3⟩
        · rcases List.mem_cons.1 hu with rfl | hu
          · have := i2.2.1 ha; omega
          · exact i2.2.2 u hu hue
    · have e : best1 out acc s = acc := by unfold best1; rw [if_neg he]
      have he' : elig out s = false := by cases h : elig out s <;> simp_all
      rw [e] at ih ⊢
      refine ⟨fun h => ⟨(ih.1 h).1, fun u hu => ?_⟩, fun h => ?_⟩
      · rcases List.mem_cons.1 hu with rfl | hu
        · exact he'
        · exact (ih.1 h).2 u hu
      · have i2 := ih.2 h
        refine ⟨?_, i2.2.1, fun u hu hue => ?_⟩
        · rcases i2.1 with h2 | ⟨h2, h3⟩
          · exact Or.inl h2
          · exact Or.inr ⟨List.mem_cons_of_mem _ h2, h3⟩
        · rcases List.mem_cons.1 hu with rfl | hu
          · rw [he'] at hue; cases hue
          · exact i2.2.2 u hu hue

/-- As far as one span goes on. -/
def grow1 (b s : Sp) : Sp := if s.1 < s.2 ∧ s.1 ≤ b.2 ∧ b.2 < s.2 then (b.1, s.2) else b

def growP (l : List Sp) (b : Sp) : Sp := l.foldl grow1 b

def growN (l : List Sp) : Nat → Sp → Sp
  | 0, b => b
  | n + 1, b => growP l (growN l n b)

/-- Nothing goes on behind it. -/
def Still (l : List Sp) (b : Sp) : Prop := ∀ s ∈ l, s.1 < s.2 → s.1 ≤ b.2 → s.2 ≤ b.2

def beyond (l : List Sp) (x : Int) : Nat := l.countP fun s => decide (x < s.2)

theorem beyond_mono (l : List Sp) {x y : Int} (h : x ≤ y) : beyond l y ≤ beyond l x :=
  List.countP_mono_left fun s _ hs => by simp at *; omega

theorem beyond_lt {l : List Sp} {x y : Int} (h : x < y) (hs : ∃ s ∈ l, s.2 = y) : beyond l y < beyond l x := by
  induction l with
  | nil => obtain ⟨s, hs, _⟩ := hs; cases hs
  | cons t l ih =>
    unfold beyond at *
    rw [List.countP_cons, List.countP_cons]
    have hm : List.countP (fun s : Sp => decide (y < s.2)) l ≤ List.countP (fun s : Sp => decide (x < s.2)) l := beyond_mono l (Int.le_of_lt h)
    obtain ⟨s, hs, he⟩ := hs
    rcases List.mem_cons.1 hs with rfl | hs
    · have e1 : decide (y < s.2) = false := by simp; omega
      have e2 : decide (x < s.2) = true := by simp; omega
      rw [if_neg (by rw [e1]; simp), if_pos e2]
      omega
    · have := ih ⟨s, hs, he⟩
      by_cases c : y < t.2
      · rw [if_pos (by simpa using c), if_pos (by simp; omega)]; omega
      · rw [if_neg (by simpa using c)]; split <;> omega

theorem growP_from (L : List Sp) : ∀ (l : List Sp) (b : Sp), (∀ s ∈ l, s ∈ L) →
    (l.foldl grow1 b).1 = b.1 ∧ b.2 ≤ (l.foldl grow1 b).2 ∧ ((∀ m, b.1 ≤ m → m < b.2 → hasL L m = true) → ∀ m, b.1 ≤ m → m < (l.foldl grow1 b).2 → hasL L m = true) ∧
    (((l.foldl grow1 b).2 = b.2 ∧ ∀ s ∈ l, s.1 < s.2 → s.1 ≤ b.2 → s.2 ≤ b.2) ∨ (b.2 < (l.foldl grow1 b).2 ∧ ∃ s ∈ L, s.2 = (l.foldl grow1 b).2))
  | [], b, _ => ⟨rfl, Int.le_refl _, fun h => h, Or.inl ⟨rfl, by simp⟩⟩
  | s :: l, b, hl => by
    rw [List.foldl_cons]
    have ih := growP_from L l (grow1 b s) fun u hu => hl u (List.mem_cons_of_mem _ hu)
    by_cases hc : s.1 < s.2 ∧ s.1 ≤ b.2 ∧ b.2 < s.2
    · have e : grow1 b s = (b.1, s.2) := by unfold grow1; rw [if_pos hc]
      rw [e] at ih ⊢
      simp only at ih
      refine ⟨ih.1, by omega, fun h m h1 h2 => ?_, Or.inr ⟨by omega, ?_⟩⟩
      · refine ih.2.2.1 (fun m h1 h2 => ?_) m h1 h2
        by_cases c : m < b.2
        · exact h m h1 c
        · exact hasL_iff.2 ⟨s, hl s (List.mem_cons_self ..), by omega⟩
      · rcases ih.2.2.2 with h | h
        · rw [h.1]; exact ⟨s, hl s (List.mem_cons_self ..), rfl⟩
        · exact h.2
    · have e : grow1 b s = b := by unfold grow1; rw [if_neg hc]
      rw [e] at ih ⊢
      refine ⟨ih.1, ih.2.1, ih.2.2.1, ?_⟩
      rcases ih.2.2.2 with h | h
      · refine Or.inl ⟨h.1, fun u hu h1 h2 => ?_⟩
        rcases List.mem_cons.1 hu with rfl | hu
        · omega
        · exact h.2 u hu h1 h2
      · exact Or.inr h

theorem growN_ok (l : List Sp) (b : Sp) (hb : ∀ m, b.1 ≤ m → m < b.2 → hasL l m = true) : ∀ n,
    (growN l n b).1 = b.1 ∧ b.2 ≤ (growN l n b).2 ∧ (∀ m, b.1 ≤ m → m < (growN l n b).2 → hasL l m = true) ∧ (Still l (growN l n b) ∨ beyond l (growN l n b).2 + n ≤ l.length)
  | 0 => ⟨rfl, Int.le_refl _, hb, Or.inr (List.countP_le_length ..)⟩
  | n + 1 => by
    have ih := growN_ok l b hb n
    have g := growP_from l l (growN l n b) (fun _ h => h)
    refine ⟨g.1.trans ih.1, Int.le_trans ih.2.1 g.2.1, fun m h1 h2 => g.2.2.1 (fun m h1 h2 => ih.2.2.1 m (by rw [ih.1] at h1; exact h1) h2) m (by rw [ih.1]; exact h1) h2, ?_⟩
    rcases g.2.2.2 with h | h
    · refine Or.inl fun s hs h1 h2 => ?_
      show s.2 ≤ (l.foldl grow1 (growN l n b)).2
      rw [h.1]
      have h2 : s.1 ≤ (l.foldl grow1 (growN l n b)).2 := h2
      rw [h.1] at h2
      exact h.2 s hs h1 h2
    · rcases ih.2.2.2 with hs | hn
      · obtain ⟨h3, s, hs', he⟩ := h
        exfalso
        have key : ∀ (l' : List Sp) (b : Sp), (∀ s ∈ l', s.1 < s.2 → s.1 ≤ b.2 → s.2 ≤ b.2) → l'.foldl grow1 b = b := by
          intro l'
          induction l' with
          | nil => intro b _; rfl
          | cons u l' ih =>
            intro b h
            have e : grow1 b u = b := by
              unfold grow1
              rw [if_neg fun hc => by have := h u (List.mem_cons_self ..) hc.1 hc.2.1; omega]
            rw [List.foldl_cons, e]
            exact ih b fun v hv => h v (List.mem_cons_of_mem _ hv)
        rw [key l _ hs] at h3
        omega
      · refine Or.inr ?_
        have := beyond_lt h.1 h.2
        show beyond l (l.foldl grow1 (growN l n b)).2 + (n + 1) ≤ l.length
        omega

theorem growN_still (l : List Sp) (b : Sp) (hb : ∀ m, b.1 ≤ m → m < b.2 → hasL l m = true) : Still l (growN l (l.length + 1) b) := by
  rcases (growN_ok l b hb (l.length + 1)).2.2.2 with h | h
  · exact h
  · omega

/-- What the reference's rounds keep. -/
structure RInv (l out : List Sp) : Prop where
  set : IsSet out
  count : out.length + l.countP (elig out) ≤ l.length
  upto : ∀ t, out.getLast? = some t → (∀ m, m ≤ t.2 → hasL out m = hasL l m) ∧ Still l t

theorem RInv.start (l : List Sp) : RInv l [] := ⟨IsSet.nil, by simpa using List.countP_le_length, by simp⟩

theorem elig_nil (s : Sp) : elig [] s = decide (s.1 < s.2) := by simp [elig]

theorem elig_snoc (out : List Sp) (t s : Sp) : elig (out ++ [t]) s = (decide (s.1 < s.2) && decide (t.2 < s.1)) := by simp [elig]

theorem elig_last {out : List Sp} {s : Sp} (h : elig out s = true) : s.1 < s.2 ∧ ∀ t, out.getLast? = some t → t.2 < s.1 := by
  unfold elig at h
  rw [Bool.and_eq_true] at h
  refine ⟨by simpa using h.1, fun t ht => ?_⟩
  have := h.2
  rw [ht] at this
  simpa using this

theorem elig_no {out : List Sp} {s : Sp} (h : elig out s = false) (hs : s.1 < s.2) : ∃ t, out.getLast? = some t ∧ s.1 ≤ t.2 := by
  cases hl : out.getLast? with
  | none => simp [elig, hl, hs] at h
  | some t => simp [elig, hl, hs] at h; exact ⟨t, rfl, h⟩

theorem RInv.done {l out : List Sp} (h : RInv l out) (hb : (bestOf out l).2 = false) : out = setOf l := by
  have hn := ((best_from out l ((0, 0), false)).1 hb).2
  refine set_is h.set fun m => ?_
  rcases List.eq_nil_or_concat out with rfl | ⟨o, t, rfl⟩
  · refine (hasL_no.2 (by simp)).trans (hasL_no.2 fun s hs hm => ?_).symm
    obtain ⟨t, ht, _⟩ := elig_no (hn s hs) (by omega)
    cases ht
  · rw [List.concat_eq_append] at *
    have hu := h.upto t (by simp)
    by_cases c : m ≤ t.2
    · exact hu.1 m c
    · refine (hasL_no.2 fun s hs hm => ?_).trans (hasL_no.2 fun s hs hm => ?_).symm
      · rcases List.mem_append.1 hs with hs | hs
        · have := h.set.init.2.2 s hs
          have := h.set.init.2.1
          omega
        · rw [List.mem_singleton.1 hs] at hm; omega
      · obtain ⟨t', ht, h1⟩ := elig_no (hn s hs) (by omega)
        have e : t' = t := by simpa using ht.symm
        subst e
        have := hu.2 s hs (by omega) h1
        omega

theorem countP_lt {p q : Sp → Bool} {l : List Sp} (h : ∀ s ∈ l, q s = true → p s = true) {x : Sp} (hx : x ∈ l) (h1 : p x = true) (h2 : q x = false) : l.countP q < l.countP p := by
  induction l with
  | nil => cases hx
  | cons t l ih =>
    rw [List.countP_cons, List.countP_cons]
    have hm : l.countP q ≤ l.countP p := List.countP_mono_left fun s hs => h s (List.mem_cons_of_mem _ hs)
    rcases List.mem_cons.1 hx with rfl | hx
    · rw [if_neg (by rw [h2]; simp), if_pos h1]; omega
    · have := ih (fun s hs => h s (List.mem_cons_of_mem _ hs)) hx
      by_cases c : q t = true
      · rw [if_pos c, if_pos (h t (List.mem_cons_self ..) c)]; omega
      · rw [if_neg c]; split <;> omega

theorem RInv.step {l out : List Sp} (h : RInv l out) (hb : (bestOf out l).2 = true) :
    RInv l (out ++ [growN l (l.length + 1) (bestOf out l).1]) ∧ l.countP (elig (out ++ [growN l (l.length + 1) (bestOf out l).1])) < l.countP (elig out) := by
  have hbf := (best_from out l ((0, 0), false)).2 hb
  obtain ⟨hmem, hel⟩ : (bestOf out l).1 ∈ l ∧ elig out (bestOf out l).1 = true := by
    rcases hbf.1 with ⟨h0, _⟩ | h1
    · cases h0
    · exact h1
  have hleast := hbf.2.2
  change ∀ s ∈ l, elig out s = true → (bestOf out l).1.1 ≤ s.1 at hleast
  generalize (bestOf out l).1 = b at *
  have hr := elig_last hel
  have hbm : ∀ m, b.1 ≤ m → m < b.2 → hasL l m = true := fun m h1 h2 => hasL_iff.2 ⟨b, hmem, h1, h2⟩
  have hg := growN_ok l b hbm (l.length + 1)
  have hst := growN_still l b hbm
  generalize growN l (l.length + 1) b = g at *
  have hlt : ∀ t ∈ out, t.2 < g.1 := fun t ht => by
    rcases List.eq_nil_or_concat out with rfl | ⟨o, u, rfl⟩
    · cases ht
    · rw [List.concat_eq_append] at *
      have hu := hr.2 u (by simp)
      rw [hg.1]
      rcases List.mem_append.1 ht with ht | ht
      · have h1 := h.set.init.2.2 t ht
        have h2 := h.set.init.2.1
        omega
      · rw [List.mem_singleton.1 ht]; exact hu
  have hle : ∀ s, elig (out ++ [g]) s = true → elig out s = true := fun s hs => by
    rw [elig_snoc, Bool.and_eq_true] at hs
    have h1 : s.1 < s.2 := by simpa using hs.1
    have h2 : g.2 < s.1 := by simpa using hs.2
    unfold elig
    rw [Bool.and_eq_true]
    refine ⟨by simpa using h1, ?_⟩
    cases hl : out.getLast? with
    | none => rfl
    | some t =>
      have := hlt t (List.mem_of_getLast? hl)
      simp
      omega
  have hcnt : l.countP (elig (out ++ [g])) < l.countP (elig out) :=
    countP_lt (fun s _ => hle s) hmem hel (by rw [elig_snoc]; simp; intro _; omega)
  refine ⟨⟨h.set.snoc (by omega) hlt, ?_, fun t ht => ?_⟩, hcnt⟩
  · have := h.count
    rw [List.length_append, List.length_singleton]
    omega
  · have e : t = g := by simpa using ht.symm
    subst e
    refine ⟨fun m hm => ?_, hst⟩
    rw [hasL_append]
    by_cases c1 : t.1 ≤ m
    · by_cases c2 : m < t.2
      · rw [hasL_iff (l := [t]) |>.2 ⟨t, by simp, c1, c2⟩, Bool.or_true, hg.2.2.1 m (by omega) c2]
      · have em : m = t.2 := by omega
        rw [hasL_no (l := [t]) |>.2 fun x hx hxm => by rw [List.mem_singleton.1 hx] at hxm; omega, Bool.or_false]
        refine (hasL_no.2 fun x hx hxm => ?_).trans (hasL_no.2 fun x hx hxm => ?_).symm
        · have := hlt x hx; omega
        · have := hst x hx (by omega) (by omega); omega
    · rw [hasL_no (l := [t]) |>.2 fun x hx hxm => by rw [List.mem_singleton.1 hx] at hxm; omega, Bool.or_false]
      rcases List.eq_nil_or_concat out with rfl | ⟨o, u, rfl⟩
      · refine (hasL_no.2 (by simp)).trans (hasL_no.2 fun x hx hxm => ?_).symm
        have := hleast x hx (by rw [elig_nil]; exact decide_eq_true (by omega))
        omega
      · rw [List.concat_eq_append] at *
        have hu := h.upto u (by simp)
        by_cases c3 : m ≤ u.2
        · exact hu.1 m c3
        · refine (hasL_no.2 fun x hx hxm => ?_).trans (hasL_no.2 fun x hx hxm => ?_).symm
          · rcases List.mem_append.1 hx with hx | hx
            · have h1 := h.set.init.2.2 x hx
              have h2 := h.set.init.2.1
              omega
            · rw [List.mem_singleton.1 hx] at hxm; omega
          · by_cases c4 : x.1 ≤ u.2
            · have := hu.2 x hx (by omega) c4; omega
            · have := hleast x hx (by rw [elig_snoc, decide_eq_true (show x.1 < x.2 by omega), decide_eq_true (show u.2 < x.1 by omega)]; rfl)
              omega

theorem RInv.len {l out : List Sp} (h : RInv l out) : out.length ≤ l.length := by have := h.count; omega

/-- Prefixes, one more. -/
theorem take_more {α : Type} [Inhabited α] (l : List α) (d : α) (k : Nat) (h : k < l.length) : l.take (k + 1) = l.take k ++ [l.getD k d] := by
  rw [List.take_succ_eq_append_getElem h]; simp [List.getD, h]

theorem best_more (out l : List Sp) (k : Nat) (h : k < l.length) : (l.take (k + 1)).foldl (best1 out) ((0, 0), false) = best1 out ((l.take k).foldl (best1 out) ((0, 0), false)) (l.getD k (0, 0)) := by
  rw [take_more l (0, 0) k h, List.foldl_append]; rfl

theorem grow_more (l : List Sp) (b : Sp) (k : Nat) (h : k < l.length) : (l.take (k + 1)).foldl grow1 b = grow1 ((l.take k).foldl grow1 b) (l.getD k (0, 0)) := by
  rw [take_more l (0, 0) k h, List.foldl_append]; rfl

theorem next_more (l : List Sp) (m : Int) (k : Nat) (h : k < l.length) : (l.take (k + 1)).foldl (next1 m) (0, false) = next1 m ((l.take k).foldl (next1 m) (0, false)) (l.getD k (0, 0)) := by
  rw [take_more l (0, 0) k h, List.foldl_append]; rfl

theorem put_more (l set : List Sp) (k : Nat) (h : k < l.length) : (l.take (k + 1)).foldl put1 set = put1 ((l.take k).foldl put1 set) (l.getD k (0, 0)) := by
  rw [take_more l (0, 0) k h, List.foldl_append]; rfl

theorem only_more (l : List Sp) (k : Nat) (h : k < l.length) : onlyR (l.take (k + 1)) = onlyR (l.take k) ++ if (l.getD k (0, 0)).1 < (l.getD k (0, 0)).2 then [l.getD k (0, 0)] else [] := by
  rw [take_more l (0, 0) k h]
  unfold onlyR
  rw [List.filter_append]
  congr 1
  simp [List.filter_cons]

theorem gap_more (lo : Int) (l : List Sp) (k : Nat) (h : k < l.length) : gapTo lo (l.take (k + 1)) = gap1 (gapTo lo (l.take k)) (l.getD k (0, 0)) := by
  rw [take_more l (0, 0) k h, gapTo_snoc]

theorem getD_mem {l : List Sp} {k : Nat} (h : k < l.length) : l.getD k (0, 0) ∈ l := by
  simp [List.getD, h]

theorem hasL_of (l : List Sp) (m : Int) (k : Nat) (h : k < l.length) (hm : (l.getD k (0, 0)).1 ≤ m ∧ m < (l.getD k (0, 0)).2) : hasL l m = true :=
  hasL_iff.2 ⟨_, getD_mem h, hm⟩

theorem hasL_not (l : List Sp) (m : Int) (k : Nat) (h : k < l.length) (hm : ¬ ((l.getD k (0, 0)).1 ≤ m ∧ m < (l.getD k (0, 0)).2)) (hn : ∀ s ∈ l.take k, ¬ (s.1 ≤ m ∧ m < s.2)) :
    ∀ s ∈ l.take (k + 1), ¬ (s.1 ≤ m ∧ m < s.2) := by
  rw [take_more l (0, 0) k h]
  intro s hs
  rcases List.mem_append.1 hs with hs | hs
  · exact hn s hs
  · rw [List.mem_singleton.1 hs]; exact hm

theorem best_skip {out : List Sp} {acc : Sp × Bool} {s : Sp} (h : elig out s = false) : best1 out acc s = acc := by unfold best1; rw [if_neg (by rw [h]; simp)]

theorem best_take {out : List Sp} {acc : Sp × Bool} {s : Sp} (h : elig out s = true) (h2 : acc.2 = false ∨ s.1 < acc.1.1) : best1 out acc s = (s, true) := by unfold best1; rw [if_pos h, if_pos h2]

theorem best_leave {out : List Sp} {acc : Sp × Bool} {s : Sp} (h : elig out s = true) (h2 : ¬ (acc.2 = false ∨ s.1 < acc.1.1)) : best1 out acc s = acc := by unfold best1; rw [if_pos h, if_neg h2]

theorem elig_wrong {out : List Sp} {s : Sp} (h : ¬ s.1 < s.2) : elig out s = false := by unfold elig; rw [decide_eq_false h]; rfl

theorem elig_first {out : List Sp} {s : Sp} (hn : out.length = 0) (h : s.1 < s.2) : elig out s = true := by
  obtain rfl := List.eq_nil_of_length_eq_zero hn
  rw [elig_nil]; exact decide_eq_true h

theorem elig_at {out : List Sp} {s : Sp} {j : Nat} {t1 t2 : Int} (hn : out.length = j + 1) (ht : out.getD j (0, 0) = (t1, t2)) (h : s.1 < s.2) : elig out s = decide (t2 < s.1) := by
  rcases List.eq_nil_or_concat out with rfl | ⟨o, t, rfl⟩
  · simp at hn
  · rw [List.concat_eq_append] at *
    rw [elig_snoc, decide_eq_true h, Bool.true_and]
    have hj : o.length = j := by simpa using hn
    subst hj
    have e : t = (t1, t2) := by simpa [List.getD] using ht
    rw [e]

theorem grow_skip {b s : Sp} (h : ¬ (s.1 < s.2 ∧ s.1 ≤ b.2 ∧ b.2 < s.2)) : grow1 b s = b := by unfold grow1; rw [if_neg h]

theorem grow_take {b s : Sp} (h : s.1 < s.2 ∧ s.1 ≤ b.2 ∧ b.2 < s.2) : grow1 b s = (b.1, s.2) := by unfold grow1; rw [if_pos h]

end Go.Proofs.Ytlbafgdbemhanaa

/- A slice of spans that reads as a list, for any program. Conditions: none beyond each lemma's own premises. -/
namespace Go.Proofs.Ytlbafgdbemhanaa
open Go.RowKit

/-- At the address A the spans of l lie one behind the other, in a block of w (of no span nothing is asked). -/
def RdS (w : World) (A : Option Addr) (l : List Sp) : Prop :=
  l ≠ [] → ∃ b off, A = some ⟨b, off, none⟩ ∧ b < w.heap.size ∧ ∀ k, k < l.length →
    w.cell? ⟨b, off + k * 2, none⟩ = some (.int .i64 (l.getD k (0, 0)).1) ∧ w.cell? ⟨b, off + k * 2 + 1, none⟩ = some (.int .i64 (l.getD k (0, 0)).2)

theorem RdS.nil (w : World) (A : Option Addr) : RdS w A [] := fun h => absurd rfl h

theorem ne_nil_of_lt {l : List Sp} {k : Nat} (h : k < l.length) : l ≠ [] := by
  intro e; subst e; cases h

theorem RdS.at_ {w : World} {A : Option Addr} {l : List Sp} (h : RdS w A l) {k : Nat} (hk : k < l.length) : ∃ b off x y, A = some ⟨b, off, none⟩ ∧ b < w.heap.size ∧
    w.cell? ⟨b, off + k * 2, none⟩ = some (.int .i64 x) ∧ w.cell? ⟨b, off + k * 2 + 1, none⟩ = some (.int .i64 y) ∧ Hid (l.getD k (0, 0) = (x, y)) := by
  obtain ⟨b, off, hA, hb, hc⟩ := h (ne_nil_of_lt hk)
  exact ⟨b, off, _, _, hA, hb, (hc k hk).1, (hc k hk).2, Lib.hid rfl⟩

theorem RdS.keep {w w' : World} {A : Option Addr} {l : List Sp} (h : RdS w A l) (hs : w.heap.size ≤ w'.heap.size) (hc : ∀ p : Addr, p.block < w.heap.size → w'.cell? p = w.cell? p) : RdS w' A l := fun hl => by
  obtain ⟨b, off, hA, hb, hk⟩ := h hl
  exact ⟨b, off, hA, by omega, fun k hk' => ⟨by rw [hc _ hb]; exact (hk k hk').1, by rw [hc _ hb]; exact (hk k hk').2⟩⟩

theorem RdS.below {w w' : World} {A : Option Addr} {l : List Sp} (h : RdS w A l) (hb : Below w.heap.size w w') : RdS w' A l :=
  h.keep hb.size fun _ hp => hb.cell hp

end Go.Proofs.Ytlbafgdbemhanaa

/- A slice of spans that the call itself has made, and what it holds. Conditions: none beyond each lemma's own premises. -/
namespace Go.Proofs.Ytlbafgdbemhanaa
open Go.RowKit

def lenOf (v : Value) : Nat := match v with | .slice _ n _ => n | _ => 0

theorem lenOf_slice (A : Option Addr) (n c : Nat) : lenOf (.slice A n c) = n := rfl

/-- The cells of spans that lie one behind the other. -/
def flat (l : List Sp) : List Value := l.flatMap fun s => [.int .i64 s.1, .int .i64 s.2]

theorem flat_cons (s : Sp) (l : List Sp) : flat (s :: l) = .int .i64 s.1 :: .int .i64 s.2 :: flat l := rfl

theorem flat_append (a b : List Sp) : flat (a ++ b) = flat a ++ flat b := by simp [flat]

theorem flat_len (l : List Sp) : (flat l).length = l.length * 2 := by
  induction l with
  | nil => rfl
  | cons s l ih => rw [flat_cons, List.length_cons, List.length_cons, ih, List.length_cons]; omega

theorem flat_get : ∀ (l : List Sp) (k : Nat), k < l.length → (flat l)[k * 2]? = some (.int .i64 (l.getD k (0, 0)).1) ∧ (flat l)[k * 2 + 1]? = some (.int .i64 (l.getD k (0, 0)).2)
  | s :: l, 0, _ => by simp [flat_cons]
  | s :: l, k + 1, h => by
    have ih := flat_get l k (by simpa using h)
    have e : (k + 1) * 2 = k * 2 + 1 + 1 := by omega
    rw [e, flat_cons]
    simpa using ih

theorem flat_one {l : List Sp} {u : Value} (h : u ∈ flat l) : u.oneCell' = true := by
  obtain ⟨s, _, hs⟩ := List.mem_flatMap.1 h
  simp at hs
  rcases hs with rfl | rfl <;> rfl

theorem flat_set (a : List Sp) (x y z : Int) : (flat (a ++ [(x, y)])).set (a.length * 2 + 1) (.int .i64 z) = flat (a ++ [(x, z)]) := by
  rw [flat_append, flat_append, List.set_append_right _ _ (by rw [flat_len]; omega), flat_len]
  have e : a.length * 2 + 1 - a.length * 2 = 1 := by omega
  rw [e]
  rfl

/-- The slice is the call's own (its block's number is base or more) and holds l. -/
def Own (base : Nat) (w : World) (v : Value) (l : List Sp) : Prop := w.ownsRow base 84 2 v l.length (flat l)

theorem Own.nil (base : Nat) (w : World) : Own base w (.slice none 0 0) [] := World.ownsRow_nil w base _ 2

theorem Own.form {base : Nat} {w : World} {v : Value} {l : List Sp} (h : Own base w v l) :
    ∃ A c, v = .slice A l.length c ∧ RdS w A l ∧ l.length ≤ c ∧ c ≤ maxLen := by
  have h0 := h
  rcases h.2 with ⟨rfl, hn⟩ | ⟨g, cap, cur, rfl, hb, hg, h1, h2, h3, h4⟩
  · obtain rfl : l = [] := List.eq_nil_of_length_eq_zero hn
    exact ⟨none, 0, rfl, RdS.nil _ _, Nat.le_refl _, Nat.zero_le _⟩
  · refine ⟨some ⟨g, 0, none⟩, cap, rfl, fun _ => ⟨g, 0, rfl, (h.lt g rfl).2, fun k hk => ?_⟩, h1, h2⟩
    have hf := flat_get l k hk
    rw [Nat.zero_add, World.ownsRow.cellAt h0 (k * 2) (by omega), World.ownsRow.cellAt h0 (k * 2 + 1) (by omega)]
    exact hf

theorem Own.below {base : Nat} {w w' : World} {v : Value} {l : List Sp} (h : Own base w v l) (hb : Below w.heap.size w w') : Own base w' v l := by
  refine ⟨h.1, ?_⟩
  rcases h.2 with h2 | ⟨g, cap, cur, hv, hg, hh, r⟩
  · exact Or.inl h2
  · refine Or.inr ⟨g, cap, cur, hv, hg, ?_, r⟩
    have hlt : g < w.heap.size := by
      rcases Nat.lt_or_ge g w.heap.size with h | h
      · exact h
      · rw [Array.getElem?_eq_none h] at hh; cases hh
    rw [hb.block g hlt]; exact hh

theorem Own.more {base base' : Nat} {w : World} {v : Value} {l : List Sp} (h : Own base w v l) (hb : base' ≤ base) : Own base' w v l := by
  refine ⟨h.1, ?_⟩
  rcases h.2 with h2 | ⟨g, cap, cur, hv, hg, hh, r⟩
  · exact Or.inl h2
  · exact Or.inr ⟨g, cap, cur, hv, Nat.le_trans hb hg, hh, r⟩

theorem Own.alloc {base : Nat} {w : World} {v : Value} {l : List Sp} (h : Own base w v l) (o : Obj) : Own base (w.alloc o) v l := World.ownsRow.alloc h o

/-- A store elsewhere. -/
theorem Own.other {base : Nat} {w : World} {v : Value} {l : List Sp} (h : Own base w v l) {a : Addr} (ha : v.ownBlock ≠ some a.block) (u : Value) : Own base (w.setCell a u) v l := by
  refine ⟨h.1, ?_⟩
  rcases h.2 with h2 | ⟨g, cap, cur, hv, hg, hh, r⟩
  · exact Or.inl h2
  · refine Or.inr ⟨g, cap, cur, hv, hg, ?_, r⟩
    rw [Below.heap_setCell w a u g (by rintro rfl; exact ha (by rw [hv]; rfl))]
    exact hh

/-- It does not lie in a block that came behind it. -/
theorem Own.notNew {base : Nat} {w : World} {v : Value} {l : List Sp} (h : Own base w v l) {n : Nat} (hn : w.heap.size ≤ n) : v.ownBlock ≠ some n := by
  intro he
  have := (World.ownsRow.lt h n he).2
  omega

theorem info_span : (Try.prog.info? 84).map (fun i => (i.zero, i.size, i.bytes)) = some (some (.agg #[.int .i64 0, .int .i64 0]), 2, 16) := by kernel_rfl

/-- The cells of one span in a block of their own. -/
theorem one_news {w : World} {x y : Int} {t : TypeId} : ∀ j u, ([.int .i64 x, .int .i64 y] : List Value)[j]? = some u → (w.alloc (.cells #[.int .i64 x, .int .i64 y] t)).cell? ((⟨w.heap.size, 0, none⟩ : Addr).add j) = some u := by
  intro j u hj
  match j, hj with
  | 0, hj => simp at hj; subst hj; simp [Addr.add]
  | 1, hj => simp at hj; subst hj; simp [Addr.add]
  | j + 2, hj => simp at hj

theorem one_cell2 {x y : Int} : ∀ u ∈ ([.int .i64 x, .int .i64 y] : List Value), u.oneCell' = true := by
  intro u hu
  simp at hu
  rcases hu with rfl | rfl <;> rfl

/-- Behind an append of one span. -/
theorem Own.snoc {base : Nat} {w : World} {v : Value} {l : List Sp} {x y : Int} (h : w.ownsRow base 84 2 v (l.length + 1) (flat l ++ [.int .i64 x, .int .i64 y])) : Own base w v (l ++ [(x, y)]) := by
  unfold Own
  rw [flat_append, List.length_append]
  exact h

end Go.Proofs.Ytlbafgdbemhanaa

/- A slice of spans that the call itself has made: its block, a store into its last one's end. Conditions: none beyond each lemma's own premises. -/
namespace Go.Proofs.Ytlbafgdbemhanaa
open Go.RowKit

theorem own_some {base : Nat} {w : World} {b off n c : Nat} {l : List Sp} (h : Own base w (.slice (some ⟨b, off, none⟩) n c) l) : off = 0 ∧ base ≤ b ∧ ∀ j, w.frozen? ⟨b, j, none⟩ = false := by
  rcases h.2 with ⟨h', _⟩ | ⟨g, cap, cur, h', hb, hg, _⟩
  · simp at h'
  · simp only [Value.slice.injEq, Option.some.injEq, Addr.mk.injEq, and_true] at h'
    obtain ⟨⟨rfl, rfl⟩, _, rfl⟩ := h'
    exact ⟨rfl, hb, fun j => by simp [World.frozen?, hg]⟩

theorem own_joined {base : Nat} {w : World} {b n c j : Nat} {l l' : List Sp} {z : Int} (h : Own base w (.slice (some ⟨b, 0, none⟩) n c) l) (hn : l.length = n) (hl : l'.length = l.length) (hf : flat l' = (flat l).set (j * 2 + 1) (.int .i64 z)) :
    Own base (w.setCell ⟨b, j * 2 + 1, none⟩ (.int .i64 z)) (.slice (some ⟨b, 0, none⟩) n c) l' := by
  unfold Own at *
  rw [hn] at h
  have h2 := (World.ownsRow.stored h (j * 2 + 1) (.int .i64 z)).1
  rw [hl, hn, hf]
  exact h2

end Go.Proofs.Ytlbafgdbemhanaa

/- What the document's Count, Last and BreakEnd of layer 16 return. Conditions: the kinds and the rests can be read; the rests lie one behind the other. -/
namespace Go.Proofs.Ytlbafgdbemhanaa
open Go.RowKit

set_option maxRecDepth 20000 in
set_option maxHeartbeats 1000000 in
theorem count16_any (A : Option Addr) (c n : Nat) (ks : List Int) (a b lo hi : Int) (w : World) (hn : ks.length = n) (hr : RdN w A ks) (h0 : -100000 ≤ lo) (h1 : lo ≤ 100000) (h2 : -1 ≤ hi) (h3 : hi < (n : Int)) (h4 : n ≤ 100000) :
    Calls Try.prog 51 #[.slice A n c, .int .i64 a, .int .i64 b, .int .i64 lo, .int .i64 hi] w fun e w' => e = .returned (.int .i64 (cntK ks a b lo (hi + 1).toNat)) ∧ w = w' := by
  have HN := Lib.hid hn
  have HR := Lib.hid hr
  clear hn hr
  go_enter Try.func51, Try.ntmps51
  go_wp2
  go_loop [11, 12] (fun v i => ∃ (j q : Int), lo ≤ j ∧ (j ≤ hi + 1 ∨ j = lo) ∧ i = .int .i64 j ∧ v = .int .i64 q ∧ Hid (cntK ks a b lo j.toNat = q) ∧ 0 ≤ q ∧ q ≤ 200000 ∧ q ≤ j - lo) (fun _ i => (hi + 1 - intOf i).toNat)
  case atStart => exact ⟨lo, 0, Int.le_refl _, .inr rfl, rfl, rfl, Lib.hid (by
    by_cases hl : 0 ≤ lo
    · exact cnt_none (by omega)
    · rw [show lo.toNat = 0 by omega]; rfl), Int.le_refl _, by omega, by omega⟩
  case round =>
    obtain ⟨j, q, hj, hjh, rfl, rfl, HQ, hq0, hq1, hq2⟩ := hrel
    by_cases hlt : j ≤ hi
    case neg =>
      have e : cntK ks a b lo (hi + 1).toNat = q := by
        rcases hjh with hjh | hjh
        · rw [show hi + 1 = j by omega]; exact HQ.out
        · have h5 := HQ.out
          rw [hjh] at h5 hlt
          rw [← h5]
          by_cases hl : 0 ≤ lo
          · rw [cnt_none (by omega), cnt_none (by omega)]
          · rw [show (hi + 1).toNat = 0 by omega, show lo.toNat = 0 by omega]
      have HE := Lib.hid e
      clear e HQ
      go_wp2
      go_ret
      exact ⟨by rw [HE.out]; try rfl, rfl⟩
    by_cases hneg : 0 ≤ j
    case neg =>
      have d0 : decide (0 ≤ j) = false := decide_eq_false hneg
      have hq3 : q = 0 := by rw [← HQ.out, show j.toNat = 0 by omega]; rfl
      have HF : Hid (cntK ks a b lo (j + 1).toNat = q) := Lib.hid (by rw [show (j + 1).toNat = 0 by omega, hq3]; rfl)
      clear hq3 HQ
      go_wp2
      go_round
      case rel => exact ⟨j + 1, q, by omega, by omega, by go_num, rfl, HF, hq0, hq1, by omega⟩
      case measure => simp [intOf]; omega
    obtain ⟨i, rfl⟩ : ∃ i : Nat, j = (i : Int) := ⟨j.toNat, by omega⟩
    have hil : i < ks.length := by rw [HN.out]; omega
    have hin : i < n := by omega
    obtain ⟨bb, off, rfl, hbb, hcell⟩ := HR.out (nonnil hil)
    have hc0 := hcell i hil
    have hkv : ks.getD i 0 = kAt ks i := rfl
    rw [hkv] at hc0
    have HS : Hid (cntK ks a b lo ((i : Int) + 1).toNat = q + if kAt ks i = a ∨ kAt ks i = b then 1 else 0) := Lib.hid (by
      rw [show ((i : Int) + 1).toNat = i + 1 by omega, cnt_next hj]
      have := HQ.out
      rw [Int.toNat_natCast] at this
      rw [this])
    obtain ⟨kv, hkk⟩ : ∃ kv, kAt ks i = kv := ⟨_, rfl⟩
    rw [hkk] at hc0 HS
    have d0 : decide ((0 : Int) ≤ (i : Int)) = true := decide_eq_true (by omega)
    have d1 : (0 : Int) ≤ (i : Int) := by omega
    have d2 : (i : Int) < (n : Int) := by omega
    clear hcell HQ hkv hkk
    by_cases ha : kv = a
    · have e1 : (kv == a) = true := by simpa using ha
      have HF := Lib.hid (show cntK ks a b lo ((i : Int) + 1).toNat = q + 1 by rw [HS.out, if_pos (.inl ha)])
      clear ha HS
      go_wp2
      go_round
      case rel => exact ⟨(i : Int) + 1, q + 1, by omega, by omega, by go_num, by go_num, HF, by omega, by omega, by omega⟩
      case measure => simp [intOf]; omega
    · have e1 : (kv == a) = false := by simpa using ha
      by_cases hb : kv = b
      · have e2 : (kv == b) = true := by simpa using hb
        have HF := Lib.hid (show cntK ks a b lo ((i : Int) + 1).toNat = q + 1 by rw [HS.out, if_pos (.inr hb)])
        clear ha hb HS
        go_wp2
        go_round
        case rel => exact ⟨(i : Int) + 1, q + 1, by omega, by omega, by go_num, by go_num, HF, by omega, by omega, by omega⟩
        case measure => simp [intOf]; omega
      · have e2 : (kv == b) = false := by simpa using hb
        have HF := Lib.hid (show cntK ks a b lo ((i : Int) + 1).toNat = q by rw [HS.out, if_neg (fun h => h.elim ha hb), Int.add_zero])
        clear ha hb HS
        go_wp2
        go_round
        case rel => exact ⟨(i : Int) + 1, q, by omega, by omega, by go_num, rfl, HF, by omega, by omega, by omega⟩
        case measure => simp [intOf]; omega

/-- Rests that lie in a timeline. -/
def InT (L : List (Int × Int)) : Prop := ∀ q ∈ L, 0 ≤ q.1 ∧ q.1 < q.2 ∧ q.2 ≤ 40320
theorem last_more {L : List (Int × Int)} {long cut : Int} {k : Nat} {x y : Int} (hk : k < L.length) (h : L.getD k (0, 0) = (x, y)) : docLast (L.take (k + 1)) long cut = if long ≤ y - x ∧ y ≤ cut then y else docLast (L.take k) long cut := by
  have e : L[k] = (x, y) := by rw [← h]; simp [List.getD, hk]
  rw [List.take_succ_eq_append_getElem hk, last_snoc, e]
theorem brk_more {x : Nat → Int} {L : List (Int × Int)} {k : Nat} {f t : Int} (hk : k < L.length) (h : L.getD k (0, 0) = (f, t)) : docBrk x (L.take (k + 1)) = if x 1 ≤ t - f ∨ ((docBrk x (L.take k)).2 = true ∧ x 3 ≤ t - f) then (t, false) else if x 2 ≤ t - f then ((docBrk x (L.take k)).1, true) else docBrk x (L.take k) := by
  have e : L[k] = (f, t) := by rw [← h]; simp [List.getD, hk]
  rw [List.take_succ_eq_append_getElem hk, brk_snoc, e]

set_option maxRecDepth 20000 in
set_option maxHeartbeats 2000000 in
theorem last16_any (A : Option Addr) (c n : Nat) (L : List Sp) (long cut : Int) (w : World) (hn : L.length = n) (hr : RdS w A L) (hT : InT L) (h4 : n ≤ 100000) :
    Calls Try.prog 50 #[.slice A n c, .int .i64 long, .int .i64 cut] w fun e w' => e = .returned (.int .i64 (docLast L long cut)) ∧ Below w.heap.size w w' := by
  have HN := Lib.hid hn
  have HR := Lib.hid hr
  have HT := Lib.hid hT
  clear hn hr hT
  go_enter Try.func50, Try.ntmps50
  go_wp2
  go_loopw [7, 8] (fun v i wr => ∃ (k : Nat) (q : Int), k ≤ n ∧ i = .int .i64 (k : Nat) ∧ v = .int .i64 q ∧ Hid (docLast (L.take k) long cut = q) ∧ Hid (Below w.heap.size w wr)) (fun _ i _ => n - (intOf i).toNat)
  case atStart => exact ⟨0, 0, Nat.zero_le _, rfl, rfl, Lib.hid rfl, Lib.hid (Below.refl _ _)⟩
  case round =>
    obtain ⟨k, q, hk, rfl, rfl, HQ, HB⟩ := hrel
    obtain ⟨w2, rfl⟩ : ∃ w2 : World, w2 = wr := ⟨_, rfl⟩
    have hsz := HB.out.size
    by_cases hlt : k < n
    case neg =>
      obtain rfl : k = n := by omega
      have HE : Hid (docLast L long cut = q) := Lib.hid (by have := HQ.out; rwa [List.take_of_length_le (Nat.le_of_eq HN.out)] at this)
      clear HQ
      go_wp2
      go_ret
      exact ⟨by rw [HE.out]; try rfl, HB.out⟩
    have hlt' : k < L.length := by rw [HN.out]; exact hlt
    obtain ⟨b, off, x, y, rfl, hbb, hc0, hc1, hs⟩ := HR.out.at_ hlt'
    rw [← HB.out.cell (p := ⟨b, _, none⟩) hbb] at hc0 hc1
    have hxy := HT.out (x, y) (by rw [← hs.out]; exact getDs_mem hlt')
    obtain ⟨hx0, hx1, hx2⟩ := hxy
    dsimp only at hx0 hx1 hx2
    have HM := Lib.hid (last_more (long := long) (cut := cut) hlt' hs.out)
    have q0 : ∀ p : BelowOf w2, p.world.cell? ⟨b, off + k * 2, none⟩ = some (.int .i64 x) := fun p => p.cell hc0
    have q1 : ∀ p : BelowOf w2, p.world.cell? ⟨b, off + k * 2 + 1, none⟩ = some (.int .i64 y) := fun p => p.cell hc1
    have hwr : IntKind.i64.wrap (y - x) = y - x := wrap14 (y - x) (by omega) (by omega)
    rw [HQ.out] at HM
    have k0 : (0 : Int) ≤ (k : Int) := by omega
    have k1 : (k : Int) < (n : Int) := by omega
    clear HQ hs
    by_cases hl : long ≤ y - x
    case neg =>
      have e1 : decide (long ≤ y - x) = false := decide_eq_false hl
      have HF := Lib.hid (show docLast (L.take (k + 1)) long cut = q by rw [HM.out, if_neg (fun h => hl h.1)])
      clear hl HM
      go_wp2
      refine wp_region_bel (by kernel_rfl) (by kernel_rfl) ?_
      repeat (go_big_quiet_step (first | (fail)))
      refine wpQuiet_nil ?_
      refine bel_all fun wq hbq => ?_
      have HBQ := Lib.hid (HB.out.trans (hbq.mono hsz))
      clear q0 q1 hbq
      go_wp2
      go_roundw
      case rel => exact ⟨k + 1, q, by omega, by go_num, rfl, HF, HBQ⟩
      case measure => simp [intOf]; omega
    have e1 : decide (long ≤ y - x) = true := decide_eq_true hl
    by_cases hy : y ≤ cut
    case neg =>
      have e2 : decide (y ≤ cut) = false := decide_eq_false hy
      have HF := Lib.hid (show docLast (L.take (k + 1)) long cut = q by rw [HM.out, if_neg (fun h => hy h.2)])
      clear hl hy HM
      go_wp2
      refine wp_region_bel (by kernel_rfl) (by kernel_rfl) ?_
      repeat (go_big_quiet_step (first | (fail)))
      refine wpQuiet_nil ?_
      refine bel_all fun wq hbq => ?_
      have HBQ := Lib.hid (HB.out.trans (hbq.mono hsz))
      clear q0 q1 hbq
      go_wp2
      go_roundw
      case rel => exact ⟨k + 1, q, by omega, by go_num, rfl, HF, HBQ⟩
      case measure => simp [intOf]; omega
    have e2 : decide (y ≤ cut) = true := decide_eq_true hy
    have HF := Lib.hid (show docLast (L.take (k + 1)) long cut = y by rw [HM.out, if_pos ⟨hl, hy⟩])
    clear hl hy HM
    go_wp2
    refine wp_region_bel (by kernel_rfl) (by kernel_rfl) ?_
    repeat (go_big_quiet_step (first | (fail)))
    refine wpQuiet_nil ?_
    refine bel_all fun wq hbq => ?_
    have HBQ := Lib.hid (HB.out.trans (hbq.mono hsz))
    rw [← hbq.cell (p := ⟨b, _, none⟩) (show b < w2.heap.size by omega)] at hc1
    have hbw : b < wq.heap.size := by have := hbq.size; omega
    clear q0 q1 hbq
    go_wp2
    go_roundw
    case rel => exact ⟨k + 1, y, by omega, by go_num, rfl, HF, HBQ⟩
    case measure => simp [intOf]; omega

set_option maxRecDepth 20000 in
set_option maxHeartbeats 2000000 in
theorem brkend16_any (x : Nat → Int) (A : Option Addr) (c n : Nat) (L : List Sp) (w : World) (hn : L.length = n) (hr : RdS w A L) (hT : InT L) (h4 : n ≤ 100000) :
    Calls Try.prog 52 #[.agg (bk x), .slice A n c] w fun e w' => e = .returned (.int .i64 (docBrk x L).1) ∧ Below w.heap.size w w' := by
  have HN := Lib.hid hn
  have HT := Lib.hid hT
  have RB : RdI (w.alloc (.cells (bk x) 23)) w.heap.size 0 x := RdI.new x 23 rfl
  have hB0 : Below w.heap.size w (w.alloc (.cells (bk x) 23)) := b_al (Below.refl _ _) (Nat.le_refl _) _
  have HR := Lib.hid (hr.below hB0)
  clear hn hT hr
  go_enter Try.func52, Try.ntmps52
  go_wp2
  obtain ⟨w1, hw1⟩ : ∃ w1, w.alloc (.cells (bk x) 23) = w1 := ⟨_, rfl⟩
  rw [hw1] at RB hB0 HR ⊢
  clear hw1
  go_loopw [5, 6, 7] (fun v u i wr => ∃ (k : Nat) (q : Int) (f : Bool), k ≤ n ∧ i = .int .i64 (k : Nat) ∧ v = .int .i64 q ∧ u = .bool f ∧ Hid (docBrk x (L.take k) = (q, f)) ∧ Hid (Below w1.heap.size w1 wr)) (fun _ _ i _ => n - (intOf i).toNat)
  case atStart => exact ⟨0, 0, false, Nat.zero_le _, rfl, rfl, rfl, Lib.hid rfl, Lib.hid (Below.refl _ _)⟩
  case round =>
    obtain ⟨k, q, fb, hk, rfl, rfl, rfl, HQ, HB⟩ := hrel
    obtain ⟨w2, rfl⟩ : ∃ w2 : World, w2 = wr := ⟨_, rfl⟩
    have hsz := HB.out.size
    by_cases hlt : k < n
    case neg =>
      obtain rfl : k = n := by omega
      have HE : Hid (docBrk x L = (q, fb)) := Lib.hid (by have := HQ.out; rwa [List.take_of_length_le (Nat.le_of_eq HN.out)] at this)
      clear HQ
      go_wp2
      go_ret
      exact ⟨by rw [HE.out]; try rfl, b_cl hB0 (Nat.le_refl _) HB.out⟩
    have hlt' : k < L.length := by rw [HN.out]; exact hlt
    obtain ⟨b, off, f, t, rfl, hbb, hc0, hc1, hs⟩ := HR.out.at_ hlt'
    rw [← HB.out.cell (p := ⟨b, _, none⟩) hbb] at hc0 hc1
    have hxy := HT.out (f, t) (by rw [← hs.out]; exact getDs_mem hlt')
    obtain ⟨hx0, hx1, hx2⟩ := hxy
    dsimp only at hx0 hx1 hx2
    have HM := Lib.hid (brk_more (x := x) hlt' hs.out)
    have q0 : ∀ p : BelowOf w2, p.world.cell? ⟨b, off + k * 2, none⟩ = some (.int .i64 f) := fun p => p.cell hc0
    have q1 : ∀ p : BelowOf w2, p.world.cell? ⟨b, off + k * 2 + 1, none⟩ = some (.int .i64 t) := fun p => p.cell hc1
    have hwr : IntKind.i64.wrap (t - f) = t - f := wrap14 (t - f) (by omega) (by omega)
    rw [HQ.out] at HM
    dsimp only at HM
    have k0 : (0 : Int) ≤ (k : Int) := by omega
    have k1 : (k : Int) < (n : Int) := by omega
    clear HQ hs
    go_wp2
    refine wp_region_bel (by kernel_rfl) (by kernel_rfl) ?_
    repeat (go_big_quiet_step (first | (fail)))
    refine wpQuiet_nil ?_
    refine bel_all fun wq hbq => ?_
    have HBQ := Lib.hid (HB.out.trans (hbq.mono hsz))
    have RQ := (RB.below HB.out).below hbq
    rw [← hbq.cell (p := ⟨b, _, none⟩) (show b < w2.heap.size by omega)] at hc0 hc1
    have hbw : b < wq.heap.size := by have := hbq.size; omega
    have f1 : wq.cell? ⟨w.heap.size, 1, none⟩ = some (.int .i64 (x 1)) := RQ.2 1 (by omega)
    have f2 : wq.cell? ⟨w.heap.size, 2, none⟩ = some (.int .i64 (x 2)) := RQ.2 2 (by omega)
    have f3 : wq.cell? ⟨w.heap.size, 3, none⟩ = some (.int .i64 (x 3)) := RQ.2 3 (by omega)
    clear q0 q1 hbq RQ
    by_cases g1 : x 1 ≤ t - f
    case pos =>
      have e1 : decide (x 1 ≤ t - f) = true := decide_eq_true g1
      have HF := Lib.hid (show docBrk x (L.take (k + 1)) = (t, false) by rw [HM.out, if_pos (.inl g1)])
      clear g1 HM
      go_wp2
      go_roundw
      case rel => exact ⟨k + 1, t, false, by omega, by go_num, rfl, rfl, HF, HBQ⟩
      case measure => simp [intOf]; omega
    have e1 : decide (x 1 ≤ t - f) = false := decide_eq_false g1
    cases fb with
    | true =>
      by_cases g3 : x 3 ≤ t - f
      case pos =>
        have e3 : decide (x 3 ≤ t - f) = true := decide_eq_true g3
        have HF := Lib.hid (show docBrk x (L.take (k + 1)) = (t, false) by rw [HM.out, if_pos (.inr ⟨rfl, g3⟩)])
        clear g1 g3 HM
        go_wp2
        go_roundw
        case rel => exact ⟨k + 1, t, false, by omega, by go_num, rfl, rfl, HF, HBQ⟩
        case measure => simp [intOf]; omega
      have e3 : decide (x 3 ≤ t - f) = false := decide_eq_false g3
      by_cases g2 : x 2 ≤ t - f
      · have e2 : decide (x 2 ≤ t - f) = true := decide_eq_true g2
        have HF := Lib.hid (show docBrk x (L.take (k + 1)) = (q, true) by rw [HM.out, if_neg (fun h => h.elim g1 (fun h => g3 h.2)), if_pos g2])
        clear g1 g2 g3 HM
        go_wp2
        go_roundw
        case rel => exact ⟨k + 1, q, true, by omega, by go_num, rfl, rfl, HF, HBQ⟩
        case measure => simp [intOf]; omega
      · have e2 : decide (x 2 ≤ t - f) = false := decide_eq_false g2
        have HF := Lib.hid (show docBrk x (L.take (k + 1)) = (q, true) by rw [HM.out, if_neg (fun h => h.elim g1 (fun h => g3 h.2)), if_neg g2])
        clear g1 g2 g3 HM
        go_wp2
        go_roundw
        case rel => exact ⟨k + 1, q, true, by omega, by go_num, rfl, rfl, HF, HBQ⟩
        case measure => simp [intOf]; omega
    | false =>
      by_cases g2 : x 2 ≤ t - f
      · have e2 : decide (x 2 ≤ t - f) = true := decide_eq_true g2
        have HF := Lib.hid (show docBrk x (L.take (k + 1)) = (q, true) by rw [HM.out, if_neg (fun h => h.elim g1 (fun h => by cases h.1)), if_pos g2])
        clear g1 g2 HM
        go_wp2
        go_roundw
        case rel => exact ⟨k + 1, q, true, by omega, by go_num, rfl, rfl, HF, HBQ⟩
        case measure => simp [intOf]; omega
      · have e2 : decide (x 2 ≤ t - f) = false := decide_eq_false g2
        have HF := Lib.hid (show docBrk x (L.take (k + 1)) = (q, false) by rw [HM.out, if_neg (fun h => h.elim g1 (fun h => by cases h.1)), if_neg g2])
        clear g1 g2 HM
        go_wp2
        go_roundw
        case rel => exact ⟨k + 1, q, false, by omega, by go_num, rfl, rfl, HF, HBQ⟩
        case measure => simp [intOf]; omega

end Go.Proofs.Ytlbafgdbemhanaa

/- How far what the document's functions of layer 16 tell can reach. Conditions: the rests lie in a timeline. -/
namespace Go.Proofs.Ytlbafgdbemhanaa
open Go.RowKit

theorem last_bd {L : List Sp} {long cut : Int} : InT L → 0 ≤ docLast L long cut ∧ docLast L long cut ≤ 40320 := by
  refine snoc_ind16 (P := fun L => InT L → 0 ≤ docLast L long cut ∧ docLast L long cut ≤ 40320) ?_ ?_ L
  · intro _; exact ⟨Int.le_refl _, show (0 : Int) ≤ 40320 by decide⟩
  · intro L q ih h
    have := ih fun p hp => h p (by simp [hp])
    have hq := h q (by simp)
    rw [last_snoc]
    split <;> omega
theorem brk_bd {x : Nat → Int} {L : List Sp} : InT L → 0 ≤ (docBrk x L).1 ∧ (docBrk x L).1 ≤ 40320 := by
  refine snoc_ind16 (P := fun L => InT L → 0 ≤ (docBrk x L).1 ∧ (docBrk x L).1 ≤ 40320) ?_ ?_ L
  · intro _; exact ⟨Int.le_refl _, show (0 : Int) ≤ 40320 by decide⟩
  · intro L q ih h
    have := ih fun p hp => h p (by simp [hp])
    have hq := h q (by simp)
    rw [brk_snoc]
    split
    · dsimp only; omega
    · split
      · exact this
      · exact this
theorem long_bd {x : Nat → Int} {ks : List Int} {fr : Int} {L : List Sp} (h0 : 0 ≤ fr) (h1 : fr ≤ 40320) : InT L → (0 ≤ (docLongF x ks L fr).1 ∧ (docLongF x ks L fr).1 ≤ 40320) ∧ (0 ≤ (docLongF x ks L fr).2 ∧ (docLongF x ks L fr).2 ≤ L.length) := by
  refine snoc_ind16 (P := fun L => InT L → (0 ≤ (docLongF x ks L fr).1 ∧ (docLongF x ks L fr).1 ≤ 40320) ∧ (0 ≤ (docLongF x ks L fr).2 ∧ (docLongF x ks L fr).2 ≤ L.length)) ?_ ?_ L
  · intro _; exact ⟨⟨h0, h1⟩, Int.le_refl _, Int.le_refl _⟩
  · intro L q ih h
    have := ih fun p hp => h p (by simp [hp])
    have hq := h q (by simp)
    rw [long_snoc, List.length_append, List.length_singleton]
    split
    · omega
    · dsimp only; split <;> omega

theorem InT.take {L : List Sp} (h : InT L) (k : Nat) : InT (L.take k) := fun q hq => h q (List.mem_of_mem_take hq)
theorem any_more {L : List Sp} {p : Sp → Bool} {j : Nat} (hj : j < L.length) : (L.take (j + 1)).any p = ((L.take j).any p || p (L.getD j (0, 0))) := by
  rw [List.take_succ_eq_append_getElem hj, List.any_append]
  simp [List.getD, hj]
theorem any_hit {L : List Sp} {p : Sp → Bool} {j k : Nat} (hj : j < k) (hk : k ≤ L.length) (h : p (L.getD j (0, 0)) = true) : (L.take k).any p = true := by
  refine List.any_eq_true.2 ⟨L.getD j (0, 0), ?_, h⟩
  have e : (L.take k).getD j (0, 0) = L.getD j (0, 0) := by simp [List.getD, hj]
  rw [← e]
  exact getDs_mem (by rw [List.length_take]; omega)
theorem long_more {x : Nat → Int} {ks : List Int} {L : List Sp} {k : Nat} {f t fr : Int} (hk : k < L.length) (h : L.getD k (0, 0) = (f, t)) : docLongF x ks (L.take (k + 1)) fr = if t ≤ fr ∨ t - f < x 8 then docLongF x ks (L.take k) fr else (t, (docLongF x ks (L.take k) fr).2 + if x 4 < cntK ks 3 3 (docLongF x ks (L.take k) fr).1 t.toNat then 1 else 0) := by
  have e : L[k] = (f, t) := by rw [← h]; simp [List.getD, hk]
  rw [List.take_succ_eq_append_getElem hk, long_snoc, e]
theorem cntK_bd (ks : List Int) (a b lo : Int) : ∀ h : Nat, 0 ≤ cntK ks a b lo h ∧ cntK ks a b lo h ≤ (h : Int)
  | 0 => ⟨Int.le_refl _, Int.le_refl _⟩
  | h + 1 => by
    have ih := cntK_bd ks a b lo h
    rw [cnt_succ]
    split <;> omega

end Go.Proofs.Ytlbafgdbemhanaa

/- What the document's Reduced of layer 16 returns. Conditions: the rests can be read and lie in a timeline; the book may be. -/
namespace Go.Proofs.Ytlbafgdbemhanaa
open Go.RowKit

set_option maxRecDepth 20000 in
set_option maxHeartbeats 4000000 in
theorem reduced16_any (x : Nat → Int) (A : Option Addr) (c n k : Nat) (L : List Sp) (w : World) (hn : L.length = n) (hr : RdS w A L) (hT : InT L) (h4 : n ≤ 100000) (hk : k < n) (hx : May x) :
    Calls Try.prog 54 #[.agg (bk x), .slice A n c, .int .i64 (k : Nat)] w fun e w' => e = .returned (.bool (docRed x L k)) ∧ Below w.heap.size w w' := by
  have LC := fun W h => last16_any A c n L (x 8) (L.getD k (0, 0)).1 W hn h hT h4
  have LB := last_bd (long := x 8) (cut := (L.getD k (0, 0)).1) hT
  have t11 := may_time hx 11 (by omega)
  have hlt' : k < L.length := by omega
  have HN := Lib.hid hn
  have HT := Lib.hid hT
  have RB : RdI (w.alloc (.cells (bk x) 23)) w.heap.size 0 x := RdI.new x 23 rfl
  have hB0 : Below w.heap.size w (w.alloc (.cells (bk x) 23)) := b_al (Below.refl _ _) (Nat.le_refl _) _
  have HR := Lib.hid (hr.below hB0)
  clear hn hT hr hx
  go_enter Try.func54, Try.ntmps54
  go_wp2
  obtain ⟨w1, hw1⟩ : ∃ w1, w.alloc (.cells (bk x) 23) = w1 := ⟨_, rfl⟩
  rw [hw1] at RB hB0 HR ⊢
  clear hw1
  obtain ⟨b, off, f, t, rfl, hbb, hc0, hc1, hs⟩ := HR.out.at_ hlt'
  have hxy := HT.out (f, t) (by rw [← hs.out]; exact getDs_mem hlt')
  obtain ⟨hx0, hx1, hx2⟩ := hxy
  dsimp only at hx0 hx1 hx2
  rw [hs.out] at LC LB
  dsimp only at LC LB
  have hdoc : docRed x L k = (decide (x 8 ≤ t - f) && (decide (t - f < x 13) && (!((L.take k).any (partB x (docLast L (x 8) f))) && decide (min t (docLast L (x 8) f + x 11) - f < x 7)))) := by
    unfold docRed; rw [hs.out]
  obtain ⟨dw, hdw⟩ : ∃ dw, docLast L (x 8) f = dw := ⟨_, rfl⟩
  rw [hdw] at LC LB hdoc
  have HD := Lib.hid hdoc
  clear hdw hs hdoc
  have k0 : (0 : Int) ≤ (k : Int) := by omega
  have k1 : (k : Int) < (n : Int) := by omega
  have hwr : IntKind.i64.wrap (t - f) = t - f := wrap14 (t - f) (by omega) (by omega)
  have q0 : ∀ p : BelowOf w1, p.world.cell? ⟨b, off + k * 2, none⟩ = some (.int .i64 f) := fun p => p.cell hc0
  have q1 : ∀ p : BelowOf w1, p.world.cell? ⟨b, off + k * 2 + 1, none⟩ = some (.int .i64 t) := fun p => p.cell hc1
  refine wp_region_bel (by kernel_rfl) (by kernel_rfl) ?_
  repeat (go_big_quiet_step (first | (fail)))
  refine wpQuiet_nil ?_
  refine bel_all fun w2 hb2 => ?_
  have HB2 := Lib.hid (b_cl hB0 (Nat.le_refl _) hb2)
  have RB2 := RB.below hb2
  have HR2 := Lib.hid (HR.out.below hb2)
  rw [← hb2.cell (p := ⟨b, _, none⟩) hbb] at hc0 hc1
  have hbw2 : b < w2.heap.size := by have := hb2.size; omega
  clear q0 q1 hb2 RB HR hB0 hbb
  have q0 : ∀ p : BelowOf w2, p.world.cell? ⟨b, off + k * 2, none⟩ = some (.int .i64 f) := fun p => p.cell hc0
  have q8 : ∀ p : BelowOf w2, p.world.cell? ⟨w.heap.size, 8, none⟩ = some (.int .i64 (x 8)) := fun p => p.cell (RB2.2 8 (by omega))
  have CL := fun p : BelowOf w2 => LC p.world (HR2.out.below p.ok)
  go_wp2
  refine wp_region_bel (by kernel_rfl) (by kernel_rfl) ?_
  repeat (go_big_quiet_step (first | (go_at_call 50; (with_reducible exact Calls.bel_of (CL _)))))
  refine wpQuiet_nil ?_
  refine bel_all fun w3 hb3 => ?_
  have HB3 := Lib.hid (HB2.out.trans (hb3.mono HB2.out.size))
  have RB3 := RB2.below hb3
  have HR3 := Lib.hid (HR2.out.below hb3)
  rw [← hb3.cell (p := ⟨b, _, none⟩) hbw2] at hc0 hc1
  have hbw3 : b < w3.heap.size := by have := hb3.size; omega
  clear q0 q8 CL LC hb3 RB2 HR2 HB2 hbw2
  have f8 : w3.cell? ⟨w.heap.size, 8, none⟩ = some (.int .i64 (x 8)) := RB3.2 8 (by omega)
  have f13 : w3.cell? ⟨w.heap.size, 13, none⟩ = some (.int .i64 (x 13)) := RB3.2 13 (by omega)
  by_cases g8 : x 8 ≤ t - f
  case neg =>
    have e8 : decide (t - f < x 8) = true := decide_eq_true (by omega)
    have HV := Lib.hid (show docRed x L k = false by rw [HD.out, decide_eq_false g8]; rfl)
    clear g8
    go_wp2
    go_ret
    exact ⟨by rw [HV.out]; rfl, HB3.out⟩
  have e8 : decide (t - f < x 8) = false := decide_eq_false (by omega)
  by_cases g13 : t - f < x 13
  case neg =>
    have e13 : decide (x 13 ≤ t - f) = true := decide_eq_true (by omega)
    have HV := Lib.hid (show docRed x L k = false by rw [HD.out, decide_eq_false g13, Bool.false_and, Bool.and_false])
    clear g8 g13
    go_wp2
    go_ret
    exact ⟨by rw [HV.out]; rfl, HB3.out⟩
  have e13 : decide (x 13 ≤ t - f) = false := decide_eq_false (by omega)
  have HD2 := Lib.hid (show docRed x L k = (!((L.take k).any (partB x dw)) && decide (min t (dw + x 11) - f < x 7)) by rw [HD.out, decide_eq_true g8, decide_eq_true g13, Bool.true_and, Bool.true_and])
  clear g8 g13 HD
  go_wp2
  clear f8 f13 e8 e13
  go_loopw [9] (fun i wr => ∃ j : Nat, j ≤ k ∧ i = .int .i64 (j : Nat) ∧ Hid ((L.take j).any (partB x dw) = false) ∧ Hid (Below w3.heap.size w3 wr)) (fun i _ => k - (intOf i).toNat)
  case atStart => exact ⟨0, Nat.zero_le _, rfl, Lib.hid rfl, Lib.hid (Below.refl _ _)⟩
  case round =>
    obtain ⟨j, hj, rfl, HA, HB⟩ := hrel
    obtain ⟨w4, rfl⟩ : ∃ w4 : World, w4 = wr := ⟨_, rfl⟩
    have hsz := HB.out.size
    have RB4 := RB3.below HB.out
    by_cases hlt : j < k
    case neg =>
      obtain rfl : j = k := by omega
      have HD3 := Lib.hid (show docRed x L j = decide (min t (dw + x 11) - f < x 7) by rw [HD2.out, HA.out]; rfl)
      rw [← HB.out.cell (p := ⟨b, _, none⟩) hbw3] at hc0 hc1
      have f11 : w4.cell? ⟨w.heap.size, 11, none⟩ = some (.int .i64 (x 11)) := RB4.2 11 (by omega)
      have f7 : ∀ p : BelowOf w4, p.world.cell? ⟨w.heap.size, 7, none⟩ = some (.int .i64 (x 7)) := fun p => p.cell (RB4.2 7 (by omega))
      have q0 : ∀ p : BelowOf w4, p.world.cell? ⟨b, off + j * 2, none⟩ = some (.int .i64 f) := fun p => p.cell hc0
      have hw11 : IntKind.i64.wrap (dw + x 11) = dw + x 11 := wrap14 (dw + x 11) (by omega) (by omega)
      have hw12 : IntKind.i64.wrap (dw + x 11 - f) = dw + x 11 - f := wrap14 (dw + x 11 - f) (by omega) (by omega)
      clear HD2 HA RB4 RB3
      by_cases gm : dw + x 11 < t
      · have em : decide (dw + x 11 < t) = true := decide_eq_true gm
        have HV := Lib.hid (show docRed x L j = decide (dw + x 11 - f < x 7) by rw [HD3.out, Int.min_eq_right (by omega)])
        clear gm HD3
        go_wp2
        refine wp_region_bel (by kernel_rfl) (by kernel_rfl) ?_
        repeat (go_big_quiet_step (first | (fail)))
        refine wpQuiet_nil ?_
        refine bel_all fun w5 hb5 => ?_
        clear q0 f7
        go_wp2
        go_ret
        exact ⟨by rw [HV.out]; rfl, (HB3.out.trans (HB.out.mono HB3.out.size)).trans (hb5.mono (Nat.le_trans HB3.out.size hsz))⟩
      · have em : decide (dw + x 11 < t) = false := decide_eq_false gm
        have HV := Lib.hid (show docRed x L j = decide (t - f < x 7) by rw [HD3.out, Int.min_eq_left (by omega)])
        clear gm HD3
        go_wp2
        refine wp_region_bel (by kernel_rfl) (by kernel_rfl) ?_
        repeat (go_big_quiet_step (first | (fail)))
        refine wpQuiet_nil ?_
        refine bel_all fun w5 hb5 => ?_
        clear q0 f7
        go_wp2
        go_ret
        exact ⟨by rw [HV.out]; rfl, (HB3.out.trans (HB.out.mono HB3.out.size)).trans (hb5.mono (Nat.le_trans HB3.out.size hsz))⟩
    have hltj : j < L.length := by omega
    obtain ⟨b', off', f', t', hA', hbb', hj0, hj1, hs'⟩ := HR3.out.at_ hltj
    obtain ⟨rfl, rfl⟩ : b = b' ∧ off = off' := by simpa using hA'
    clear hA'
    rw [← HB.out.cell (p := ⟨b, _, none⟩) hbb'] at hj0 hj1
    have hxy := HT.out (f', t') (by rw [← hs'.out]; exact getDs_mem hltj)
    obtain ⟨hy0, hy1, hy2⟩ := hxy
    dsimp only at hy0 hy1 hy2
    have HM := Lib.hid (any_more (p := partB x dw) hltj)
    have HH := Lib.hid (fun h => any_hit (p := partB x dw) hlt (Nat.le_of_lt hlt') h)
    rw [hs'.out] at HM HH
    have hwj : IntKind.i64.wrap (t' - f') = t' - f' := wrap14 (t' - f') (by omega) (by omega)
    have q0 : ∀ p : BelowOf w4, p.world.cell? ⟨b, off + j * 2, none⟩ = some (.int .i64 f') := fun p => p.cell hj0
    have q1 : ∀ p : BelowOf w4, p.world.cell? ⟨b, off + j * 2 + 1, none⟩ = some (.int .i64 t') := fun p => p.cell hj1
    have j0 : (0 : Int) ≤ (j : Int) := by omega
    have j1 : (j : Int) < (n : Int) := by omega
    clear hs' hbb'
    go_wp2
    refine wp_region_bel (by kernel_rfl) (by kernel_rfl) ?_
    repeat (go_big_quiet_step (first | (fail)))
    refine wpQuiet_nil ?_
    refine bel_all fun w5 hb5 => ?_
    have HB5 := Lib.hid (HB.out.trans (hb5.mono hsz))
    have RB5 := RB4.below hb5
    rw [← hb5.cell (p := ⟨b, _, none⟩) (show b < w4.heap.size by omega)] at hj0
    have f10 : w5.cell? ⟨w.heap.size, 10, none⟩ = some (.int .i64 (x 10)) := RB5.2 10 (by omega)
    have f8 : w5.cell? ⟨w.heap.size, 8, none⟩ = some (.int .i64 (x 8)) := RB5.2 8 (by omega)
    have hbw5 : b < w5.heap.size := by have := hb5.size; omega
    clear q0 q1 hb5 RB4 RB5 hj1
    by_cases g1 : dw ≤ f'
    case neg =>
      have e1 : decide (dw ≤ f') = false := decide_eq_false g1
      have HF := Lib.hid (show (L.take (j + 1)).any (partB x dw) = false by rw [HM.out, HA.out]; unfold partB; rw [decide_eq_false g1]; rfl)
      clear g1 HM HH HA
      go_wp2
      go_roundw
      case rel => exact ⟨j + 1, by omega, by go_num, HF, HB5⟩
      case measure => simp [intOf]; omega
    have e1 : decide (dw ≤ f') = true := decide_eq_true g1
    by_cases g2 : x 10 ≤ t' - f'
    case neg =>
      have e2 : decide (x 10 ≤ t' - f') = false := decide_eq_false g2
      have HF := Lib.hid (show (L.take (j + 1)).any (partB x dw) = false by rw [HM.out, HA.out]; unfold partB; rw [decide_eq_false g2, Bool.false_and, Bool.and_false]; rfl)
      clear g1 g2 HM HH HA
      go_wp2
      go_roundw
      case rel => exact ⟨j + 1, by omega, by go_num, HF, HB5⟩
      case measure => simp [intOf]; omega
    have e2 : decide (x 10 ≤ t' - f') = true := decide_eq_true g2
    by_cases g3 : t' - f' < x 8
    case neg =>
      have e3 : decide (t' - f' < x 8) = false := decide_eq_false g3
      have HF := Lib.hid (show (L.take (j + 1)).any (partB x dw) = false by rw [HM.out, HA.out]; unfold partB; rw [decide_eq_false g3, Bool.and_false, Bool.and_false]; rfl)
      clear g1 g2 g3 HM HH HA
      go_wp2
      go_roundw
      case rel => exact ⟨j + 1, by omega, by go_num, HF, HB5⟩
      case measure => simp [intOf]; omega
    have e3 : decide (t' - f' < x 8) = true := decide_eq_true g3
    have HV := Lib.hid (show docRed x L k = false by
      rw [HD2.out, HH.out (by unfold partB; rw [decide_eq_true g1, decide_eq_true g2, decide_eq_true g3]; rfl)]; rfl)
    clear g1 g2 g3 HM HH HA HD2
    go_wp2
    go_ret
    exact ⟨by rw [HV.out]; rfl, HB3.out.trans (HB5.out.mono HB3.out.size)⟩

end Go.Proofs.Ytlbafgdbemhanaa

/- What the document's Longers of layer 16 returns. Conditions: the kinds and the rests can be read; the rests lie in the timeline; the book may be. -/
namespace Go.Proofs.Ytlbafgdbemhanaa
open Go.RowKit

/-- What Longers tells: the days ahead of the minute with more driving than Day, this one too. -/
def longN (x : Nat → Int) (ks : List Int) (L : List (Int × Int)) (fr : Int) (m : Nat) : Int := (docLongF x ks L fr).2 + if x 4 < cntK ks 3 3 (docLongF x ks L fr).1 (m + 1) then 1 else 0

set_option maxRecDepth 20000 in
set_option maxHeartbeats 4000000 in
theorem longers16_any (x : Nat → Int) (A B : Option Addr) (c n cB nB m : Nat) (ks : List Int) (L : List Sp) (fr : Int) (w : World) (hk : ks.length = n) (hrk : RdN w A ks) (hn : L.length = nB) (hr : RdS w B L) (hT : InT L) (hI : ∀ q ∈ L, q.2 ≤ n) (h4 : n ≤ 40320) (h5 : nB ≤ 100000) (hm : m < n) (h0 : 0 ≤ fr) (h1 : fr ≤ 40320) :
    Calls Try.prog 53 #[.agg (bk x), .slice A n c, .slice B nB cB, .int .i64 fr, .int .i64 (m : Nat)] w fun e w' => e = .returned (.int .i64 (longN x ks L fr m)) ∧ Below w.heap.size w w' := by
  have CC := fun W h lo hi a1 a2 a3 a4 => (count16_any A c n ks 3 3 lo hi W hk h a1 a2 a3 a4 (by omega)).mono fun e w' (q : e = _ ∧ W = w') => (⟨q.1, q.2 ▸ Below.refl _ _⟩ : e = .returned (.int .i64 (cntK ks 3 3 lo (hi + 1).toNat)) ∧ Below W.heap.size W w')
  have LB := fun k => long_bd (x := x) (ks := ks) h0 h1 (hT.take k)
  have HN := Lib.hid hn
  have HT := Lib.hid hT
  have HI := Lib.hid hI
  have RB : RdI (w.alloc (.cells (bk x) 23)) w.heap.size 0 x := RdI.new x 23 rfl
  have hB0 : Below w.heap.size w (w.alloc (.cells (bk x) 23)) := b_al (Below.refl _ _) (Nat.le_refl _) _
  have HR := Lib.hid (hr.below hB0)
  have HK := Lib.hid (hrk.below hB0)
  clear hn hT hr hk hrk hI
  go_enter Try.func53, Try.ntmps53
  go_wp2
  obtain ⟨w1, hw1⟩ : ∃ w1, w.alloc (.cells (bk x) 23) = w1 := ⟨_, rfl⟩
  rw [hw1] at RB hB0 HR HK ⊢
  clear hw1
  go_loopw [11, 12, 13] (fun v d i wr => ∃ (k : Nat) (dy q : Int), k ≤ nB + 1 ∧ i = .int .i64 (k : Nat) ∧ v = .int .i64 q ∧ d = .int .i64 dy ∧ Hid (k ≤ nB → docLongF x ks (L.take k) fr = (dy, q)) ∧ Hid (k = nB + 1 → longN x ks L fr m = q) ∧ Hid (Below w1.heap.size w1 wr)) (fun _ _ i _ => nB + 1 - (intOf i).toNat)
  case atStart => exact ⟨0, fr, 0, by omega, rfl, rfl, rfl, Lib.hid fun _ => rfl, Lib.hid (by omega), Lib.hid (Below.refl _ _)⟩
  case round =>
    obtain ⟨k, dy, q, hk, rfl, rfl, rfl, HQ, HE, HB⟩ := hrel
    obtain ⟨w2, rfl⟩ : ∃ w2 : World, w2 = wr := ⟨_, rfl⟩
    have hsz := HB.out.size
    by_cases hlt : k ≤ nB
    case neg =>
      have HE2 := Lib.hid (HE.out (by omega))
      have dd : (k : Int) = (nB : Int) + 1 := by omega
      clear HQ HE
      go_wp2
      go_ret
      exact ⟨by rw [HE2.out]; rfl, b_cl hB0 (Nat.le_refl _) HB.out⟩
    have hq := HQ.out hlt
    have LBk := LB k
    rw [hq] at LBk
    dsimp only at LBk
    have hlen : (L.take k).length ≤ nB := by rw [List.length_take]; omega
    have HQ2 := Lib.hid hq
    have RB2 := RB.below HB.out
    have k0 : (0 : Int) ≤ (k : Int) := by omega
    clear HQ HE hq LB
    by_cases hend : k = nB
    case pos =>
      have e0 : decide ((k : Int) < (nB : Int)) = false := decide_eq_false (by omega)
      have e00 : decide (k < nB) = false := decide_eq_false (by omega)
      have hwm : IntKind.i64.wrap ((m : Int) + 1) = (m : Int) + 1 := wrap14 _ (by omega) (by omega)
      have hwm2 : IntKind.i64.wrap ((m : Int) + 1 - 1) = (m : Int) := by rw [show (m : Int) + 1 - 1 = (m : Int) by omega]; exact wrap14 _ (by omega) (by omega)
      have CN := fun p : BelowOf w2 => CC p.world ((HK.out.below HB.out).below p.ok) dy (m : Int) (by omega) (by omega) (by omega) (by omega)
      have HV := Lib.hid (show longN x ks L fr m = q + if x 4 < cntK ks 3 3 dy ((m : Int) + 1).toNat then 1 else 0 by
        have h6 := HQ2.out
        rw [List.take_of_length_le (by rw [HN.out]; omega)] at h6
        unfold longN
        rw [h6, show ((m : Int) + 1).toNat = m + 1 by omega])
      obtain ⟨cv, hcv⟩ : ∃ cv, cntK ks 3 3 dy ((m : Int) + 1).toNat = cv := ⟨_, rfl⟩
      rw [hcv] at CN HV
      have q4 : ∀ p : BelowOf w2, p.world.cell? ⟨w.heap.size, 4, none⟩ = some (.int .i64 (x 4)) := fun p => p.cell (RB2.2 4 (by omega))
      clear hcv HQ2 CC
      by_cases g : x 4 < cv
      · have e4 : decide (x 4 < cv) = true := decide_eq_true g
        have HF := Lib.hid (show longN x ks L fr m = q + 1 by rw [HV.out, if_pos g])
        clear g HV
        go_wp2
        refine wp_region_bel (by kernel_rfl) (by kernel_rfl) ?_
        repeat (go_big_quiet_step (first | (go_at_call 51; (with_reducible exact Calls.bel_of (CN _)))))
        refine wpQuiet_nil ?_
        refine bel_all fun w3 hb3 => ?_
        have HB3 := Lib.hid (HB.out.trans (hb3.mono hsz))
        clear q4 CN hb3 RB2
        go_wp2
        go_roundw
        case rel => exact ⟨k + 1, (m : Int) + 1, q + 1, by omega, by go_num, by go_num, rfl, Lib.hid (by omega), Lib.hid (fun _ => HF.out), HB3⟩
        case measure => simp [intOf]; omega
      · have e4 : decide (x 4 < cv) = false := decide_eq_false g
        have HF := Lib.hid (show longN x ks L fr m = q by rw [HV.out, if_neg g, Int.add_zero])
        clear g HV
        go_wp2
        refine wp_region_bel (by kernel_rfl) (by kernel_rfl) ?_
        repeat (go_big_quiet_step (first | (go_at_call 51; (with_reducible exact Calls.bel_of (CN _)))))
        refine wpQuiet_nil ?_
        refine bel_all fun w3 hb3 => ?_
        have HB3 := Lib.hid (HB.out.trans (hb3.mono hsz))
        clear q4 CN hb3 RB2
        go_wp2
        go_roundw
        case rel => exact ⟨k + 1, (m : Int) + 1, q, by omega, by go_num, rfl, rfl, Lib.hid (by omega), Lib.hid (fun _ => HF.out), HB3⟩
        case measure => simp [intOf]; omega
    have hlt' : k < L.length := by rw [HN.out]; omega
    have e0 : decide ((k : Int) < (nB : Int)) = true := decide_eq_true (by omega)
    have e00 : decide (k < nB) = true := decide_eq_true (by omega)
    have k1 : (k : Int) < (nB : Int) := by omega
    obtain ⟨b, off, f, t, rfl, hbb, hc0, hc1, hs⟩ := HR.out.at_ hlt'
    rw [← HB.out.cell (p := ⟨b, _, none⟩) hbb] at hc0 hc1
    have hmem : (f, t) ∈ L := by rw [← hs.out]; exact getDs_mem hlt'
    have hxy := HT.out (f, t) hmem
    have htn := HI.out (f, t) hmem
    obtain ⟨hx0, hx1, hx2⟩ := hxy
    dsimp only at hx0 hx1 hx2 htn
    have HM := Lib.hid (long_more (x := x) (ks := ks) (fr := fr) hlt' hs.out)
    rw [HQ2.out] at HM
    dsimp only at HM
    have hwr : IntKind.i64.wrap (t - f) = t - f := wrap14 (t - f) (by omega) (by omega)
    have q0 : ∀ p : BelowOf w2, p.world.cell? ⟨b, off + k * 2, none⟩ = some (.int .i64 f) := fun p => p.cell hc0
    have q1 : ∀ p : BelowOf w2, p.world.cell? ⟨b, off + k * 2 + 1, none⟩ = some (.int .i64 t) := fun p => p.cell hc1
    have q8 : ∀ p : BelowOf w2, p.world.cell? ⟨w.heap.size, 8, none⟩ = some (.int .i64 (x 8)) := fun p => p.cell (RB2.2 8 (by omega))
    clear hs hmem HQ2
    by_cases g1 : t ≤ fr
    case pos =>
      have e1 : decide (t ≤ fr) = true := decide_eq_true g1
      have HF := Lib.hid (show docLongF x ks (L.take (k + 1)) fr = (dy, q) by rw [HM.out, if_pos (.inl g1)])
      clear g1 HM CC
      go_wp2
      refine wp_region_bel (by kernel_rfl) (by kernel_rfl) ?_
      repeat (go_big_quiet_step (first | (fail)))
      refine wpQuiet_nil ?_
      refine bel_all fun w3 hb3 => ?_
      have HB3 := Lib.hid (HB.out.trans (hb3.mono hsz))
      clear q0 q1 q8 hb3
      go_wp2
      go_roundw
      case rel => exact ⟨k + 1, dy, q, by omega, by go_num, rfl, rfl, Lib.hid (fun _ => HF.out), Lib.hid (by omega), HB3⟩
      case measure => simp [intOf]; omega
    have e1 : decide (t ≤ fr) = false := decide_eq_false g1
    by_cases g2 : t - f < x 8
    case pos =>
      have e2 : decide (t - f < x 8) = true := decide_eq_true g2
      have HF := Lib.hid (show docLongF x ks (L.take (k + 1)) fr = (dy, q) by rw [HM.out, if_pos (.inr g2)])
      clear g1 g2 HM CC
      go_wp2
      refine wp_region_bel (by kernel_rfl) (by kernel_rfl) ?_
      repeat (go_big_quiet_step (first | (fail)))
      refine wpQuiet_nil ?_
      refine bel_all fun w3 hb3 => ?_
      have HB3 := Lib.hid (HB.out.trans (hb3.mono hsz))
      clear q0 q1 q8 hb3
      go_wp2
      go_roundw
      case rel => exact ⟨k + 1, dy, q, by omega, by go_num, rfl, rfl, Lib.hid (fun _ => HF.out), Lib.hid (by omega), HB3⟩
      case measure => simp [intOf]; omega
    have e2 : decide (t - f < x 8) = false := decide_eq_false g2
    have HM2 := Lib.hid (show docLongF x ks (L.take (k + 1)) fr = (t, q + if x 4 < cntK ks 3 3 dy t.toNat then 1 else 0) by rw [HM.out, if_neg (fun h => h.elim g1 g2)])
    clear g1 g2 HM
    go_wp2
    refine wp_region_bel (by kernel_rfl) (by kernel_rfl) ?_
    repeat (go_big_quiet_step (first | (fail)))
    refine wpQuiet_nil ?_
    refine bel_all fun w3 hb3 => ?_
    have HB3 := Lib.hid (HB.out.trans (hb3.mono hsz))
    have hsz3 := HB3.out.size
    have RB3 := RB2.below hb3
    rw [← hb3.cell (p := ⟨b, _, none⟩) (show b < w2.heap.size by omega)] at hc1
    have hbw3 : b < w3.heap.size := by have := hb3.size; omega
    clear q0 q1 q8 hb3 e1 e2 hc0 RB2 hwr
    have CN := fun p : BelowOf w3 => CC p.world ((HK.out.below HB3.out).below p.ok) dy (t - 1) (by omega) (by omega) (by omega) (by omega)
    rw [show (t - 1 + 1).toNat = t.toNat by omega] at CN
    obtain ⟨cv, hcv⟩ : ∃ cv, cntK ks 3 3 dy t.toNat = cv := ⟨_, rfl⟩
    rw [hcv] at CN HM2
    have hw1 : IntKind.i64.wrap (t - 1) = t - 1 := wrap14 _ (by omega) (by omega)
    have q4 : ∀ p : BelowOf w3, p.world.cell? ⟨w.heap.size, 4, none⟩ = some (.int .i64 (x 4)) := fun p => p.cell (RB3.2 4 (by omega))
    clear hcv CC
    by_cases g : x 4 < cv
    · have e4 : decide (x 4 < cv) = true := decide_eq_true g
      have HF := Lib.hid (show docLongF x ks (L.take (k + 1)) fr = (t, q + 1) by rw [HM2.out, if_pos g])
      clear g HM2
      go_wp2
      refine wp_region_bel (by kernel_rfl) (by kernel_rfl) ?_
      repeat (go_big_quiet_step (first | (go_at_call 51; (with_reducible exact Calls.bel_of (CN _)))))
      refine wpQuiet_nil ?_
      refine bel_all fun w4 hb4 => ?_
      have HB4 := Lib.hid (HB3.out.trans (hb4.mono hsz3))
      clear q4 CN hb4 RB3
      go_wp2
      go_roundw
      case rel => exact ⟨k + 1, t, q + 1, by omega, by go_num, by go_num, rfl, Lib.hid (fun _ => HF.out), Lib.hid (by omega), HB4⟩
      case measure => simp [intOf]; omega
    · have e4 : decide (x 4 < cv) = false := decide_eq_false g
      have HF := Lib.hid (show docLongF x ks (L.take (k + 1)) fr = (t, q) by rw [HM2.out, if_neg g, Int.add_zero])
      clear g HM2
      go_wp2
      refine wp_region_bel (by kernel_rfl) (by kernel_rfl) ?_
      repeat (go_big_quiet_step (first | (go_at_call 51; (with_reducible exact Calls.bel_of (CN _)))))
      refine wpQuiet_nil ?_
      refine bel_all fun w4 hb4 => ?_
      have HB4 := Lib.hid (HB3.out.trans (hb4.mono hsz3))
      clear q4 CN hb4 RB3
      go_wp2
      go_roundw
      case rel => exact ⟨k + 1, t, q, by omega, by go_num, rfl, rfl, Lib.hid (fun _ => HF.out), Lib.hid (by omega), HB4⟩
      case measure => simp [intOf]; omega

end Go.Proofs.Ytlbafgdbemhanaa

/- What the document's Rests of layer 16 returns. Conditions: the kinds can be read. -/
namespace Go.Proofs.Ytlbafgdbemhanaa
open Go.RowKit

theorem rests_next (ks : List Int) (i : Nat) : (¬ kAt ks i = 0 → restsL ks (i + 1) = restsL ks i) ∧
    (kAt ks i = 0 → 0 < i → kAt ks (i - 1) = 0 → ∃ E f, restsL ks i = E ++ [(f, (i : Int))] ∧ restsL ks (i + 1) = E ++ [(f, (i : Int) + 1)]) ∧
    (kAt ks i = 0 → (i = 0 ∨ ¬ kAt ks (i - 1) = 0) → restsL ks (i + 1) = restsL ks i ++ [((i : Int), (i : Int) + 1)]) := by
  unfold restsL
  refine ⟨fun h => ?_, fun h h0 h1 => ?_, fun h h1 => ?_⟩
  · rw [eR_awake h]
    show fullR _ 0 _ = _
    unfold fullR
    rw [if_neg (by omega)]
  · rw [eR_rest h]
    obtain ⟨j, rfl⟩ : ∃ j, i = j + 1 := ⟨i - 1, by omega⟩
    rw [Nat.add_sub_cancel] at h1
    rw [eR_rest h1]
    dsimp only
    refine ⟨(eR ks j).1, ((j + 1 : Nat) : Int) - ((eR ks j).2 + 1 : Nat), ?_, ?_⟩
    · unfold fullR; rw [if_pos (by omega)]
    · unfold fullR
      rw [if_pos (by omega)]
      congr 3
      · omega
  · rw [eR_rest h]
    have hr : (eR ks i).2 = 0 := by
      rcases h1 with rfl | h1
      · rfl
      · obtain ⟨j, rfl⟩ : ∃ j, i = j + 1 := by
          refine ⟨i - 1, ?_⟩
          rcases Nat.eq_zero_or_pos i with hz | hz
          · subst hz; exact absurd h h1
          · omega
        rw [Nat.add_sub_cancel] at h1
        rw [eR_awake h1]
    dsimp only
    rw [hr]
    unfold fullR
    rw [if_pos (by omega), if_neg (by omega)]
    congr 3
    omega
theorem rests_len (ks : List Int) : ∀ i, (restsL ks i).length ≤ i
  | 0 => Nat.le_refl _
  | i + 1 => by
    have ih := rests_len ks i
    obtain ⟨r1, r2, r3⟩ := rests_next ks i
    by_cases h : kAt ks i = 0
    · by_cases h1 : 0 < i ∧ kAt ks (i - 1) = 0
      · obtain ⟨E, f, e1, e2⟩ := r2 h h1.1 h1.2
        rw [e1] at ih
        rw [e2]
        simp only [List.length_append, List.length_singleton] at ih ⊢
        omega
      · rw [r3 h (by
          rcases Nat.eq_zero_or_pos i with hz | hz
          · exact .inl hz
          · exact .inr fun hh => h1 ⟨hz, hh⟩)]
        simp only [List.length_append, List.length_singleton]
        omega
    · rw [r1 h]; omega

set_option maxRecDepth 20000 in
set_option maxHeartbeats 2000000 in
theorem rests16_any (A : Option Addr) (c n m : Nat) (ks : List Int) (w : World) (hn : ks.length = n) (hr : RdN w A ks) (hm : m ≤ n) (h4 : n ≤ 100000) :
    Calls Try.prog 49 #[.slice A n c, .int .i64 (m : Nat)] w fun e w' => ∃ v, e = .returned v ∧ Own w.heap.size w' v (restsL ks m) ∧ Below w.heap.size w w' := by
  obtain ⟨i0, hi, hz0, hz1, hz2⟩ := info_parts info_span
  have HN := Lib.hid hn
  have HR := Lib.hid hr
  clear hn hr
  go_enter Try.func49, Try.ntmps49
  go_wp2
  go_loopw [5, 6] (fun v i wr => ∃ (k q : Nat) (A' : Option Addr) (c' : Nat), k ≤ m ∧ i = .int .i64 (k : Nat) ∧ v = .slice A' q c' ∧ Hid ((restsL ks k).length = q) ∧ q ≤ k ∧ Hid (Own w.heap.size wr (.slice A' q c') (restsL ks k)) ∧ Below w.heap.size w wr) (fun _ i _ => m - (intOf i).toNat)
  case atStart => exact ⟨0, 0, none, 0, Nat.zero_le _, rfl, rfl, Lib.hid rfl, Nat.le_refl _, Lib.hid (Own.nil _ _), Below.refl _ _⟩
  case round =>
    obtain ⟨k, q, A', c', hk, rfl, rfl, HQ, hqk, hown, hb⟩ := hrel
    obtain ⟨w3, rfl⟩ : ∃ w3 : World, w3 = wr := ⟨_, rfl⟩
    have hsz := hb.size
    by_cases hlt : k < m
    case neg =>
      obtain rfl : k = m := by omega
      clear HQ
      go_wp2
      go_ret
      exact ⟨_, rfl, hown.out, hb⟩
    have hil : k < ks.length := by rw [HN.out]; omega
    have hkn : k < n := by omega
    obtain ⟨bb, off, rfl, hbb, hcell⟩ := HR.out (nonnil hil)
    have hc0 := hcell k hil
    rw [← hb.cell (p := ⟨bb, _, none⟩) hbb] at hc0
    rw [show ks.getD k 0 = kAt ks k from rfl] at hc0
    have hbr : bb < w3.heap.size := by omega
    obtain ⟨r1, r2, r3⟩ := rests_next ks k
    have k0 : (0 : Int) ≤ (k : Int) := by omega
    have k1 : (k : Int) < (n : Int) := by omega
    by_cases hz : kAt ks k = 0
    case neg =>
      have HE := Lib.hid (r1 hz)
      obtain ⟨kv, hkv⟩ : ∃ kv, kAt ks k = kv := ⟨_, rfl⟩
      rw [hkv] at hc0 hz
      have e1 : (kv != 0) = true := by simpa using hz
      clear r1 r2 r3 hcell hkv hz
      go_wp2
      go_roundw
      case rel => exact ⟨k + 1, q, A', c', by omega, by go_num, rfl, Lib.hid (by rw [HE.out]; exact HQ.out), by omega, Lib.hid (by rw [HE.out]; exact hown.out), hb⟩
      case measure => simp [intOf]; omega
    rw [hz] at hc0
    have r2 := r2 hz
    have r3 := r3 hz
    clear r1
    have hlr : ∀ g, (Value.slice A' q c').ownBlock = some g → w.heap.size ≤ g ∧ g < w3.heap.size := fun g hg => World.ownsRow.lt hown.out g hg
    by_cases hk0 : 0 < k
    case neg =>
      have hkz : k = 0 := by omega
      have HE := Lib.hid (r3 (.inl hkz))
      have d0 : decide ((0 : Int) < (k : Int)) = false := decide_eq_false (by omega)
      have d1 : decide (0 < k) = false := decide_eq_false hk0
      have HL5 := Lib.hid (show (restsL ks k ++ [((k : Int), (k : Int) + 1)]).length = q + 1 by rw [List.length_append, HQ.out]; rfl)
      have HOW := Lib.hid (Own.alloc hown.out (.cells #[.int .i64 (k : Nat), .int .i64 ((k : Int) + 1)] 84))
      have HBW := Lib.hid (b_al hb (Nat.le_refl _) (.cells #[.int .i64 (k : Nat), .int .i64 ((k : Int) + 1)] 84))
      obtain ⟨lv, hlv⟩ : ∃ lv, restsL ks k = lv := ⟨_, rfl⟩
      have hnb := HQ.out
      rw [hlv] at HOW HL5 HE hnb
      clear hcell r2 r3 hkz hown HQ hlv hz hk0
      go_wp2_with (at_builtin; refine wpList_append_own _ rfl _ _ 80 rfl w.heap.size 84 i0 (.agg #[.int .i64 0, .int .i64 0]) 2 16 Try.underlying80 hi hz0 hz1 hz2 rfl (by decide) _ _ _ rfl HOW.out ⟨w3.heap.size, 0, none⟩ 1 1 [.int .i64 (k : Nat), .int .i64 ((k : Int) + 1)] rfl rfl one_news one_cell2 (by unfold maxLen; omega) (by omega) (by simp; omega) ?_; intro v5 w5 hown5 hgrow5 _; have HS := Lib.hid (Own.snoc hown5); have HB5 := Lib.hid (HBW.out.grown hgrow5 (by simp; omega) (fun g hg => (hlr g hg).1)); clear hown5 hgrow5)
      obtain ⟨A5, c5, rfl, _⟩ := HS.out.form
      go_wp2
      go_roundw
      case rel => exact ⟨k + 1, q + 1, A5, c5, by omega, by go_num, by rw [HL5.out], Lib.hid (by rw [HE.out]; exact HL5.out), by omega, Lib.hid (by rw [HE.out]; have := HS.out; rw [HL5.out] at this; exact this), HB5.out⟩
      case measure => simp [intOf]; omega
    obtain ⟨j, hj⟩ : ∃ j, k - 1 = j := ⟨_, rfl⟩
    have hkj : k = j + 1 := by omega
    have hcj := hcell j (by omega)
    rw [← hb.cell (p := ⟨bb, _, none⟩) hbb, show ks.getD j 0 = kAt ks j from rfl] at hcj
    rw [hj] at r2 r3
    have d0 : decide ((0 : Int) < (k : Int)) = true := decide_eq_true (by omega)
    have d1 : decide (0 < k) = true := decide_eq_true hk0
    have dj : (k : Int) - 1 = (j : Int) := by omega
    have j0 : (0 : Int) ≤ (j : Int) := by omega
    have j1 : (j : Int) < (n : Int) := by omega
    by_cases hzj : kAt ks j = 0
    case pos =>
      rw [hzj] at hcj
      obtain ⟨E, f, e1, e2⟩ := r2 hk0 hzj
      have HE2 := Lib.hid e2
      have hl5 : (E ++ [(f, (k : Int))]).length = q := by rw [← e1]; exact HQ.out
      have hEq : E.length + 1 = q := by rw [List.length_append, List.length_singleton] at hl5; exact hl5
      have ho := hown.out
      rw [e1] at ho
      obtain ⟨A5, c5, hv5, hrd5, _, _⟩ := ho.form
      rw [hl5] at hv5
      simp only [Value.slice.injEq, true_and] at hv5
      obtain ⟨rfl, rfl⟩ := hv5
      obtain ⟨g, goff, rfl, hgb, hcells⟩ := hrd5 (by simp)
      obtain ⟨rfl, hgb2, hfz⟩ := own_some ho
      have hjn := own_joined (z := (k : Int) + 1) (j := E.length) (l' := E ++ [(f, (k : Int) + 1)]) ho hl5 (by simp) (flat_set E f _ _).symm
      have HJ := Lib.hid hjn
      have hce := (hcells E.length (by simp)).2
      rw [Nat.zero_add] at hce
      have hfz2 := hfz (E.length * 2 + 1)
      obtain ⟨el, hel⟩ : ∃ el, E.length = el := ⟨_, rfl⟩
      rw [hel] at hEq HJ hce hfz2
      have dq : (q : Int) - 1 = (el : Int) := by omega
      have q0 : (0 : Int) ≤ (el : Int) := by omega
      have q1 : (el : Int) < (q : Int) := by omega
      have HL5 := Lib.hid (show (E ++ [(f, (k : Int) + 1)]).length = q by rw [List.length_append, List.length_singleton]; omega)
      have HB5 := Lib.hid (show Below w.heap.size w (w3.setCell ⟨g, el * 2 + 1, none⟩ (.int .i64 ((k : Int) + 1))) from b_st hb (by simp; omega))
      have HEQ := Lib.hid hEq
      clear e1 e2 r2 r3 hown HQ ho hrd5 hl5 hcell hzj hz hjn hcells hfz hel hk0 hj hkj hEq
      go_wp2
      go_roundw
      case rel => exact ⟨k + 1, q, some ⟨g, 0, none⟩, c', by omega, by go_num, rfl, Lib.hid (by rw [HE2.out]; exact HL5.out), by omega, Lib.hid (by rw [HE2.out]; exact HJ.out), HB5.out⟩
      case measure => simp [intOf]; omega
    case neg =>
      have HE := Lib.hid (r3 (.inr hzj))
      obtain ⟨kv, hkv⟩ : ∃ kv, kAt ks j = kv := ⟨_, rfl⟩
      rw [hkv] at hcj hzj
      have e1 : (kv == 0) = false := by simpa using hzj
      have HL5 := Lib.hid (show (restsL ks k ++ [((k : Int), (k : Int) + 1)]).length = q + 1 by rw [List.length_append, HQ.out]; rfl)
      have HOW := Lib.hid (Own.alloc hown.out (.cells #[.int .i64 (k : Nat), .int .i64 ((k : Int) + 1)] 84))
      have HBW := Lib.hid (b_al hb (Nat.le_refl _) (.cells #[.int .i64 (k : Nat), .int .i64 ((k : Int) + 1)] 84))
      obtain ⟨lv, hlv⟩ : ∃ lv, restsL ks k = lv := ⟨_, rfl⟩
      have hnb := HQ.out
      rw [hlv] at HOW HL5 HE hnb
      clear hcell r2 r3 hown HQ hlv hz hk0 hj hkj hzj hkv
      go_wp2_with (at_builtin; refine wpList_append_own _ rfl _ _ 80 rfl w.heap.size 84 i0 (.agg #[.int .i64 0, .int .i64 0]) 2 16 Try.underlying80 hi hz0 hz1 hz2 rfl (by decide) _ _ _ rfl HOW.out ⟨w3.heap.size, 0, none⟩ 1 1 [.int .i64 (k : Nat), .int .i64 ((k : Int) + 1)] rfl rfl one_news one_cell2 (by unfold maxLen; omega) (by omega) (by simp; omega) ?_; intro v5 w5 hown5 hgrow5 _; have HS := Lib.hid (Own.snoc hown5); have HB5 := Lib.hid (HBW.out.grown hgrow5 (by simp; omega) (fun g hg => (hlr g hg).1)); clear hown5 hgrow5)
      obtain ⟨A5, c5, rfl, _⟩ := HS.out.form
      go_wp2
      go_roundw
      case rel => exact ⟨k + 1, q + 1, A5, c5, by omega, by go_num, by rw [HL5.out], Lib.hid (by rw [HE.out]; exact HL5.out), by omega, Lib.hid (by rw [HE.out]; have := HS.out; rw [HL5.out] at this; exact this), HB5.out⟩
      case measure => simp [intOf]; omega

end Go.Proofs.Ytlbafgdbemhanaa

/- A book that is read whole in a region that draws its order and only reads. Conditions: the book can be read in each world of the class. -/
namespace Go.Proofs.Ytlbafgdbemhanaa
open Go.RowKit

theorem wpQuiet_load_bk {P : Program} {ops : Array Oper} {C : World → Prop} {Q : Act → Prop} {rest : List Oper} {o : Oper} {a : Act} (hgd : Region.wanted o (yielded ops a.tmps) = true) (ty : TypeId) (y : Operand) (ho : o.op = .load ty y)
    (b off : Nat) (hx : a.eval y = .pointer (some ⟨b, off, none⟩)) (x : Nat → Int) (d : TypeDesc) (hr : ∀ w, C w → RdI w b off x)
    (hu : P.underlying ty = some d) (hd : d.isRow = true) (hi : (P.info? ty).map (·.size) = some 19)
    (h : wpQuiet P ops C Q rest (a.put o.dst (.agg (bk x)))) : wpQuiet P ops C Q (o :: rest) a :=
  wpQuiet_step fun K hK => by
    rw [if_pos hgd]
    refine ⟨.agg (bk x), fun w hw => ?_, hK _ h⟩
    unfold Oper.quietAt execOp
    have hi' : (P.info? ty).map (·.size) = some (bk x).toList.length := by simpa [bk_size] using hi
    simp only [ho, hx, Instr.loadAt, Instr.sureAddr, Sem.run_bind, Sem.run_pure, Result.andThen_ok, run_loadVar_mid w b off ty (bk x).toList d (hr w hw).range hu hd hi']
    exact ⟨rfl, by simp⟩

end Go.Proofs.Ytlbafgdbemhanaa
